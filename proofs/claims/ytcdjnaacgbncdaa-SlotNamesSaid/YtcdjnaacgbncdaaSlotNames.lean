/- 'SlotNames' answers true, whatever the input (there is none). -/
import Derived.Test.YtcdjnaacgbncdaaRows
import Derived.Test.YtcdjnaacgbncdaaEP4
import Derived.Test.YtcdjnaacgbncdaaET1
import Derived.Test.YtcdjnaacgbncdaaCfg
namespace Go.Proofs.Ytcdjnaacgbncdaa.slotNames
open Go.ChangeShapes Go.WideShapes Go.ChangeAt Go.RowKit
set_option linter.unusedVariables false

theorem own : ownKnob Try.prog.godebug = none := by kernel_rfl

def mem0 : Eng.Memo := (8, [], .agg [.int .i64 (8), .int .i64 (4), .int .i64 (3), .int .i64 (88)])
theorem memo0 : Eng.MemoFact Try.prog cfg mem0 := Eng.memo_fact cfgOk (n := 4000) (ts := [27]) .nil (by kernel_rfl)
def mem1 : Eng.Memo := (31, [.int .i64 (3)], .tuple [.int .i64 (8), .int .i64 (0)])
theorem memo1 : Eng.MemoFact Try.prog cfg mem1 := Eng.memo_fact cfgOk (n := 4000) (ts := [3, 23]) .nil (by kernel_rfl)
def mem2 : Eng.Memo := (10, [.agg [.int .i64 (8), .int .i64 (4), .int .i64 (3), .int .i64 (88)]], .tuple [.int .i64 (2), .int .i64 (0)])
theorem memo2 : Eng.MemoFact Try.prog cfg mem2 := Eng.memo_fact cfgOk (n := 4000) (ts := [3, 23]) (.cons memo1 .nil) (by kernel_rfl)
def mem3 : Eng.Memo := (7, [.agg [.int .i64 (8), .int .i64 (4), .int .i64 (3), .int .i64 (88)]], .tuple [.slice 1 [.int .u8 (0), .int .u8 (0), .int .u8 (0), .int .u8 (0), .int .u8 (0), .int .u8 (0), .int .u8 (0), .int .u8 (0), .int .u8 (0), .int .u8 (0), .int .u8 (0), .int .u8 (0)] none false, .int .i64 (0)])
theorem memo3 : Eng.MemoFact Try.prog cfg mem3 := Eng.memo_fact cfgOk (n := 4000) (ts := [22, 23]) (.cons memo2 .nil) (by kernel_rfl)
def mem4 : Eng.Memo := (26, [.agg [.int .i64 (8), .int .i64 (4), .int .i64 (3), .int .i64 (88)]], .agg [.int .i64 (4), .int .i64 (4), .int .i64 (4)])
theorem memo4 : Eng.MemoFact Try.prog cfg mem4 := Eng.memo_fact cfgOk (n := 4000) (ts := [54]) .nil (by kernel_rfl)
def mem5 : Eng.Memo := (10, [.agg [.int .i64 (8), .int .i64 (4), .int .i64 (3), .int .i64 (89)]], .tuple [.int .i64 (0), .int .i64 (8)])
theorem memo5 : Eng.MemoFact Try.prog cfg mem5 := Eng.memo_fact cfgOk (n := 4000) (ts := [3, 23]) (.cons memo1 .nil) (by kernel_rfl)
def mem6 : Eng.Memo := (14, [], .agg [.int .i64 (2), .int .i64 (5), .slice 1 [.int .u8 (97), .int .u8 (98), .int .u8 (99), .int .u8 (100)] none false])
theorem memo6 : Eng.MemoFact Try.prog cfg mem6 := Eng.memo_fact cfgOk (n := 4000) (ts := [30]) .nil (by kernel_rfl)
def mem7 : Eng.Memo := (11, [], .bool true)
theorem memo7 : Eng.MemoFact Try.prog cfg mem7 := Eng.memo_fact cfgOk (n := 4000) (ts := [4]) (.cons memo0 (.cons memo2 (.cons memo6 (.cons memo1 (.cons memo4 (.cons memo3 .nil)))))) (by kernel_rfl)
def mem8 : Eng.Memo := (31, [.int .i64 (2)], .tuple [.int .i64 (4), .int .i64 (0)])
theorem memo8 : Eng.MemoFact Try.prog cfg mem8 := Eng.memo_fact cfgOk (n := 4000) (ts := [3, 23]) .nil (by kernel_rfl)
def mem9 : Eng.Memo := (10, [.agg [.int .i64 (8), .int .i64 (4), .int .i64 (2), .int .i64 (88)]], .tuple [.int .i64 (0), .int .i64 (8)])
theorem memo9 : Eng.MemoFact Try.prog cfg mem9 := Eng.memo_fact cfgOk (n := 4000) (ts := [3, 23]) (.cons memo8 .nil) (by kernel_rfl)

theorem run : Eng.ansB (Eng.ex (cfg.memo [mem0, mem3, mem4, mem2, mem1, mem5, mem7, mem6, mem9]) 4000 3 none (.call (.fn 3) []) [] []) = true := by kernel_rfl

theorem walk (w : World) : Calls Try.prog 3 #[] w fun e w' => e = .returned (.bool true) ∧ Below w.heap.size w w' := by
  obtain ⟨H', h⟩ := Eng.ansB_some run
  exact Eng.closed_call (cfgOk.memo (.cons memo0 (.cons memo3 (.cons memo4 (.cons memo2 (.cons memo1 (.cons memo5 (.cons memo7 (.cons memo6 (.cons memo9 .nil)))))))))) rfl h w

set_option maxRecDepth 100000 in
theorem lifted (os : Os) (started : os.Started) (H : Type) (enc : TypeId × Value → H) :
    ReturnsInHanded {} Try.checked os 3 .any (Rows.slotNamesSpec.pre6 enc Try.prog Try.f3 Rows.slotNamesRow.domain false) (Rows.slotNamesSpec.post enc Try.prog Try.f3 false true false false) := by
  refine returnsInHanded_of_change (C := Try.checked) own started (by kernel_rfl) Try.func3
    (ChangeSpec.witness6 (enc := enc) (C := Try.checked) false ⟨#[], #[], []⟩ 8 (by kernel_rfl) (by kernel_rfl) (by kernel_rfl) (by kernel_rfl)) ?_
  intro W base args ds gs before hval0 hW hcnd _
  exact Eng.closed_contract (P := Try.prog) (fn := Try.f3) (s := Rows.slotNamesSpec) rfl rfl Try.underlying4 rfl rfl walk W args ds gs before hW

theorem said : Rows.SlotNamesSaid :=
  OpenClaim.holds_of_wide 3 Try.f3 rfl rfl rfl rfl rfl rfl rfl ⟨rfl, rfl, rfl, rfl, rfl⟩ rfl rfl rfl rfl rfl (by kernel_rfl) Try.func3 (by kernel_rfl)
    (of_decide_eq_true (by kernel_rfl)) (by unfold Func.isWrapper; first | (rw [if_pos (by decide +kernel)]; kernel_rfl) | (rw [if_neg (by decide +kernel)]; exact ⟨rfl, rfl⟩))
    (fun os started H enc _ => lifted os started H enc)
end Go.Proofs.Ytcdjnaacgbncdaa.slotNames
