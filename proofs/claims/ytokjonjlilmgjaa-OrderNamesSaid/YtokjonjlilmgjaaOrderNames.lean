/- 'OrderNames' answers true, whatever the input (there is none). -/
import Derived.Test.YtokjonjlilmgjaaRows
import Derived.Test.YtokjonjlilmgjaaEP4
import Derived.Test.YtokjonjlilmgjaaET1
import Derived.Test.YtokjonjlilmgjaaCfg
namespace Go.Proofs.Ytokjonjlilmgjaa.orderNames
open Go.ChangeShapes Go.WideShapes Go.ChangeAt Go.RowKit
set_option linter.unusedVariables false

theorem own : ownKnob Try.prog.godebug = none := by kernel_rfl

def mem0 : Eng.Memo := (9, [], .agg [.int .i64 (2), .int .i64 (1), .int .i64 (2), .int .i64 (1), .int .i64 (2), .int .i64 (1), .int .i64 (1), .int .i64 (1), .int .i64 (2)])
theorem memo0 : Eng.MemoFact Try.prog cfg mem0 := Eng.memo_fact cfgOk (n := 4000) (ts := [27]) .nil (by kernel_rfl)
def mem1 : Eng.Memo := (22, [.agg [.int .i64 (2), .int .i64 (1), .int .i64 (2), .int .i64 (1), .int .i64 (2), .int .i64 (1), .int .i64 (1), .int .i64 (1), .int .i64 (2)]], .tuple [.slice 4 [.agg [.int .i64 (2), .int .i64 (1), .int .i64 (1), .int .i64 (73)]] none false, .int .i64 (0)])
theorem memo1 : Eng.MemoFact Try.prog cfg mem1 := Eng.memo_fact cfgOk (n := 4000) (ts := [49, 23]) .nil (by kernel_rfl)
def mem2 : Eng.Memo := (22, [.agg [.int .i64 (0), .int .i64 (0), .int .i64 (0), .int .i64 (0), .int .i64 (0), .int .i64 (0), .int .i64 (0), .int .i64 (0), .int .i64 (0)]], .tuple [.slice 4 [] none false, .int .i64 (8)])
theorem memo2 : Eng.MemoFact Try.prog cfg mem2 := Eng.memo_fact cfgOk (n := 4000) (ts := [49, 23]) .nil (by kernel_rfl)
def mem3 : Eng.Memo := (33, [], .slice 4 [.agg [.int .u8 (1), .int .i64 (1), .int .i64 (0), .slice 1 [] none false], .agg [.int .u8 (0), .int .i64 (0), .int .i64 (0), .slice 1 [] none false], .agg [.int .u8 (2), .int .i64 (1), .int .i64 (0), .slice 1 [.int .u8 (1)] none false]] none false)
theorem memo3 : Eng.MemoFact Try.prog cfg mem3 := Eng.memo_fact cfgOk (n := 4000) (ts := [29]) .nil (by kernel_rfl)
def mem4 : Eng.Memo := (44, [.agg [.int .i64 (2), .int .i64 (1), .int .i64 (2), .int .i64 (1), .int .i64 (2), .int .i64 (1), .int .i64 (1), .int .i64 (1), .int .i64 (2)], .int .i64 (1)], .tuple [.slice 1 [.int .i64 (1)] none false, .slice 1 [.int .i64 (1)] none false, .int .i64 (0)])
theorem memo4 : Eng.MemoFact Try.prog cfg mem4 := Eng.memo_fact cfgOk (n := 4000) (ts := [36, 36, 23]) .nil (by kernel_rfl)
def mem5 : Eng.Memo := (13, [], .bool true)
theorem memo5 : Eng.MemoFact Try.prog cfg mem5 := Eng.memo_fact cfgOk (n := 4000) (ts := [4]) (.cons memo0 (.cons memo3 (.cons memo1 (.cons memo4 .nil)))) (by kernel_rfl)

theorem run : Eng.ansB (Eng.ex (cfg.memo [mem0, mem1, mem2, mem5]) 4000 3 none (.call (.fn 3) []) [] []) = true := by kernel_rfl

theorem walk (w : World) : Calls Try.prog 3 #[] w fun e w' => e = .returned (.bool true) ∧ Below w.heap.size w w' := by
  obtain ⟨H', h⟩ := Eng.ansB_some run
  exact Eng.closed_call (cfgOk.memo (.cons memo0 (.cons memo1 (.cons memo2 (.cons memo5 .nil))))) rfl h w

set_option maxRecDepth 100000 in
theorem lifted (os : Os) (started : os.Started) (H : Type) (enc : TypeId × Value → H) :
    ReturnsInHanded {} Try.checked os 3 .any (Rows.orderNamesSpec.pre6 enc Try.prog Try.f3 Rows.orderNamesRow.domain false) (Rows.orderNamesSpec.post enc Try.prog Try.f3 false true false false) := by
  refine returnsInHanded_of_change (C := Try.checked) own started (by kernel_rfl) Try.func3
    (ChangeSpec.witness6 (enc := enc) (C := Try.checked) false ⟨#[], #[], []⟩ 8 (by kernel_rfl) (by kernel_rfl) (by kernel_rfl) (by kernel_rfl)) ?_
  intro W base args ds gs before hval0 hW hcnd _
  exact Eng.closed_contract (P := Try.prog) (fn := Try.f3) (s := Rows.orderNamesSpec) rfl rfl Try.underlying4 rfl rfl walk W args ds gs before hW

theorem said : Rows.OrderNamesSaid :=
  OpenClaim.holds_of_wide 3 Try.f3 rfl rfl rfl rfl rfl rfl rfl ⟨rfl, rfl, rfl, rfl, rfl⟩ rfl rfl rfl rfl rfl (by kernel_rfl) Try.func3 (by kernel_rfl)
    (of_decide_eq_true (by kernel_rfl)) (by unfold Func.isWrapper; first | (rw [if_pos (by decide +kernel)]; kernel_rfl) | (rw [if_neg (by decide +kernel)]; exact ⟨rfl, rfl⟩))
    (fun os started H enc _ => lifted os started H enc)
end Go.Proofs.Ytokjonjlilmgjaa.orderNames
