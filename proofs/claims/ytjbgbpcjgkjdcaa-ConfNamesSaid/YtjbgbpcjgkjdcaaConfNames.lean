/- 'ConfNames' answers true, whatever the input (there is none). -/
import Derived.Test.YtjbgbpcjgkjdcaaRows
import Derived.Test.YtjbgbpcjgkjdcaaEP4
import Derived.Test.YtjbgbpcjgkjdcaaET1
import Derived.Test.YtjbgbpcjgkjdcaaCfg
namespace Go.Proofs.Ytjbgbpcjgkjdcaa.confNames
open Go.ChangeShapes Go.WideShapes Go.ChangeAt Go.RowKit
set_option linter.unusedVariables false

theorem own : ownKnob Try.prog.godebug = none := by kernel_rfl

def mem0 : Eng.Memo := (40, [.int .i64 (8)], .int .i64 (3))
theorem memo0 : Eng.MemoFact Try.prog cfg mem0 := Eng.memo_fact cfgOk (n := 4000) (ts := [3]) .nil (by kernel_rfl)
def mem1 : Eng.Memo := (40, [.int .i64 (4)], .int .i64 (2))
theorem memo1 : Eng.MemoFact Try.prog cfg mem1 := Eng.memo_fact cfgOk (n := 4000) (ts := [3]) .nil (by kernel_rfl)
def mem2 : Eng.Memo := (40, [.int .i64 (2)], .int .i64 (1))
theorem memo2 : Eng.MemoFact Try.prog cfg mem2 := Eng.memo_fact cfgOk (n := 4000) (ts := [3]) .nil (by kernel_rfl)
def mem3 : Eng.Memo := (13, [.agg [.int .i64 (8), .int .i64 (4), .int .i64 (2), .int .i64 (2), .int .i64 (8), .int .i64 (2), .int .i64 (2), .int .i64 (4), .int .i64 (2)]], .int .i64 (0))
theorem memo3 : Eng.MemoFact Try.prog cfg mem3 := Eng.memo_fact cfgOk (n := 4000) (ts := [22]) (.cons memo0 (.cons memo1 (.cons memo2 .nil))) (by kernel_rfl)
def mem4 : Eng.Memo := (12, [], .bool true)
theorem memo4 : Eng.MemoFact Try.prog cfg mem4 := Eng.memo_fact cfgOk (n := 4000) (ts := [4]) (.cons memo3 (.cons memo0 (.cons memo1 (.cons memo2 .nil)))) (by kernel_rfl)
def mem5 : Eng.Memo := (13, [.agg [.int .i64 (8), .int .i64 (4), .int .i64 (1), .int .i64 (2), .int .i64 (8), .int .i64 (2), .int .i64 (2), .int .i64 (4), .int .i64 (2)]], .int .i64 (8))
theorem memo5 : Eng.MemoFact Try.prog cfg mem5 := Eng.memo_fact cfgOk (n := 4000) (ts := [22]) .nil (by kernel_rfl)
def mem6 : Eng.Memo := (40, [.int .i64 (64)], .int .i64 (6))
theorem memo6 : Eng.MemoFact Try.prog cfg mem6 := Eng.memo_fact cfgOk (n := 4000) (ts := [3]) .nil (by kernel_rfl)
def mem7 : Eng.Memo := (40, [.int .i64 (32)], .int .i64 (5))
theorem memo7 : Eng.MemoFact Try.prog cfg mem7 := Eng.memo_fact cfgOk (n := 4000) (ts := [3]) .nil (by kernel_rfl)
def mem8 : Eng.Memo := (40, [.int .i64 (16)], .int .i64 (4))
theorem memo8 : Eng.MemoFact Try.prog cfg mem8 := Eng.memo_fact cfgOk (n := 4000) (ts := [3]) .nil (by kernel_rfl)
def mem9 : Eng.Memo := (40, [.int .i64 (1)], .int .i64 (1))
theorem memo9 : Eng.MemoFact Try.prog cfg mem9 := Eng.memo_fact cfgOk (n := 4000) (ts := [3]) .nil (by kernel_rfl)
def mem10 : Eng.Memo := (13, [.agg [.int .i64 (64), .int .i64 (4), .int .i64 (2), .int .i64 (2), .int .i64 (8), .int .i64 (2), .int .i64 (2), .int .i64 (4), .int .i64 (1)]], .int .i64 (8))
theorem memo10 : Eng.MemoFact Try.prog cfg mem10 := Eng.memo_fact cfgOk (n := 4000) (ts := [22]) (.cons memo6 (.cons memo7 (.cons memo8 (.cons memo0 (.cons memo1 (.cons memo2 (.cons memo9 .nil))))))) (by kernel_rfl)

theorem run : Eng.ansB (Eng.ex (cfg.memo [mem3, mem0, mem1, mem2, mem4, mem5, mem10]) 4000 3 none (.call (.fn 3) []) [] []) = true := by kernel_rfl

theorem walk (w : World) : Calls Try.prog 3 #[] w fun e w' => e = .returned (.bool true) ∧ Below w.heap.size w w' := by
  obtain ⟨H', h⟩ := Eng.ansB_some run
  exact Eng.closed_call (cfgOk.memo (.cons memo3 (.cons memo0 (.cons memo1 (.cons memo2 (.cons memo4 (.cons memo5 (.cons memo10 .nil)))))))) rfl h w

set_option maxRecDepth 100000 in
theorem lifted (os : Os) (started : os.Started) (H : Type) (enc : TypeId × Value → H) :
    ReturnsInHanded {} Try.checked os 3 .any (Rows.confNamesSpec.pre6 enc Try.prog Try.f3 Rows.confNamesRow.domain false) (Rows.confNamesSpec.post enc Try.prog Try.f3 false true false false) := by
  refine returnsInHanded_of_change (C := Try.checked) own started (by kernel_rfl) Try.func3
    (ChangeSpec.witness6 (enc := enc) (C := Try.checked) false ⟨#[], #[], []⟩ 8 (by kernel_rfl) (by kernel_rfl) (by kernel_rfl) (by kernel_rfl)) ?_
  intro W base args ds gs before hval0 hW hcnd _
  exact Eng.closed_contract (P := Try.prog) (fn := Try.f3) (s := Rows.confNamesSpec) rfl rfl Try.underlying4 rfl rfl walk W args ds gs before hW

theorem said : Rows.ConfNamesSaid :=
  OpenClaim.holds_of_wide 3 Try.f3 rfl rfl rfl rfl rfl rfl rfl ⟨rfl, rfl, rfl, rfl, rfl⟩ rfl rfl rfl rfl rfl (by kernel_rfl) Try.func3 (by kernel_rfl)
    (of_decide_eq_true (by kernel_rfl)) (by unfold Func.isWrapper; first | (rw [if_pos (by decide +kernel)]; kernel_rfl) | (rw [if_neg (by decide +kernel)]; exact ⟨rfl, rfl⟩))
    (fun os started H enc _ => lifted os started H enc)
end Go.Proofs.Ytjbgbpcjgkjdcaa.confNames
