/- 'DevNames' answers true, whatever the input (there is none). -/
import Derived.Test.YtnbmjkbbppcbcaaRows


import Derived.Test.YtnbmjkbbppcbcaaM6
import Derived.Test.YtnbmjkbbppcbcaaCfg
namespace Go.Proofs.Ytnbmjkbbppcbcaa.devNames
open Go.ChangeShapes Go.WideShapes Go.ChangeAt Go.RowKit
set_option linter.unusedVariables false

theorem own : ownKnob Try.prog.godebug = none := by kernel_rfl

def pts (f : Nat) : List Nat := match f with
  | 9 => [29]
  | 12 => [29, 24, 3, 35, 31]
  | 13 => [5]
  | 15 => []
  | 16 => [29, 24]
  | 35 => [29]
  | 38 => [24, 3, 35]
  | _ => []
def mem0 : Eng.Memo := (35, [.agg [.int .i64 (8), .int .i64 (4), .int .i64 (2), .int .i64 (2), .int .i64 (8), .int .i64 (2), .int .i64 (2), .int .i64 (4), .int .i64 (2)]], .tuple [.slice 2 [.agg [.int .i64 (15), .int .i64 (96)], .agg [.int .i64 (7), .int .i64 (104)], .agg [.int .i64 (3), .int .i64 (104)]] none true, .int .i64 (0)])
theorem memo0 : Eng.MemoFact Try.prog cfg mem0 := Eng.memoK_fact cfgOk (pt := pts) (n := 4000) (ts := [68, 25]) .nil (by kernel_rfl)
def mem1 : Eng.Memo := (9, [.agg [.int .i64 (8), .int .i64 (4), .int .i64 (2), .int .i64 (2), .int .i64 (8), .int .i64 (2), .int .i64 (2), .int .i64 (4), .int .i64 (2)]], .tuple [.agg [.slice 1 [.slice 1 (List.replicate 15 (.slice 1 (List.replicate 96 (.int .u8 (0))) none true)) none true, .slice 1 (List.replicate 7 (.slice 1 (List.replicate 104 (.int .u8 (0))) none true)) none true, .slice 1 [.slice 1 (List.replicate 104 (.int .u8 (0))) none true, .slice 1 (List.replicate 104 (.int .u8 (0))) none true, .slice 1 (List.replicate 104 (.int .u8 (0))) none true] none true] none false], .int .i64 (0)])
theorem memo1 : Eng.MemoFact Try.prog cfg mem1 := Eng.memoK_fact cfgOk (pt := pts) (n := 4000) (ts := [24, 25]) (.cons memo0 .nil) (by kernel_rfl)
def mem2 : Eng.Memo := (16, [.agg [.int .i64 (8), .int .i64 (4), .int .i64 (2), .int .i64 (2), .int .i64 (8), .int .i64 (2), .int .i64 (2), .int .i64 (4), .int .i64 (2)], .agg [.slice 1 [.slice 1 (List.replicate 15 (.slice 1 (List.replicate 96 (.int .u8 (0))) none true)) none true, .slice 1 (List.replicate 7 (.slice 1 (List.replicate 104 (.int .u8 (0))) none true)) none true, .slice 1 [.slice 1 (List.replicate 104 (.int .u8 (0))) none true, .slice 1 (List.replicate 104 (.int .u8 (0))) none true, .slice 1 (List.replicate 104 (.int .u8 (0))) none true] none true] none false]], .int .i64 (0))
theorem memo2 : Eng.MemoFact Try.prog cfg mem2 := Eng.memoK_fact cfgOk (pt := pts) (n := 4000) (ts := [25]) (.cons memo0 .nil) (by kernel_rfl)
def mem3 : Eng.Memo := (38, [.agg [.slice 1 [.slice 1 (List.replicate 15 (.slice 1 (List.replicate 96 (.int .u8 (0))) none true)) none true, .slice 1 (List.replicate 7 (.slice 1 (List.replicate 104 (.int .u8 (0))) none true)) none true, .slice 1 [.slice 1 (List.replicate 104 (.int .u8 (0))) none true, .slice 1 (List.replicate 104 (.int .u8 (0))) none true, .slice 1 (List.replicate 104 (.int .u8 (0))) none true] none true] none false], .int .i64 (3), .slice 0 [] none true], .bool false)
theorem memo3 : Eng.MemoFact Try.prog cfg mem3 := Eng.memoK_fact cfgOk (pt := pts) (n := 4000) (ts := [4]) .nil (by kernel_rfl)
def mem4 : Eng.Memo := (38, [.agg [.slice 1 [.slice 1 (List.replicate 15 (.slice 1 (List.replicate 96 (.int .u8 (0))) none true)) none true, .slice 1 (List.replicate 7 (.slice 1 (List.replicate 104 (.int .u8 (0))) none true)) none true, .slice 1 [.slice 1 (List.replicate 104 (.int .u8 (0))) none true, .slice 1 (List.replicate 104 (.int .u8 (0))) none true, .slice 1 (List.replicate 104 (.int .u8 (0))) none true] none true] none false], .int .i64 (2), .slice 1 [.int .i64 (4)] none true], .bool false)
theorem memo4 : Eng.MemoFact Try.prog cfg mem4 := Eng.memoK_fact cfgOk (pt := pts) (n := 4000) (ts := [4]) .nil (by kernel_rfl)
def mem5 : Eng.Memo := (13, [.int .u8 (1)], .slice 1 (List.replicate 104 (.int .u8 (1))) none true)
theorem memo5 : Eng.MemoFact Try.prog cfg mem5 := Eng.memoK_fact cfgOk (pt := pts) (n := 4000) (ts := [38]) .nil (by kernel_rfl)
def mem6 : Eng.Memo := (38, [.agg [.slice 1 [.slice 1 (List.replicate 15 (.slice 1 (List.replicate 96 (.int .u8 (0))) none true)) none true, .slice 1 (List.replicate 7 (.slice 1 (List.replicate 104 (.int .u8 (0))) none true)) none true, .slice 1 [.slice 1 (List.replicate 104 (.int .u8 (0))) none true, .slice 1 (List.replicate 104 (.int .u8 (0))) none true, .slice 1 (List.replicate 104 (.int .u8 (0))) none true] none true] none false], .int .i64 (2), .slice 1 [.int .i64 (1)] none true], .bool true)
theorem memo6 : Eng.MemoFact Try.prog cfg mem6 := Eng.memoK_fact cfgOk (pt := pts) (n := 4000) (ts := [4]) .nil (by kernel_rfl)
def mem7 : Eng.Memo := (12, [.agg [.int .i64 (8), .int .i64 (4), .int .i64 (2), .int .i64 (2), .int .i64 (8), .int .i64 (2), .int .i64 (2), .int .i64 (4), .int .i64 (2)], .agg [.slice 1 [.slice 1 (List.replicate 15 (.slice 1 (List.replicate 96 (.int .u8 (0))) none true)) none true, .slice 1 (List.replicate 7 (.slice 1 (List.replicate 104 (.int .u8 (0))) none true)) none true, .slice 1 [.slice 1 (List.replicate 104 (.int .u8 (0))) none true, .slice 1 (List.replicate 104 (.int .u8 (0))) none true, .slice 1 (List.replicate 104 (.int .u8 (0))) none true] none true] none false], .int .i64 (2), .slice 1 [.int .i64 (1)] none true, .slice 1 [.slice 1 (List.replicate 103 (.int .u8 (1))) none true] none true], .tuple [.agg [.slice 1 [] none true], .slice 4 [] none true, .int .i64 (2)])
theorem memo7 : Eng.MemoFact Try.prog cfg mem7 := Eng.memoK_fact cfgOk (pt := pts) (n := 4000) (ts := [24, 32, 25]) (.cons memo2 (.cons memo6 .nil)) (by kernel_rfl)
def mem8 : Eng.Memo := (35, [.agg [.int .i64 (0), .int .i64 (0), .int .i64 (0), .int .i64 (0), .int .i64 (0), .int .i64 (0), .int .i64 (0), .int .i64 (0), .int .i64 (0)]], .tuple [.slice 2 [] none true, .int .i64 (8)])
theorem memo8 : Eng.MemoFact Try.prog cfg mem8 := Eng.memoK_fact cfgOk (pt := pts) (n := 4000) (ts := [68, 25]) .nil (by kernel_rfl)
def mem9 : Eng.Memo := (9, [.agg [.int .i64 (0), .int .i64 (0), .int .i64 (0), .int .i64 (0), .int .i64 (0), .int .i64 (0), .int .i64 (0), .int .i64 (0), .int .i64 (0)]], .tuple [.agg [.slice 1 [] none true], .int .i64 (8)])
theorem memo9 : Eng.MemoFact Try.prog cfg mem9 := Eng.memoK_fact cfgOk (pt := pts) (n := 4000) (ts := [24, 25]) (.cons memo8 .nil) (by kernel_rfl)
def mem10 : Eng.Memo := (13, [.int .u8 (3)], .slice 1 (List.replicate 104 (.int .u8 (3))) none true)
theorem memo10 : Eng.MemoFact Try.prog cfg mem10 := Eng.memoK_fact cfgOk (pt := pts) (n := 4000) (ts := [38]) .nil (by kernel_rfl)
def mem11 : Eng.Memo := (38, [.agg [.slice 1 [.slice 1 (List.replicate 15 (.slice 1 (List.replicate 96 (.int .u8 (0))) none true)) none true, .slice 1 (List.replicate 7 (.slice 1 (List.replicate 104 (.int .u8 (0))) none true)) none true, .slice 1 [.slice 1 (List.replicate 104 (.int .u8 (0))) none true, .slice 1 (List.replicate 104 (.int .u8 (0))) none true, .slice 1 (List.replicate 104 (.int .u8 (0))) none true] none true] none false], .int .i64 (2), .slice 1 [.int .i64 (3), .int .i64 (1)] none true], .bool true)
theorem memo11 : Eng.MemoFact Try.prog cfg mem11 := Eng.memoK_fact cfgOk (pt := pts) (n := 4000) (ts := [4]) .nil (by kernel_rfl)
def mem12 : Eng.Memo := (12, [.agg [.int .i64 (8), .int .i64 (4), .int .i64 (2), .int .i64 (2), .int .i64 (8), .int .i64 (2), .int .i64 (2), .int .i64 (4), .int .i64 (2)], .agg [.slice 1 [.slice 1 (List.replicate 15 (.slice 1 (List.replicate 96 (.int .u8 (0))) none true)) none true, .slice 1 (List.replicate 7 (.slice 1 (List.replicate 104 (.int .u8 (0))) none true)) none true, .slice 1 [.slice 1 (List.replicate 104 (.int .u8 (0))) none true, .slice 1 (List.replicate 104 (.int .u8 (0))) none true, .slice 1 (List.replicate 104 (.int .u8 (0))) none true] none true] none false], .int .i64 (2), .slice 1 [.int .i64 (3), .int .i64 (1)] none true, .slice 1 [.slice 1 (List.replicate 104 (.int .u8 (3))) none true, .slice 1 (List.replicate 104 (.int .u8 (1))) none true] none true], .tuple [.agg [.slice 1 [.slice 1 (List.replicate 15 (.slice 1 (List.replicate 96 (.int .u8 (0))) none true)) none true, .slice 1 (List.replicate 7 (.slice 1 (List.replicate 104 (.int .u8 (0))) none true)) none true, .slice 1 [.slice 1 (List.replicate 104 (.int .u8 (1))) none true, .slice 1 (List.replicate 104 (.int .u8 (0))) none true, .slice 1 (List.replicate 104 (.int .u8 (3))) none true] none true] none false], .slice 4 [.agg [.int .u8 (2), .int .i64 (2), .int .i64 (3), .slice 1 (List.replicate 104 (.int .u8 (3))) none false], .agg [.int .u8 (2), .int .i64 (2), .int .i64 (1), .slice 1 (List.replicate 104 (.int .u8 (1))) none false]] none false, .int .i64 (0)])
theorem memo12 : Eng.MemoFact Try.prog cfg mem12 := Eng.memoK_fact cfgOk (pt := pts) (n := 4000) (ts := [24, 32, 25]) (.cons memo2 (.cons memo11 .nil)) (by kernel_rfl)
def mem13 : Eng.Memo := (16, [.agg [.int .i64 (8), .int .i64 (4), .int .i64 (2), .int .i64 (2), .int .i64 (8), .int .i64 (2), .int .i64 (2), .int .i64 (4), .int .i64 (2)], .agg [.slice 1 [.slice 1 (List.replicate 15 (.slice 1 (List.replicate 96 (.int .u8 (0))) none true)) none true, .slice 1 (List.replicate 7 (.slice 1 (List.replicate 104 (.int .u8 (0))) none true)) none true, .slice 1 [.slice 1 (List.replicate 104 (.int .u8 (1))) none true, .slice 1 (List.replicate 104 (.int .u8 (0))) none true, .slice 1 (List.replicate 104 (.int .u8 (3))) none true] none true] none false]], .int .i64 (0))
theorem memo13 : Eng.MemoFact Try.prog cfg mem13 := Eng.memoK_fact cfgOk (pt := pts) (n := 4000) (ts := [25]) (.cons memo0 .nil) (by kernel_rfl)
def mem14 : Eng.Memo := (38, [.agg [.slice 1 [.slice 1 (List.replicate 15 (.slice 1 (List.replicate 96 (.int .u8 (0))) none true)) none true, .slice 1 (List.replicate 7 (.slice 1 (List.replicate 104 (.int .u8 (0))) none true)) none true, .slice 1 [.slice 1 (List.replicate 104 (.int .u8 (1))) none true, .slice 1 (List.replicate 104 (.int .u8 (0))) none true, .slice 1 (List.replicate 104 (.int .u8 (3))) none true] none true] none false], .int .i64 (2), .slice 1 [.int .i64 (1), .int .i64 (2)] none true], .bool true)
theorem memo14 : Eng.MemoFact Try.prog cfg mem14 := Eng.memoK_fact cfgOk (pt := pts) (n := 4000) (ts := [4]) .nil (by kernel_rfl)
def mem15 : Eng.Memo := (15, [], .bool true)
theorem memo15 : Eng.MemoFact Try.prog cfg mem15 := Eng.memoK_fact cfgOk (pt := pts) (n := 4000) (ts := [4]) (.cons memo1 (.cons memo10 (.cons memo5 (.cons memo12 (.cons memo13 (.cons memo14 .nil)))))) (by kernel_rfl)
def mem16 : Eng.Memo := (16, [.agg [.int .i64 (8), .int .i64 (4), .int .i64 (2), .int .i64 (2), .int .i64 (8), .int .i64 (2), .int .i64 (2), .int .i64 (4), .int .i64 (2)], .agg [.slice 0 [] none true]], .int .i64 (8))
theorem memo16 : Eng.MemoFact Try.prog cfg mem16 := Eng.memoK_fact cfgOk (pt := pts) (n := 4000) (ts := [25]) (.cons memo0 .nil) (by kernel_rfl)

theorem run : Eng.ansB (Eng.ex (cfg.memoK pts [mem1, mem2, mem3, mem4, mem5, mem7, mem9, mem15, mem16]) 4000 3 none (.call (.fn 3) []) [] []) = true := by kernel_rfl

theorem walk (w : World) : Calls Try.prog 3 #[] w fun e w' => e = .returned (.bool true) ∧ Below w.heap.size w w' := by
  obtain ⟨H', h⟩ := Eng.ansB_some run
  exact Eng.closed_call (cfgOk.memoK (.cons memo1 (.cons memo2 (.cons memo3 (.cons memo4 (.cons memo5 (.cons memo7 (.cons memo9 (.cons memo15 (.cons memo16 .nil)))))))))) rfl h w

set_option maxRecDepth 100000 in
theorem lifted (os : Os) (started : os.Started) (H : Type) (enc : TypeId × Value → H) :
    ReturnsInHanded {} Try.checked os 3 .any (Rows.devNamesSpec.pre6 enc Try.prog Try.f3 Rows.devNamesRow.domain false) (Rows.devNamesSpec.post enc Try.prog Try.f3 false true false false) := by
  refine returnsInHanded_of_change (C := Try.checked) own started (by kernel_rfl) Try.func3
    (ChangeSpec.witness6 (enc := enc) (C := Try.checked) false ⟨#[], #[], []⟩ 8 (by kernel_rfl) (by kernel_rfl) (by kernel_rfl) (by kernel_rfl)) ?_
  intro W base args ds gs before hval0 hW hcnd _
  exact Eng.closed_contract (P := Try.prog) (fn := Try.f3) (s := Rows.devNamesSpec) rfl rfl Try.underlying4 rfl rfl walk W args ds gs before hW

theorem said : Rows.DevNamesSaid :=
  OpenClaim.holds_of_wide 3 Try.f3 rfl rfl rfl rfl rfl rfl rfl ⟨rfl, rfl, rfl, rfl, rfl⟩ rfl rfl rfl rfl rfl (by kernel_rfl) Try.func3 (by kernel_rfl)
    (of_decide_eq_true (by kernel_rfl)) (by unfold Func.isWrapper; first | (rw [if_pos (by decide +kernel)]; kernel_rfl) | (rw [if_neg (by decide +kernel)]; exact ⟨rfl, rfl⟩))
    (fun os started H enc _ => lifted os started H enc)
end Go.Proofs.Ytnbmjkbbppcbcaa.devNames
