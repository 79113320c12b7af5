/- 'DevReplays' answers true, for every input of bulk at most 1048576; each argument reads afterwards as it read before. -/
import Derived.Test.YtnbmjkbbppcbcaaRows
import Derived.JoinedCond
import Derived.Test.YtnbmjkbbppcbcaaDevReplays
namespace Go.Proofs.Ytnbmjkbbppcbcaa.devReplays
open Go.ChangeShapes Go.WideShapes Go.ChangeAt Go.RowKit
set_option linter.unusedVariables false

theorem own : ownKnob Try.prog.godebug = none := by kernel_rfl

mutual
theorem xJi {H : Type} : ∀ d : DataW H, Rows.uptoBulk d = Eng.zJz d
  | .lit l => by cases l <;> rfl
  | .nil => rfl
  | .ptr d => by simp only [Rows.uptoBulk, Eng.zJz, xJi d]
  | .slice l r => by simp only [Rows.uptoBulk, Eng.zJz, yZ9 l, yZ9 r]
  | .agg l => by simp only [Rows.uptoBulk, Eng.zJz, yZ9 l]
  | .iface _ d => by simp only [Rows.uptoBulk, Eng.zJz, xJi d]
  | .map l => by simp only [Rows.uptoBulk, Eng.zJz, wQe l]
  | .held _ => rfl
theorem yZ9 {H : Type} : ∀ l : List (DataW H), Rows.uptoBulkAll l = Eng.zKc l
  | [] => rfl
  | d :: l => by simp only [Rows.uptoBulkAll, Eng.zKc, xJi d, yZ9 l]
theorem wQe {H : Type} : ∀ l : List (Lit × DataW H), Rows.uptoBulkEntries l = Eng.zY6 l
  | [] => rfl
  | d :: l => by simp only [Rows.uptoBulkEntries, Eng.zY6, vKs d, wQe l]
theorem vKs {H : Type} : ∀ x : Lit × DataW H, Rows.uptoBulkEntry x = Eng.xWd x
  | (l, d) => by cases l <;> simp only [Rows.uptoBulkEntry, Eng.xWd, xJi d]
end

set_option maxRecDepth 100000 in
theorem lifted (os : Os) (started : os.Started) (H : Type) (enc : TypeId × Value → H) (F : Stop.Interp) :
    ReturnsInHanded {} Try.checked os 6 .any ((Rows.OpenSpec.upto Rows.devReplaysSpec).pre6 enc Try.prog Try.f6 Rows.devReplaysUptoRow.domain false) (((Rows.OpenSpec.upto Rows.devReplaysSpec).at F).post enc Try.prog Try.f6 false true false false) := by
  refine returnsInHanded_of_cond (C := Try.checked) (s := Rows.OpenSpec.upto Rows.devReplaysSpec) (k := Rows.uptoSmall) rfl own started (by kernel_rfl) Try.func6
    (OpenSpec.witness (enc := enc) (C := Try.checked) (s := Rows.OpenSpec.upto Rows.devReplaysSpec) (k := Rows.uptoSmall) rfl false ⟨#[], #[.agg #[.int .i64 0, .int .i64 0, .int .i64 0, .int .i64 0, .int .i64 0, .int .i64 0, .int .i64 0, .int .i64 0, .int .i64 0], .agg #[.slice none 0 0], .slice none 0 0], []⟩ 12 (by kernel_rfl) (by kernel_rfl) (by kernel_rfl)
      (x := ([.agg [.lit (.int .i64 0), .lit (.int .i64 0), .lit (.int .i64 0), .lit (.int .i64 0), .lit (.int .i64 0), .lit (.int .i64 0), .lit (.int .i64 0), .lit (.int .i64 0), .lit (.int .i64 0)], .agg [.nil], .nil], [], [])) (by kernel_rfl) rfl (by kernel_rfl)) ?_
  intro W base args ds gs before hval0 hW _ hk _
  have hk2 : Eng.zKc (ds ++ gs) ≤ 1048576 := by
    rw [← yZ9]
    exact of_decide_eq_true hk
  refine Eng.xKo (P := Try.prog) (c := cfg) (fn := Try.f6) (s := Rows.devReplaysSpec) (p := zWt) (top := 1048576) zXn.ty (by kernel_rfl) rfl Try.underlying4 rfl ?_ (by kernel_rfl) (by kernel_rfl) (by kernel_rfl) yXq rfl ?_ W (fun i v hi => by cases hi) base args ds gs before hval0 hW hk2
  · intro ds hd
    match ds, hd with
    | [d1, d2, d3], _ => rfl
  · intro d hf hz
    exact ⟨true, yQ1 d hf hz, rfl⟩

theorem said : Rows.DevReplaysUptoSaid :=
  OpenClaim.holds_of_cond 6 Try.f6 rfl rfl rfl rfl rfl rfl rfl ⟨rfl, rfl, rfl, rfl, rfl⟩ rfl rfl rfl rfl rfl (by kernel_rfl) Try.func6 (by kernel_rfl)
    (of_decide_eq_true (by kernel_rfl)) (by unfold Func.isWrapper; first | (rw [if_pos (by decide +kernel)]; kernel_rfl) | (rw [if_neg (by decide +kernel)]; exact ⟨rfl, rfl⟩))
    (fun os started H enc _ F => lifted os started H enc F)
end Go.Proofs.Ytnbmjkbbppcbcaa.devReplays
