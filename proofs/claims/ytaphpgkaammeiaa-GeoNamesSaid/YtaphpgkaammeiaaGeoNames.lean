/- 'GeoNames' answers true, whatever the input (there is none). -/
import Derived.Test.YtaphpgkaammeiaaRows
import Derived.Test.YtaphpgkaammeiaaEP4
import Derived.Test.YtaphpgkaammeiaaCfg
namespace Go.Proofs.Ytaphpgkaammeiaa.geoNames
open Go.ChangeShapes Go.WideShapes Go.ChangeAt Go.RowKit
set_option linter.unusedVariables false

theorem own : ownKnob Try.prog.godebug = none := by kernel_rfl

theorem run : Eng.ansB (Eng.ex cfg 4000 3 none (.call (.fn 3) []) [] []) = true := by kernel_rfl

theorem walk (w : World) : Calls Try.prog 3 #[] w fun e w' => e = .returned (.bool true) ∧ Below w.heap.size w w' := by
  obtain ⟨H', h⟩ := Eng.ansB_some run
  exact Eng.closed_call cfgOk rfl h w

set_option maxRecDepth 100000 in
theorem lifted (os : Os) (started : os.Started) (H : Type) (enc : TypeId × Value → H) :
    ReturnsInHanded {} Try.checked os 3 .any (Rows.geoNamesSpec.pre6 enc Try.prog Try.f3 Rows.geoNamesRow.domain false) (Rows.geoNamesSpec.post enc Try.prog Try.f3 false true false false) := by
  refine returnsInHanded_of_change (C := Try.checked) own started (by kernel_rfl) Try.func3
    (ChangeSpec.witness6 (enc := enc) (C := Try.checked) false ⟨#[], #[], []⟩ 8 (by kernel_rfl) (by kernel_rfl) (by kernel_rfl) (by kernel_rfl)) ?_
  intro W base args ds gs before hval0 hW hcnd _
  exact Eng.closed_contract (P := Try.prog) (fn := Try.f3) (s := Rows.geoNamesSpec) rfl rfl Try.underlying4 rfl rfl walk W args ds gs before hW

theorem said : Rows.GeoNamesSaid :=
  OpenClaim.holds_of_wide 3 Try.f3 rfl rfl rfl rfl rfl rfl rfl ⟨rfl, rfl, rfl, rfl, rfl⟩ rfl rfl rfl rfl rfl (by kernel_rfl) Try.func3 (by kernel_rfl)
    (of_decide_eq_true (by kernel_rfl)) (by unfold Func.isWrapper; first | (rw [if_pos (by decide +kernel)]; kernel_rfl) | (rw [if_neg (by decide +kernel)]; exact ⟨rfl, rfl⟩))
    (fun os started H enc _ => lifted os started H enc)
end Go.Proofs.Ytaphpgkaammeiaa.geoNames
