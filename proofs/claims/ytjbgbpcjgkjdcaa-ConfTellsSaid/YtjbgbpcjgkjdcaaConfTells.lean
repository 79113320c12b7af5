/- ConfTells answers true. -/
import Derived.Test.YtjbgbpcjgkjdcaaConfseals
namespace Go.Proofs.Ytjbgbpcjgkjdcaa
open Go.Eng
set_option linter.unusedVariables false
set_option linter.unusedSimpArgs false

theorem confTells_any (c : CfgT) : law08_ConfTells c = some true := by
  unfold law08_ConfTells
  rw [eta, conf_Levels_spec, Dat.bind_some, ref08_Levels_spec, Dat.bind_some, conf_Width_spec, Dat.bind_some, ref08_Width_spec, Dat.bind_some, conf_Seals_spec, Dat.bind_some, ref08_Seals_spec, Dat.bind_some]
  have hl : (if mayB c = true then (allS c, (0 : Int)) else ([], 8)).1.length ≤ 64 := by
    have := allS_len c
    split
    · exact this
    · simp
  rw [SameLevels_self hl, Dat.bind_some, conf_Check_spec, Dat.bind_some, ref08_Check_spec, Dat.bind_some]
  have q : ∀ x : Int, Dat.ieq x x = true := fun x => by simp [Dat.ieq]
  simp only [q, cond_true, Dat.pick_tf]

theorem law08_ConfTells_true (d : Els p_law08_ConfTells.args) (hf : Fits p_law08_ConfTells.args d) : law08_ConfTells d = some true := confTells_any d
end Go.Proofs.Ytjbgbpcjgkjdcaa
