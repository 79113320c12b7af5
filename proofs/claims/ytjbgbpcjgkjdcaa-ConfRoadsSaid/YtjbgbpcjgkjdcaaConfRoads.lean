/- ConfRoads answers true. -/
import Derived.Test.YtjbgbpcjgkjdcaaConfall
namespace Go.Proofs.Ytjbgbpcjgkjdcaa
open Go.Eng
set_option linter.unusedVariables false
set_option linter.unusedSimpArgs false

theorem road_len (c : CfgT) (p : Int) : (roadS c p).1.length ≤ 64 ∧ (roadS c p).2.1.length ≤ 64 := by
  have hle : (LV c c.1 c.2.1).length ≤ 64 := lv_len _ _ 64 _ _
  unfold roadS
  split
  · split
    · simp only [rb_len, rp_len]; omega
    · simp
  · simp

theorem confRoads_any (c : CfgT) (p : Int) : law08_ConfRoads (c, p) = some true := by
  unfold law08_ConfRoads
  show Dat.bind (conf_Road (c, p)) (fun x1 => Dat.bind (ref08_Road (c, p)) _) = _
  have h := road_len c p
  rw [conf_Road_spec, Dat.bind_some, ref08_Road_spec, Dat.bind_some, ref01_SameInts_self _ (by omega), Dat.bind_some, cond_true, ref01_SameInts_self _ (by omega), Dat.bind_some]
  simp [Dat.ieq]

theorem law08_ConfRoads_true (d : Els p_law08_ConfRoads.args) (hf : Fits p_law08_ConfRoads.args d) : law08_ConfRoads d = some true := confRoads_any d.1 d.2
end Go.Proofs.Ytjbgbpcjgkjdcaa
