/- GeoCounts answers true. -/
import Derived.Test.YtaphpgkaammeiaaGeo
namespace Go.Proofs.Ytaphpgkaammeiaa
open Go.Eng
set_option linter.unusedVariables false
set_option linter.unusedSimpArgs false

theorem law07_GeoCounts_true (d : Els p_law07_GeoCounts.args) (hf : Fits p_law07_GeoCounts.args d) : law07_GeoCounts d = some true := by
  obtain ⟨h, n⟩ := d
  obtain ⟨_, hn⟩ := hf
  have hn := fit_u64 hn
  unfold law07_GeoCounts
  simp only
  rw [geo_Leaves_spec, ref07_Leaves_spec, geo_Buckets_spec, ref07_Buckets_spec, geo_Reverse_spec h n hn.1 hn.2, ref07_Reverse_spec h n hn.1 hn.2, geo_Check_spec, ref07_Check_spec]
  simp [Dat.ieq]
end Go.Proofs.Ytaphpgkaammeiaa
