/- NumPuts answers true. -/
import Derived.Test.YtgaijhlncgakeaaNumput
namespace Go.Proofs.Ytgaijhlncgakeaa
open Go.Eng
set_option linter.unusedVariables false
set_option linter.unusedSimpArgs false

theorem law01_NumPuts_true (d : Els p_law01_NumPuts.args) (hf : Fits p_law01_NumPuts.args d) : law01_NumPuts d = some true := by
  obtain ⟨l, sizes⟩ := d
  obtain ⟨⟨h1, h2⟩, h3, h4⟩ := hf
  rw [maxLen_eq] at h1 h3
  have hr : ∀ n ∈ l, 0 ≤ n ∧ n < 18446744073709551616 := fun n hn => fit_u64 (h2 n hn)
  replace h1 : l.length ≤ 9223372036854775807 := h1
  replace h3 : sizes.length ≤ 9223372036854775807 := h3
  unfold law01_NumPuts
  simp only [Dat.ofN_eq, Dat.len_eq, Dat.pick_ft, Dat.igt]
  by_cases hl : (l.length : Int) > 100
  · simp [hl]
  · by_cases hs : (sizes.length : Int) > 100
    · simp [hl, hs]
    · simp only [hl, hs, decide_false, cond_false]
      rw [if_pos (show Dat.Le (Dat.addN 0 0) (([] : List Int).length) from Nat.le_refl _)]
      have e0 : Dat.seg ([] : List Int) 0 0 = [] := rfl
      have hb1 : ¬ Dat.Big (([] : List Int).length) l.length 8 := by show ¬ (2 ^ 44 < (0 + l.length) * (8 + 1)); omega
      have hb2 : ¬ Dat.Big (([] : List Int).length) sizes.length 8 := by show ¬ (2 ^ 44 < (0 + sizes.length) * (8 + 1)); omega
      simp only [e0]
      rw [if_neg hb1]
      simp only [Dat.bnd_eq, Dat.app_eq, List.nil_append]
      rw [if_pos (show Dat.Le (Dat.addN 0 0) (([] : List Int).length) from Nat.le_refl _), if_neg hb2]
      rw [num_Put_spec l sizes (by omega) (by omega) hr, ref01_Put_spec l sizes (by omega) (by omega) hr, Dat.bind_some, Dat.bind_some, num_Size_spec sizes (by omega), Dat.bind_some, ref01_Size_spec sizes (by omega), Dat.bind_some, ref01_Same_spec, Dat.bind_some]
      simp [Dat.ieq, ref01_SameNumbers_self l (by omega), ref01_SameInts_self sizes (by omega)]
end Go.Proofs.Ytgaijhlncgakeaa
