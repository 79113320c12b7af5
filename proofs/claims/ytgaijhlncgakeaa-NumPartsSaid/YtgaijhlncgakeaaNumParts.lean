/- NumParts answers true. -/
import Derived.Test.YtgaijhlncgakeaaCut
import Derived.Test.YtgaijhlncgakeaaSame
namespace Go.Proofs.Ytgaijhlncgakeaa
open Go.Eng
set_option linter.unusedVariables false
set_option linter.unusedSimpArgs false

theorem numParts_any (b sizes : List Int) (hs : sizes.length < 9223372036854775807) : law01_NumParts (b, sizes) = some true := by
  unfold law01_NumParts
  have ha : law01_alive () = some true := rfl
  simp only [Dat.ofN_eq, Dat.len_eq]
  rw [ha, Dat.bind_some]
  cases h1 : Dat.igt (b.length : Int) 5000 with
  | true => rfl
  | false =>
    simp only [cond_false]
    cases h2 : Dat.igt (sizes.length : Int) 100 with
    | true => rfl
    | false =>
      simp only [Dat.pick_ft, cond_false, Dat.bnot_eq, Bool.not_true]
      rw [num_Cut_spec b sizes hs, Dat.bind_some, num_Size_spec sizes hs, Dat.bind_some]
      unfold cutS
      cases hok : okS 0 65536 sizes with
      | false => simp [Dat.ine, Dat.ieq]
      | true =>
        by_cases he : (b.length : Int) = sizes.sum
        · obtain ⟨hlen, hall, hsum⟩ := ok_cut hok
          have hall0 : ∀ s ∈ sizes, 0 ≤ s := fun s h => (hall s h).1
          have hpl : (parts b sizes).length = sizes.length := by simp [parts]
          have e1 : (sizes.sum != (b.length : Int)) = false := by simp [he]
          simp only [if_true, if_pos he, Dat.ine, bne_self_eq_false, cond_false, hpl, e1]
          rw [if_pos (show Dat.EqN 0 (([] : List Int).length) from rfl)]
          refine loop_inv (fun (s : List Int × Int) => ∃ i : Nat, s.2 = (i : Int) ∧ i ≤ sizes.length ∧ s.1 = b.take (upto sizes i)) (fun s => sizes.length - s.2.toNat) ?_ ⟨0, rfl, Nat.zero_le _, by simp [upto]⟩ (by simp; omega)
          rintro ⟨sa, si⟩ k ⟨i, rfl, hi, rfl⟩ hk
          simp only [Dat.ilt_nat]
          by_cases hlt : i < sizes.length
          · have hp : i < (parts b sizes).length := by omega
            have eg : (parts b sizes)[i] = part b sizes i := by simp [parts]
            have hl := part_len hall0 he hlt
            have e2 : (((part b sizes i).length : Int) != sizes[i]) = false := by simp [hl]
            simp only [hlt, decide_true, cond_true, if_pos ((Dat.Ix_nat i sizes.length).2 hlt), Dat.bnd_eq, Dat.toN_nat, Dat.get_lt sizes 0 hlt, Dat.get_lt (parts b sizes) ([] : List Int) hp, eg, e2, cond_false]
            have hbig : ¬ Dat.Big (b.take (upto sizes i)).length (part b sizes i).length 1 := by
              have h5 := hall sizes[i] (List.getElem_mem hlt)
              have : (b.take (upto sizes i)).length ≤ b.length := by rw [List.length_take]; omega
              show ¬ (2 ^ 44 < ((b.take (upto sizes i)).length + (part b sizes i).length) * (1 + 1))
              omega
            rw [if_neg hbig]
            simp only [Dat.EqN, if_true, Dat.app_eq]
            rw [Dat.succ_i64 (by omega)]
            refine hk _ ⟨i + 1, rfl, hlt, ?_⟩ (by simp; omega)
            exact part_grow hall0 hlt
          · have ei : i = sizes.length := by omega
            subst ei
            have hb : b.take (upto sizes sizes.length) = b := by
              have := upto_eq hall0 sizes.length
              rw [List.take_length] at this
              exact List.take_of_length_le (by omega)
            simp only [hlt, decide_false, cond_false, cond_true]
            rw [hb, ref01_Same_spec, Dat.bind_some]
            simp
        · have e1 : (sizes.sum != (b.length : Int)) = true := by simp; omega
          simp [he, Dat.ine, Dat.ieq, e1]

theorem law01_NumParts_true (d : Els p_law01_NumParts.args) (hf : Fits p_law01_NumParts.args d) : law01_NumParts d = some true := by
  obtain ⟨b, sizes⟩ := d
  obtain ⟨⟨h1, h2⟩, h3, h4⟩ := hf
  rw [maxLen_eq] at h3
  by_cases hs : sizes.length < 9223372036854775807
  · exact numParts_any b sizes hs
  · replace h3 : sizes.length ≤ 9223372036854775807 := h3
    unfold law01_NumParts
    have ha : law01_alive () = some true := rfl
    have e2 : Dat.igt (Dat.ofN (Dat.len sizes)) 100 = true := by simp [Dat.igt]; omega
    rw [ha, Dat.bind_some]
    simp only [e2, Dat.pick_ft, cond_true]
    cases Dat.igt (Dat.ofN (Dat.len b)) 5000 <;> rfl
end Go.Proofs.Ytgaijhlncgakeaa
