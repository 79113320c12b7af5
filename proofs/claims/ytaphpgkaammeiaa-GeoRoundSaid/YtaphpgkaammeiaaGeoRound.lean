/- GeoRound answers true. -/
import Derived.Test.YtaphpgkaammeiaaGeo
namespace Go.Proofs.Ytaphpgkaammeiaa
open Go.Eng
set_option linter.unusedVariables false
set_option linter.unusedSimpArgs false

def chk (k : Nat) : Bool := (List.range (2 ^ k)).all fun r => decide (turnS k (turnS k (r : Int) 0) 0 = (r : Int)) && decide (0 ≤ turnS k (r : Int) 0) && decide (turnS k (r : Int) 0 < 2 ^ k)
theorem chk_all : ∀ k, 1 ≤ k → k ≤ 6 → chk k = true := by
  intro k h1 h2
  have : k = 1 ∨ k = 2 ∨ k = 3 ∨ k = 4 ∨ k = 5 ∨ k = 6 := by omega
  rcases this with rfl | rfl | rfl | rfl | rfl | rfl <;> decide +kernel

theorem turn_facts {k : Nat} (h1 : 1 ≤ k) (h2 : k ≤ 6) {m : Int} (h0 : 0 ≤ m) : turnS k (turnS k (m % 2 ^ k) 0) 0 = m % 2 ^ k ∧ 0 ≤ turnS k (m % 2 ^ k) 0 ∧ turnS k (m % 2 ^ k) 0 < 2 ^ k := by
  have hp0 : (0 : Int) < 2 ^ k := Int.pow_pos (by omega)
  have hm0 : 0 ≤ m % 2 ^ k := Int.emod_nonneg _ (by omega)
  have hm1 : m % 2 ^ k < 2 ^ k := Int.emod_lt_of_pos _ hp0
  obtain ⟨r, hr⟩ : ∃ r : Nat, m % 2 ^ k = (r : Int) := ⟨(m % 2 ^ k).toNat, by omega⟩
  rw [hr] at hm1 ⊢
  have hr2 : r < 2 ^ k := by
    have : ((2 ^ k : Nat) : Int) = 2 ^ k := by simp
    omega
  have := chk_all k h1 h2
  unfold chk at this
  rw [List.all_eq_true] at this
  have := this r (List.mem_range.2 hr2)
  simp only [Bool.and_eq_true, decide_eq_true_eq] at this
  exact ⟨this.1.1, this.1.2, this.2⟩

theorem geoRound_any (h n : Int) (hn : 0 ≤ n ∧ n < 18446744073709551616) : law07_GeoRound (h, n) = some true := by
  unfold law07_GeoRound law07_alive
  simp only [Dat.bind_some]
  rw [geo_Leaves_spec, Dat.bind_some]
  cases hm : may h with
  | false => simp [Dat.ine, Dat.ieq]
  | true =>
    have hm' := may_iff.1 hm
    simp only [if_true, Dat.ine, bne_self_eq_false, cond_false, Dat.bnot_eq, Bool.not_true, Dat.pick_ft]
    rw [if_pos (show Dat.MkOk 128 128 8 from by decide)]
    obtain ⟨k, rfl⟩ : ∃ k : Nat, h = (k : Int) := ⟨h.toNat, by omega⟩
    have hk1 : 1 ≤ k := by omega
    have hk6 : k ≤ 6 := by omega
    simp only [Int.toNat_natCast]
    have hp : (2 : Int) ^ k ≤ 2 ^ 6 := pow2_le hk6
    have e6 : (2 : Int) ^ 6 = 64 := by decide
    have hp0 : (0 : Int) < 2 ^ k := Int.pow_pos (by omega)
    have hend : Dat.pickB true (Dat.ile (2 ^ k) 64) false = true := by simp only [Dat.pick_tf, Dat.ile, decide_eq_true_eq]; omega
    -- what a round's number is turned to
    have hrev : ∀ i : Nat, (i : Int) < 64 → geo_Reverse ((k : Int), Dat.wrap .u64 (Dat.add n (Dat.wrap .u64 (i : Int)))) = some (turnS k ((n + i) % 2 ^ k) 0, 0) := by
      intro i hi
      rw [Dat.wrap_u64_id (x := (i : Int)) (by omega) (by omega)]
      simp only [Dat.add_eq]
      have e1 : Dat.wrap .u64 (n + i) = (n + i) % 18446744073709551616 := Dat.wrap_u64 _
      rw [e1, geo_Reverse_spec _ _ (by omega) (by omega), hm]
      simp only [if_true, Int.toNat_natCast]
      have h3 := turn_mod (h := (k : Int)) ((n + i) % 18446744073709551616) (by omega) hm
      simp only [Int.toNat_natCast] at h3
      rw [← h3]
      have hdvd : (2 : Int) ^ k ∣ 18446744073709551616 := by
        have : k = 1 ∨ k = 2 ∨ k = 3 ∨ k = 4 ∨ k = 5 ∨ k = 6 := by omega
        rcases this with rfl | rfl | rfl | rfl | rfl | rfl <;> decide
      rw [Int.emod_emod_of_dvd _ hdvd]
    refine loop_inv (fun (s : Int × List Int) => ∃ i : Nat, s.1 = (i : Int) ∧ (i : Int) ≤ 2 ^ k ∧ s.2.length = 128 ∧ ∀ x : Nat, s.2.getD x 0 > 0 → ∃ j : Nat, j < i ∧ turnS k ((n + j) % 2 ^ k) 0 = (x : Int)) (fun s => (2 ^ k - s.1).toNat) ?_ ⟨0, rfl, by show ((0 : Nat) : Int) ≤ 2 ^ k; omega, by show (List.replicate (Int.toNat 128) (0 : Int)).length = 128; rfl, ?_⟩ (by show (2 ^ k - 0 : Int).toNat < _; omega)
    · rintro ⟨si, met⟩ kk ⟨i, rfl, hi, hlen, hmet⟩ hk
      simp only at hlen hmet ⊢
      simp only [Dat.ilt]
      by_cases hlt : (i : Int) < 2 ^ k
      · simp only [hlt, decide_true, cond_true, hend, Dat.bnd_eq]
        rw [hrev i (by omega), Dat.bind_some]
        obtain ⟨f1, f2, f3⟩ := turn_facts hk1 hk6 (m := n + i) (by omega)
        generalize hl : turnS k ((n + i) % 2 ^ k) 0 = l at f1 f2 f3
        obtain ⟨x, rfl⟩ : ∃ x : Nat, l = (x : Int) := ⟨l.toNat, by omega⟩
        have hge : Dat.ige (x : Int) (2 ^ k) = false := by simp only [Dat.ige, decide_eq_false_iff_not]; omega
        have hlt0 : decide ((x : Int) < 0) = false := by simp
        have hx : x < 128 := by omega
        simp only [bne_self_eq_false, cond_false, hlt0, Dat.pick_ft, hge]
        have hin : Dat.In (x : Int) (Dat.toN 128) := ⟨by omega, by show (x : Int) < 128; omega⟩
        rw [if_pos hin]
        simp only [Dat.toN_nat, Dat.addN_eq, Nat.zero_add, Dat.len_eq]
        have hlt2 : Dat.Lt x met.length := by show x < met.length; omega
        rw [if_pos hlt2]
        have hno : ¬ met.getD x 0 > 0 := by
          intro hgt
          obtain ⟨j, hj, he⟩ := hmet x hgt
          have f4 := (turn_facts hk1 hk6 (m := n + j) (by omega)).1
          rw [he, f1] at f4
          have : k = 1 ∨ k = 2 ∨ k = 3 ∨ k = 4 ∨ k = 5 ∨ k = 6 := by omega
          rcases this with rfl | rfl | rfl | rfl | rfl | rfl <;> simp at f4 hlt <;> omega
        have hgt : Dat.igt (Dat.get met x 0) 0 = false := by simp only [Dat.igt, decide_eq_false_iff_not]; exact hno
        rw [hgt, cond_false, if_pos hin, if_pos hlt2, if_pos hin, if_pos hlt2, Dat.succ_i64 (by omega)]
        refine hk _ ⟨i + 1, rfl, by omega, by simp [hlen], ?_⟩ (by simp only []; omega)
        intro y hy
        simp only [Dat.set] at hy
        by_cases hyx : y = x
        · subst hyx; exact ⟨i, by omega, hl⟩
        · have : (met.set x (Dat.wrap .i64 (Dat.add (Dat.get met x 0) 1))).getD y 0 = met.getD y 0 := by
            simp only [List.getD]
            rw [List.getElem?_set_ne (Ne.symm hyx)]
          rw [this] at hy
          obtain ⟨j, hj, he⟩ := hmet y hy
          exact ⟨j, by omega, he⟩
      · simp only [hlt, decide_false, cond_false, cond_true, hend]
    · intro x hx
      simp only [Dat.rep, List.getD, List.getElem?_replicate] at hx
      split at hx <;> simp at hx

theorem law07_GeoRound_true (d : Els p_law07_GeoRound.args) (hf : Fits p_law07_GeoRound.args d) : law07_GeoRound d = some true :=
  geoRound_any d.1 d.2 (fit_u64 hf.2)
end Go.Proofs.Ytaphpgkaammeiaa
