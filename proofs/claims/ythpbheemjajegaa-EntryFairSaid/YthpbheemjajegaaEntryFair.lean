/- EntryFair answers true. -/
import Derived.Test.YthpbheemjajegaaEntry
namespace Go.Proofs.Ythpbheemjajegaa
open Go.Eng
set_option linter.unusedVariables false
set_option linter.unusedSimpArgs false

theorem mod_shift {c : Int} {h : Int} (hm : may h = true) (i : Nat) : ((c + i) % 4294967296) % 2 ^ h.toNat = (c + i) % 2 ^ h.toNat := by
  rcases may_cases hm with rfl | rfl | rfl | rfl | rfl | rfl <;> simp <;> omega

theorem mod_apart {c m : Int} {i j : Nat} (hi : (i : Int) < m) (hj : (j : Int) < m) (he : (c + i) % m = (c + j) % m) : i = j := by
  have h1 := Int.mul_ediv_add_emod (c + i) m
  have h2 := Int.mul_ediv_add_emod (c + j) m
  rw [he] at h1
  have h3 : (i : Int) - j = m * ((c + i) / m - (c + j) / m) := by rw [Int.mul_sub]; omega
  generalize (c + ↑i) / m - (c + ↑j) / m = q at h3
  have hm : 0 < m := by omega
  rcases Int.lt_trichotomy q 0 with hq | hq | hq
  · have : m * q ≤ m * (-1) := Int.mul_le_mul_of_nonneg_left (by omega) (by omega)
    omega
  · subst hq; simp at h3; omega
  · have : m * 1 ≤ m * q := Int.mul_le_mul_of_nonneg_left (by omega) (by omega)
    omega

theorem entryFair_any (h c : Int) (h0 : 0 ≤ c) (h1 : c < 4294967296) : law19_EntryFair (h, c) = some true := by
  unfold law19_EntryFair
  have ha : law19_alive () = some true := rfl
  simp only
  rw [ha, Dat.bind_some, geo_Leaves_spec, Dat.bind_some]
  cases hm : may h with
  | false =>
    simp only [Dat.ine]
    simp [entry_Leaf_spec h c h0 h1, hm, Dat.ieq]
  | true =>
    have hp : (0 : Int) < 2 ^ h.toNat ∧ (2 : Int) ^ h.toNat ≤ 64 := by rcases may_cases hm with rfl | rfl | rfl | rfl | rfl | rfl <;> decide
    obtain ⟨hp0, hp6⟩ := hp
    have e1 : decide ((2 : Int) ^ h.toNat > 64) = false := decide_eq_false (by omega)
    simp only [if_true, Dat.ine, bne_self_eq_false, cond_false, Dat.igt, e1, Dat.pick_ft, Dat.bnot, Bool.not_true]
    rw [if_pos (show Dat.MkOk 64 64 8 from ⟨by omega, by omega, by omega, by omega⟩)]
    generalize hM : (2 : Int) ^ h.toNat = m at *
    refine loop_inv (fun (s : Int × List Int) => ∃ i : Nat, s.1 = (i : Int) ∧ (i : Int) ≤ m ∧ s.2.length = 64 ∧ ∀ k : Nat, k < 64 → (∀ j : Nat, j < i → (c + j) % m ≠ k) → s.2[k]? = some 0) (fun s => (m - s.1).toNat) ?_ ⟨0, rfl, by omega, by simp [Dat.rep, Dat.toN], ?_⟩ (by simp; omega)
    · rintro ⟨si, sl⟩ k ⟨i, rfl, hi, hlen, hz⟩ hk
      replace hlen : sl.length = 64 := hlen
      replace hz : ∀ k : Nat, k < 64 → (∀ j : Nat, j < i → (c + j) % m ≠ k) → sl[k]? = some 0 := hz
      simp only [Dat.ilt]
      by_cases hlt : (i : Int) < m
      · have w1 : Dat.wrap .u32 (i : Int) = i := by rw [Dat.wrap_u32]; omega
        have w2 : Dat.wrap .u32 (Dat.add c i) = (c + i) % 4294967296 := by rw [Dat.wrap_u32]
        have hl : entry_Leaf (h, (c + i) % 4294967296) = some ((c + i) % m, 0) := by
          rw [entry_Leaf_spec h _ (by omega) (by omega), hm]
          simp only [if_true]
          rw [mod_shift hm i, hM]
        have g0 : 0 ≤ (c + i) % m := Int.emod_nonneg _ (by omega)
        have g1 : (c + i) % m < m := Int.emod_lt_of_pos _ hp0
        obtain ⟨q, hq⟩ := Int.eq_ofNat_of_zero_le g0
        rw [hq] at hl g1
        simp only [hlt, decide_true, cond_true, Dat.bnd_eq, w1, w2]
        rw [hl, Dat.bind_some]
        have e2 : decide ((q : Int) < 0) = false := decide_eq_false (by omega)
        have e3 : Dat.ige (q : Int) m = false := decide_eq_false (by omega)
        have hq64 : q < 64 := by omega
        simp only [bne_self_eq_false, cond_false, e2, e3, Dat.pick_ft]
        have c1 : Dat.In (q : Int) (Dat.toN 64) := by show 0 ≤ (q : Int) ∧ (q : Int) < ((64 : Nat) : Int); omega
        have c3 : Dat.addN 0 (Dat.toN (q : Int)) = q := by show 0 + (q : Int).toNat = q; simp
        have c2 : Dat.Lt q (Dat.len sl) := by show q < sl.length; omega
        have hz0 : sl[q]? = some 0 := hz q hq64 fun j hj he => by
          have := mod_apart (c := c) (m := m) (i := j) (j := i) (by omega) (by omega) (by rw [he, hq])
          omega
        have hg : Dat.get sl q 0 = 0 := by show (sl[q]?).getD 0 = 0; rw [hz0]; rfl
        simp only [if_pos c1, c3, if_pos c2, hg, Dat.bnd_eq]
        have e4 : decide ((0 : Int) > 0) = false := rfl
        simp only [e4, cond_false]
        rw [show Dat.wrap .i64 (Dat.add 0 1) = 1 from rfl, Dat.succ_i64 (by omega)]
        refine hk (((i + 1 : Nat) : Int), sl.set q 1) ⟨i + 1, rfl, by omega, by rw [List.length_set]; exact hlen, ?_⟩ (by show (m - ((i + 1 : Nat) : Int)).toNat < (m - (i : Int)).toNat; omega)
        intro k' hk' hne
        have h3 : q ≠ k' := fun e => hne i (by omega) (by rw [hq, e])
        have := hz k' hk' fun j hj => hne j (by omega)
        show (sl.set q 1)[k']? = some 0
        rw [List.getElem?_set_ne h3]; exact this
      · simp only [hlt, decide_false, cond_false]
    · intro k hk _
      show (List.replicate (64 : Int).toNat (0 : Int))[k]? = some 0
      rw [List.getElem?_replicate]; simp; omega

theorem law19_EntryFair_true (d : Els p_law19_EntryFair.args) (hf : Fits p_law19_EntryFair.args d) : law19_EntryFair d = some true := by
  obtain ⟨h, c⟩ := d
  obtain ⟨f1, f2⟩ := hf
  obtain ⟨a1, a2⟩ := fit_u32 f2
  exact entryFair_any h c a1 a2
end Go.Proofs.Ythpbheemjajegaa
