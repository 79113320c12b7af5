/- How deep leaves go together, and which buckets are on their paths. -/
import Derived.Test.YtaphpgkaammeiaaGeoways
namespace Go.Proofs.Ytaphpgkaammeiaa
open Go.Eng
set_option linter.unusedVariables false
set_option linter.unusedSimpArgs false

/-- Down to where rows are the same. -/
theorem deep_ex (f g : Nat → Nat) : ∀ H, f 0 = g 0 → ∃ D, D ≤ H ∧ (∀ r, r ≤ D → f r = g r) ∧ (D = H ∨ f (D + 1) ≠ g (D + 1))
  | 0, h => ⟨0, Nat.le_refl _, fun r hr => by have : r = 0 := by omega
                                              subst this; exact h, .inl rfl⟩
  | H + 1, h => by
    obtain ⟨D, h1, h2, h3⟩ := deep_ex f g H h
    rcases h3 with rfl | h3
    · by_cases he : f (D + 1) = g (D + 1)
      · refine ⟨D + 1, Nat.le_refl _, fun r hr => ?_, .inl rfl⟩
        by_cases hr' : r = D + 1
        · subst hr'; exact he
        · exact h2 r (by omega)
      · exact ⟨D, by omega, h2, .inr he⟩
    · exact ⟨D, by omega, h2, .inr h3⟩

theorem row_first {H A : Nat} (hA : A < 2 ^ H) : rowN H A 0 = 1 := by
  unfold rowN
  have hp : 0 < 2 ^ H := Nat.pow_pos (by omega)
  rw [Nat.sub_zero, Nat.add_div_left _ hp, Nat.div_eq_of_lt hA]

theorem geo_Deep_spec {H A B D : Nat} (h1 : 1 ≤ H) (hH : H ≤ 6) (hA : A < 2 ^ H) (hB : B < 2 ^ H) (hla : isL (H : Int) (A : Int) = true) (hlb : isL (H : Int) (B : Int) = true) (d1 : D ≤ H) (d2 : ∀ r, r ≤ D → rowN H A r = rowN H B r) (d3 : D = H ∨ rowN H A (D + 1) ≠ rowN H B (D + 1)) :
    geo_Deep ((H : Int), (A : Int), (B : Int)) = some ((D : Int), 0) := by
  unfold geo_Deep
  simp only
  rw [geo_isLeaf_spec, hla, Dat.bind_some, geo_isLeaf_spec, hlb, Dat.bind_some]
  simp only [Dat.bnot_eq, Bool.not_true, Dat.pick_ft, cond_false]
  refine loop_inv (fun (s : Int × Int) => ∃ i : Nat, s.1 = (i : Int) ∧ i ≤ D + 1 ∧ s.2 = ((i - 1 : Nat) : Int)) (fun s => H + 1 - s.1.toNat) ?_ ⟨0, rfl, by omega, rfl⟩ (small_lt (by show H + 1 - (0 : Int).toNat ≤ 1000; omega))
  rintro ⟨si, sd⟩ k ⟨i, rfl, hi, rfl⟩ hk
  by_cases hlt : i ≤ H
  · have e1 : Dat.ile (i : Int) (H : Int) = true := by simp [Dat.ile, hlt]
    simp only [e1, cond_true]
    rw [geo_onRow_spec h1 hH hA hlt, Dat.bind_some, geo_onRow_spec h1 hH hB hlt, Dat.bind_some]
    by_cases he : rowN H A i = rowN H B i
    · have e2 : Dat.ine ((rowN H B i : Nat) : Int) ((rowN H A i : Nat) : Int) = false := by simp [Dat.ine, he]
      have hiD : i ≤ D := by
        by_cases hx : i = D + 1
        · subst hx
          rcases d3 with rfl | d3
          · omega
          · exact absurd he d3
        · omega
      rw [e2, cond_false, Dat.bnd_eq, Dat.succ_i64 (by omega)]
      exact hk (((i + 1 : Nat) : Int), (i : Int)) ⟨i + 1, rfl, by omega, by simp⟩ (by show H + 1 - ((i + 1 : Nat) : Int).toNat < H + 1 - (i : Int).toNat; omega)
    · have e2 : Dat.ine ((rowN H B i : Nat) : Int) ((rowN H A i : Nat) : Int) = true := by simp [Dat.ine]; omega
      have : i = D + 1 := by
        by_cases hx : i ≤ D
        · exact absurd (d2 i hx) he
        · omega
      subst this
      rw [e2, cond_true]; rfl
  · have e1 : Dat.ile (i : Int) (H : Int) = false := by simp [Dat.ile]; omega
    have : i = D + 1 := by omega
    subst this
    rw [e1, cond_false]; rfl

theorem way_len (H A : Nat) : (wayN H A).length = H + 1 := by simp [wayN]
theorem way_get {H A i : Nat} (hi : i ≤ H) : Dat.get (wayN H A) (Dat.toN (i : Int)) 0 = ((rowN H A i : Nat) : Int) := by
  rw [Dat.toN_nat, Dat.get_lt _ _ (by rw [way_len]; omega)]
  simp [wayN]

theorem ref07_Both_spec {H A B D : Nat} (h1 : 1 ≤ H) (hH : H ≤ 6) (hA : A < 2 ^ H) (hB : B < 2 ^ H) (d1 : D ≤ H) (d2 : ∀ r, r ≤ D → rowN H A r = rowN H B r) (d3 : D = H ∨ rowN H A (D + 1) ≠ rowN H B (D + 1)) :
    ref07_Both ((H : Int), (A : Int), (B : Int)) = some (D : Int) := by
  unfold ref07_Both
  simp only
  rw [ref07_Way_spec h1 hH hA, Dat.bind_some, ref07_Way_spec h1 hH hB, Dat.bind_some]
  refine loop_inv (fun (s : Int) => ∃ i : Nat, s = (i : Int) ∧ i ≤ D) (fun s => H + 1 - s.toNat) ?_ ⟨0, rfl, by omega⟩ (small_lt (by show H + 1 - (0 : Int).toNat ≤ 1000; omega))
  rintro si k ⟨i, rfl, hi⟩ hk
  simp only [Dat.bnd_eq, Dat.len_eq, way_len, Dat.ofN_eq]
  rw [Dat.succ_i64 (by omega)]
  by_cases hlt : i < H
  · have e1 : Dat.ilt ((i + 1 : Nat) : Int) ((H + 1 : Nat) : Int) = true := by rw [Dat.ilt_nat]; simp; omega
    have c1 : Dat.Ix ((i + 1 : Nat) : Int) (H + 1) := (Dat.Ix_nat _ _).2 (by omega)
    rw [e1, cond_true, if_pos c1, if_pos c1, way_get (by omega), way_get (by omega)]
    by_cases he : rowN H A (i + 1) = rowN H B (i + 1)
    · have e2 : Dat.ieq ((rowN H A (i + 1) : Nat) : Int) ((rowN H B (i + 1) : Nat) : Int) = true := by simp [Dat.ieq, he]
      rw [e2]
      simp only [Dat.pick_tt, cond_true]
      have : i + 1 ≤ D := by
        by_cases hx : i = D
        · subst hx
          rcases d3 with rfl | d3
          · omega
          · exact absurd he d3
        · omega
      exact hk ((i + 1 : Nat) : Int) ⟨i + 1, rfl, this⟩ (by show H + 1 - ((i + 1 : Nat) : Int).toNat < H + 1 - (i : Int).toNat; omega)
    · have e2 : Dat.ieq ((rowN H A (i + 1) : Nat) : Int) ((rowN H B (i + 1) : Nat) : Int) = false := by simp [Dat.ieq]; omega
      have : i = D := by
        by_cases hx : i + 1 ≤ D
        · exact absurd (d2 _ hx) he
        · omega
      subst this
      rw [e2]
      simp only [Dat.pick_true, cond_false]
  · have e1 : Dat.ilt ((i + 1 : Nat) : Int) ((H + 1 : Nat) : Int) = false := by rw [Dat.ilt_nat]; simp; omega
    have : i = D := by omega
    subst this
    rw [e1, cond_false]

/-- What both say of how deep two leaves go together. -/
theorem deep_same (h a b : Int) : ∃ x, geo_Deep (h, a, b) = some x ∧ ref07_Deep (h, a, b) = some x := by
  cases hla : isL h a with
  | false =>
    refine ⟨(0, 2), ?_, ?_⟩
    · unfold geo_Deep
      simp only
      rw [geo_isLeaf_spec, hla, Dat.bind_some]
      simp only [Dat.bnot_eq, Bool.not_false, cond_true]
    · unfold ref07_Deep
      simp only
      rw [ref07_May_spec, Dat.bind_some]
      cases hm : may h with
      | false => simp only [Dat.bnot_eq, Bool.not_false, cond_true]
      | true =>
        rw [ref07_leaf_spec h a hm, hla, Dat.bind_some]
        simp only [Dat.bnot_eq, Bool.not_false, Bool.not_true, cond_true, cond_false, Dat.pick_ft]
  | true =>
    have hm := (isL_iff.1 hla).1
    cases hlb : isL h b with
    | false =>
      refine ⟨(0, 2), ?_, ?_⟩
      · unfold geo_Deep
        simp only
        rw [geo_isLeaf_spec, hla, Dat.bind_some, geo_isLeaf_spec, hlb, Dat.bind_some]
        simp only [Dat.bnot_eq, Bool.not_false, Bool.not_true, cond_true, cond_false, Dat.pick_ft]
      · unfold ref07_Deep
        simp only
        rw [ref07_May_spec, hm, Dat.bind_some, ref07_leaf_spec h a hm, hla, Dat.bind_some, ref07_leaf_spec h b hm, hlb, Dat.bind_some]
        simp only [Dat.bnot_eq, Bool.not_false, Bool.not_true, cond_true, cond_false, Dat.pick_ft]
    | true =>
      obtain ⟨H, A, rfl, rfl, h1, hH, hA, _⟩ := leaf_nat hla
      obtain ⟨_, B, e, rfl, _, _, hB, _⟩ := leaf_nat hlb
      have e' : H = _ := Int.ofNat_inj.1 e
      subst e'
      obtain ⟨D, d1, d2, d3⟩ := deep_ex (rowN H A) (rowN H B) H (by rw [row_first hA, row_first hB])
      refine ⟨_, geo_Deep_spec h1 hH hA hB hla hlb d1 d2 d3, ?_⟩
      unfold ref07_Deep
      simp only
      rw [ref07_May_spec, hm, Dat.bind_some, ref07_leaf_spec _ _ hm, hla, Dat.bind_some, ref07_leaf_spec _ _ hm, hlb, Dat.bind_some]
      simp only [Dat.bnot_eq, Bool.not_true, cond_false, Dat.pick_ft]
      rw [ref07_Both_spec h1 hH hA hB d1 d2 d3, Dat.bind_some]

def onN (H A : Nat) (b : Int) : Bool := (List.range (H + 1)).any fun r => ((rowN H A r : Nat) : Int) == b
theorem onN_true {H A r : Nat} {b : Int} (hr : r ≤ H) (h : ((rowN H A r : Nat) : Int) = b) : onN H A b = true := by
  simp only [onN, List.any_eq_true, List.mem_range, beq_iff_eq]
  exact ⟨r, by omega, h⟩
theorem onN_false {H A : Nat} {b : Int} (h : ∀ r, r ≤ H → ((rowN H A r : Nat) : Int) ≠ b) : onN H A b = false := by
  rw [Bool.eq_false_iff]
  intro hx
  simp only [onN, List.any_eq_true, List.mem_range, beq_iff_eq] at hx
  obtain ⟨r, hr, he⟩ := hx
  exact h r (by omega) he

def onS (h b a : Int) : Bool × Int := if isL h a then (if 1 ≤ b ∧ b < 2 * 2 ^ h.toNat then (onN h.toNat a.toNat b, 0) else (false, 2)) else (false, 2)

theorem geo_On_spec (h b a : Int) : geo_On (h, b, a) = some (onS h b a) := by
  unfold geo_On onS
  simp only
  rw [geo_isLeaf_spec, Dat.bind_some]
  cases hl : isL h a with
  | false => simp only [Dat.bnot_eq, Bool.not_false, cond_true]; rfl
  | true =>
    obtain ⟨H, A, rfl, rfl, h1, hH, hA, hm⟩ := leaf_nat hl
    simp only [Dat.bnot_eq, Bool.not_true, cond_false, Dat.pick_ft, if_true, if_neg (notNeg hm), shl2 hm, Dat.bnd_eq]
    by_cases hb1 : b < 1
    · have e : Dat.ilt b 1 = true := by simp [Dat.ilt, hb1]
      rw [e, cond_true, if_neg (by omega)]
    · have e : Dat.ilt b 1 = false := by simp [Dat.ilt]; omega
      rw [e, cond_false]
      by_cases hb2 : b < 2 * 2 ^ (H : Int).toNat
      · have e : Dat.ige b (2 * 2 ^ (H : Int).toNat) = false := by simp only [Dat.ige, decide_eq_false_iff_not]; omega
        rw [e, cond_false, if_pos ⟨by omega, hb2⟩]
        refine loop_inv (fun (s : Int) => ∃ i : Nat, s = (i : Int) ∧ i ≤ H + 1 ∧ ∀ r, r < i → ((rowN H A r : Nat) : Int) ≠ b) (fun s => H + 1 - s.toNat) ?_ ⟨0, rfl, by omega, by omega⟩ (small_lt (by show H + 1 - (0 : Int).toNat ≤ 1000; omega))
        rintro si k ⟨i, rfl, hi, hb⟩ hk
        by_cases hlt : i ≤ H
        · have e1 : Dat.ile (i : Int) (H : Int) = true := by simp [Dat.ile, hlt]
          rw [e1, cond_true, geo_onRow_spec h1 hH hA hlt, Dat.bind_some]
          by_cases he : ((rowN H A i : Nat) : Int) = b
          · have e2 : Dat.ieq ((rowN H A i : Nat) : Int) b = true := by simp [Dat.ieq, he]
            rw [e2, cond_true, Int.toNat_natCast, Int.toNat_natCast, onN_true hlt he]
          · have e2 : Dat.ieq ((rowN H A i : Nat) : Int) b = false := by simp [Dat.ieq, he]
            rw [e2, cond_false, Dat.succ_i64 (by omega)]
            refine hk ((i + 1 : Nat) : Int) ⟨i + 1, rfl, by omega, fun r hr => ?_⟩ (by show H + 1 - ((i + 1 : Nat) : Int).toNat < H + 1 - (i : Int).toNat; omega)
            by_cases hx : r = i
            · subst hx; exact he
            · exact hb r (by omega)
        · have e1 : Dat.ile (i : Int) (H : Int) = false := by simp [Dat.ile]; omega
          rw [e1, cond_false, Int.toNat_natCast, Int.toNat_natCast, onN_false fun r hr => hb r (by omega)]
      · have e : Dat.ige b (2 * 2 ^ (H : Int).toNat) = true := by simp only [Dat.ige, decide_eq_true_eq]; omega
        rw [e, cond_true, if_neg (by omega)]

theorem ref07_On_spec (h b a : Int) : ref07_On (h, b, a) = some (onS h b a) := by
  unfold ref07_On onS
  simp only
  rw [ref07_May_spec, Dat.bind_some]
  cases hm : may h with
  | false =>
    have hl : isL h a = false := by simp [isL, hm]
    simp only [hl, Dat.bnot_eq, Bool.not_false, cond_true]; rfl
  | true =>
    rw [ref07_leaf_spec h a hm, Dat.bind_some]
    cases hl : isL h a with
    | false => simp only [Dat.bnot_eq, Bool.not_true, Bool.not_false, cond_true, cond_false, Dat.pick_ft]; rfl
    | true =>
      obtain ⟨H, A, rfl, rfl, h1, hH, hA, hm⟩ := leaf_nat hl
      have hp := pow6 hH
      have e0 : ((2 : Int) ^ (H : Int).toNat) = ((2 ^ H : Nat) : Int) := by simp
      simp only [Dat.bnot_eq, Bool.not_true, cond_false, Dat.pick_ft, if_true]
      by_cases hb1 : b < 1
      · have e : Dat.ilt b 1 = true := by simp [Dat.ilt, hb1]
        rw [e, cond_true, if_neg (by omega)]
      · have e : Dat.ilt b 1 = false := by simp [Dat.ilt]; omega
        rw [e, cond_false, ref07_Many_spec (H : Int) (by omega) (by omega), Dat.bind_some]
        have w1 : Dat.wrap .i64 (Dat.mul 2 ((2 : Int) ^ (H : Int).toNat)) = 2 * 2 ^ (H : Int).toNat := by
          rw [e0]
          clear hA e0
          generalize 2 ^ H = q at *
          rw [Dat.wrap_i64] <;> simp only [Dat.mul_eq] <;> omega
        have w2 : Dat.wrap .i64 (Dat.sub (2 * 2 ^ (H : Int).toNat) 1) = 2 * 2 ^ (H : Int).toNat - 1 := by
          rw [e0]
          clear hA e0 w1
          generalize 2 ^ H = q at *
          rw [Dat.wrap_i64] <;> simp only [Dat.sub_eq] <;> omega
        rw [w1, Dat.bnd_eq, w2, Dat.bnd_eq]
        by_cases hb2 : b < 2 * 2 ^ (H : Int).toNat
        · have e : Dat.igt b (2 * 2 ^ (H : Int).toNat - 1) = false := by simp only [Dat.igt, decide_eq_false_iff_not]; omega
          rw [e, cond_false, if_pos ⟨by omega, hb2⟩, ref07_Way_spec h1 hH hA, Dat.bind_some]
          simp only [Dat.len_eq, way_len, Dat.ofN_eq]
          refine loop_inv (fun (s : Int) => ∃ i : Nat, s = (i : Int) ∧ i ≤ H + 1 ∧ ∀ r, r < i → ((rowN H A r : Nat) : Int) ≠ b) (fun s => H + 1 - s.toNat) ?_ ⟨0, rfl, by omega, by omega⟩ (small_lt (by show H + 1 - (0 : Int).toNat ≤ 1000; omega))
          rintro si k ⟨i, rfl, hi, hb⟩ hk
          by_cases hlt : i ≤ H
          · have e1 : Dat.ilt (i : Int) ((H + 1 : Nat) : Int) = true := by rw [Dat.ilt_nat]; simp; omega
            have c1 : Dat.Ix (i : Int) (H + 1) := (Dat.Ix_nat _ _).2 (by omega)
            rw [e1, cond_true, if_pos c1, way_get hlt, Dat.bnd_eq]
            by_cases he : ((rowN H A i : Nat) : Int) = b
            · have e2 : Dat.ieq ((rowN H A i : Nat) : Int) b = true := by simp [Dat.ieq, he]
              rw [e2, cond_true, Int.toNat_natCast, Int.toNat_natCast, onN_true hlt he]
            · have e2 : Dat.ieq ((rowN H A i : Nat) : Int) b = false := by simp [Dat.ieq, he]
              rw [e2, cond_false, Dat.bnd_eq, Dat.succ_i64 (by omega)]
              refine hk ((i + 1 : Nat) : Int) ⟨i + 1, rfl, by omega, fun r hr => ?_⟩ (by show H + 1 - ((i + 1 : Nat) : Int).toNat < H + 1 - (i : Int).toNat; omega)
              by_cases hx : r = i
              · subst hx; exact he
              · exact hb r (by omega)
          · have e1 : Dat.ilt (i : Int) ((H + 1 : Nat) : Int) = false := by rw [Dat.ilt_nat]; simp; omega
            rw [e1, cond_false, Int.toNat_natCast, Int.toNat_natCast, onN_false fun r hr => hb r (by omega)]
        · have e : Dat.igt b (2 * 2 ^ (H : Int).toNat - 1) = true := by simp only [Dat.igt, decide_eq_true_eq]; omega
          rw [e, cond_true, if_neg (by omega)]

end Go.Proofs.Ytaphpgkaammeiaa
