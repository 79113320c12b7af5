/- GeoHalves answers true. -/
import Derived.Test.YtaphpgkaammeiaaGeodeep
namespace Go.Proofs.Ytaphpgkaammeiaa
open Go.Eng
set_option linter.unusedVariables false
set_option linter.unusedSimpArgs false

theorem row_half {H A r : Nat} (hr : r < H) : rowN H A (r + 1) / 2 = rowN H A r := by
  unfold rowN
  have e : H - r = (H - (r + 1)) + 1 := by omega
  rw [e, div_step]
theorem row_back {H A B r : Nat} : ∀ (d : Nat), r + d ≤ H → rowN H A (r + d) = rowN H B (r + d) → rowN H A r = rowN H B r
  | 0, _, h => h
  | d + 1, hd, h => by
    refine row_back d (by omega) ?_
    rw [← row_half (A := A) (r := r + d) (by omega), ← row_half (A := B) (r := r + d) (by omega)]
    have e : r + d + 1 = r + (d + 1) := by omega
    rw [e, h]
theorem row_iff {H A B D : Nat} (d2 : ∀ r, r ≤ D → rowN H A r = rowN H B r) (d3 : D = H ∨ rowN H A (D + 1) ≠ rowN H B (D + 1)) {i : Nat} (hi : i ≤ H) : rowN H A i = rowN H B i ↔ i ≤ D := by
  constructor
  · intro h
    rcases d3 with rfl | d3
    · exact hi
    · by_cases hx : i ≤ D
      · exact hx
      · refine absurd (row_back (i - (D + 1)) (by omega) ?_) d3
        have e : D + 1 + (i - (D + 1)) = i := by omega
        rw [e]; exact h
  · exact d2 i
theorem row_bounds {H A r : Nat} (hA : A < 2 ^ H) (hr : r ≤ H) : 2 ^ r ≤ rowN H A r ∧ rowN H A r < 2 ^ (r + 1) := by
  unfold rowN
  have e : 2 ^ H = 2 ^ r * 2 ^ (H - r) := by rw [← Nat.pow_add]; congr 1; omega
  have hp : 0 < 2 ^ (H - r) := Nat.pow_pos (by omega)
  constructor
  · rw [Nat.le_div_iff_mul_le hp, ← e]; omega
  · rw [Nat.div_lt_iff_lt_mul hp, Nat.pow_succ]
    have : 2 ^ r * 2 * 2 ^ (H - r) = 2 * 2 ^ H := by rw [Nat.mul_right_comm, ← e, Nat.mul_comm]
    rw [this]; omega
theorem row_level {H A B r i : Nat} (hA : A < 2 ^ H) (hB : B < 2 ^ H) (hr : r ≤ H) (hi : i ≤ H) (h : rowN H B r = rowN H A i) : r = i := by
  have a := row_bounds hA hi
  have b := row_bounds hB hr
  rw [h] at b
  rcases Nat.lt_trichotomy r i with hx | hx | hx
  · have : 2 ^ (r + 1) ≤ 2 ^ i := Nat.pow_le_pow_right (by omega) hx
    omega
  · exact hx
  · have : 2 ^ (i + 1) ≤ 2 ^ r := Nat.pow_le_pow_right (by omega) hx
    omega
theorem on_row {H A B D i : Nat} (hA : A < 2 ^ H) (hB : B < 2 ^ H) (d2 : ∀ r, r ≤ D → rowN H A r = rowN H B r) (d3 : D = H ∨ rowN H A (D + 1) ≠ rowN H B (D + 1)) (hi : i ≤ H) : onN H B ((rowN H A i : Nat) : Int) = decide (i ≤ D) := by
  by_cases hd : i ≤ D
  · rw [onN_true hi (by rw [(row_iff d2 d3 hi).2 hd])]; simp [hd]
  · rw [onN_false fun r hr he => hd ?_]
    · simp [hd]
    · have he' : rowN H B r = rowN H A i := Int.ofNat_inj.1 he
      have := row_level hA hB hr hi he'
      subst this
      exact (row_iff d2 d3 hi).1 he'.symm

theorem deepBad {h a b : Int} (hb : isL h a = false ∨ isL h b = false) : geo_Deep (h, a, b) = some (0, 2) := by
  unfold geo_Deep
  simp only
  rw [geo_isLeaf_spec, Dat.bind_some]
  cases hla : isL h a with
  | false => simp only [Dat.bnot_eq, Bool.not_false, cond_true]
  | true =>
    have hlb : isL h b = false := by rcases hb with hb | hb
                                     · rw [hla] at hb; simp at hb
                                     · exact hb
    rw [geo_isLeaf_spec, hlb, Dat.bind_some]
    simp only [Dat.bnot_eq, Bool.not_false, Bool.not_true, cond_true, cond_false, Dat.pick_ft]

theorem halves_good {H A B D : Nat} (h1 : 1 ≤ H) (hH : H ≤ 6) (hA : A < 2 ^ H) (hB : B < 2 ^ H) (hla : isL (H : Int) (A : Int) = true) (hlb : isL (H : Int) (B : Int) = true) (d1 : D ≤ H) (d2 : ∀ r, r ≤ D → rowN H A r = rowN H B r) (d3 : D = H ∨ rowN H A (D + 1) ≠ rowN H B (D + 1)) :
    law07_GeoHalves ((H : Int), (A : Int), (B : Int)) = some true := by
  have hp := pow6 hH
  have hm : may (H : Int) = true := (isL_iff.1 hla).1
  unfold law07_GeoHalves
  have ha : law07_alive () = some true := rfl
  simp only
  rw [ha, Dat.bind_some, geo_Path_spec, hla, Dat.bind_some, geo_Path_spec, hlb, Dat.bind_some, geo_Deep_spec h1 hH hA hB hla hlb d1 d2 d3, Dat.bind_some]
  rw [if_pos rfl, if_pos rfl]
  have hwA : wayN (H : Int).toNat (A : Int).toNat = wayN H A := rfl
  have hwB : wayN (H : Int).toNat (B : Int).toNat = wayN H B := rfl
  rw [hwA, hwB]
  have z : Dat.ine 0 0 = false := rfl
  have w1 : Dat.wrap .i64 (Dat.add (H : Int) 1) = ((H + 1 : Nat) : Int) := Dat.succ_i64 (by omega)
  have z1 : Dat.ine ((H + 1 : Nat) : Int) ((H + 1 : Nat) : Int) = false := by simp [Dat.ine]
  have z2 : Dat.ine 1 1 = false := rfl
  have c0 : Dat.Ix 0 (H + 1) := (Dat.Ix_nat 0 (H + 1)).2 (by omega)
  have g0 : ∀ A, A < 2 ^ H → Dat.get (wayN H A) (Dat.toN 0) 0 = 1 := fun A hA => by
    have := way_get (H := H) (A := A) (i := 0) (by omega)
    rw [row_first hA] at this; exact this
  have cH : Dat.Ix (H : Int) (H + 1) := (Dat.Ix_nat _ _).2 (by omega)
  have e1 : ((2 : Int) ^ (H : Int).toNat) = ((2 ^ H : Nat) : Int) := by simp
  have e2 : Dat.wrap .i64 (Dat.add ((2 ^ H : Nat) : Int) (A : Int)) = ((2 ^ H + A : Nat) : Int) := by
    have : Dat.add ((2 ^ H : Nat) : Int) (A : Int) = ((2 ^ H + A : Nat) : Int) := by simp [Dat.add]
    have hb : 2 ^ H + A < 128 := by omega
    rw [this]
    clear hA e1 this hp hB hla
    generalize 2 ^ H + A = n at *
    rw [Dat.wrap_i64] <;> omega
  have gH : rowN H A H = 2 ^ H + A := by unfold rowN; rw [Nat.sub_self, Nat.pow_zero, Nat.div_one]
  have z3 : Dat.ine ((2 ^ H + A : Nat) : Int) ((2 ^ H + A : Nat) : Int) = false := by simp [Dat.ine]
  have z4 : Dat.ilt (D : Int) 0 = false := by simp [Dat.ilt]
  have z5 : Dat.igt (D : Int) (H : Int) = false := by simp [Dat.igt]; omega
  have gHH := way_get (H := H) (A := A) (Nat.le_refl H)
  rw [gH] at gHH
  have zl : ∀ A, Dat.ine (Dat.ofN (Dat.len (wayN H A))) ((H + 1 : Nat) : Int) = false := fun A => by
    rw [Dat.len_eq, way_len]; exact z1
  have c0' : ∀ A, Dat.Ix 0 (Dat.len (wayN H A)) := fun A => by rw [Dat.len_eq, way_len]; exact c0
  have cH' : ∀ A, Dat.Ix (H : Int) (Dat.len (wayN H A)) := fun A => by rw [Dat.len_eq, way_len]; exact cH
  have ci' : ∀ (A : Nat) (i : Nat), i ≤ H → Dat.Ix (i : Int) (Dat.len (wayN H A)) := fun A i hi => by rw [Dat.len_eq, way_len]; exact (Dat.Ix_nat _ _).2 (by omega)
  rw [z, cond_false, Dat.pick_ft, cond_false, cond_false, w1, Dat.bnd_eq, zl, Dat.pick_ft, cond_false, Dat.bnd_eq, zl, Dat.pick_ft, cond_false, if_pos (c0' A), g0 A hA, Dat.bnd_eq, z2, Dat.pick_ft, cond_false, if_pos (c0' B), g0 B hB, Dat.bnd_eq, z2, Dat.pick_ft, cond_false,
    if_pos (cH' A), gHH, Dat.bnd_eq, if_neg (notNeg hm), shl1 hm, Dat.bnd_eq, e1, e2, Dat.bnd_eq, z3, Dat.pick_ft, cond_false, z4, Dat.pick_ft, cond_false, z5, Dat.pick_ft, cond_false]
  have rest : ∀ (i : Nat), i ≤ H → (Dat.beq (Dat.ieq ((rowN H A i : Nat) : Int) ((rowN H B i : Nat) : Int)) (Dat.ile (i : Int) (D : Int))) = true := by
    intro i hi
    have hr := row_iff d2 d3 hi
    have a1 : Dat.ieq ((rowN H A i : Nat) : Int) ((rowN H B i : Nat) : Int) = decide (i ≤ D) := by
      by_cases hd : i ≤ D
      · have := hr.2 hd; simp [Dat.ieq, this, hd]
      · have : rowN H A i ≠ rowN H B i := fun h => hd (hr.1 h)
        simp [Dat.ieq, hd]; omega
    have a2 : Dat.ile (i : Int) (D : Int) = decide (i ≤ D) := by simp [Dat.ile]
    rw [a1, a2]; simp [Dat.beq]
  have onr : ∀ (i : Nat), i ≤ H → geo_On ((H : Int), ((rowN H A i : Nat) : Int), (B : Int)) = some (decide (i ≤ D), 0) := by
    intro i hi
    have hb := row_bounds hA hi
    have h2 : 2 ^ (i + 1) ≤ 2 ^ (H + 1) := Nat.pow_le_pow_right (by omega) (by omega)
    have h3 : 0 < 2 ^ i := Nat.pow_pos (by omega)
    have h4 : 2 ^ (H + 1) = 2 * 2 ^ H := by rw [Nat.pow_succ]; omega
    rw [geo_On_spec]
    unfold onS
    rw [if_pos hlb, if_pos ⟨by omega, by rw [e1]; omega⟩, Int.toNat_natCast, Int.toNat_natCast, on_row hA hB d2 d3 hi]
  have onb : ∀ (i : Nat), Dat.beq (decide (i ≤ D)) (Dat.ile (i : Int) (D : Int)) = true := by
    intro i
    have a2 : Dat.ile (i : Int) (D : Int) = decide (i ≤ D) := by simp [Dat.ile]
    rw [a2]; simp [Dat.beq]
  have bt : Dat.bnot true = false := rfl
  refine loop_inv (fun (s : Int) => ∃ i : Nat, s = (i : Int) ∧ i ≤ H + 1) (fun s => H + 1 - s.toNat) ?_ ⟨0, rfl, by omega⟩ (small_lt (by show H + 1 - (0 : Int).toNat ≤ 1000; omega))
  rintro si k ⟨i, rfl, hi⟩ hk
  by_cases hlt : i ≤ H
  · have e3 : Dat.ile (i : Int) (H : Int) = true := by simp [Dat.ile, hlt]
    have ci := ci' A i hlt
    have cib := ci' B i hlt
    have hend : k ((i + 1 : Nat) : Int) = some true := hk _ ⟨i + 1, rfl, by omega⟩ (by show H + 1 - ((i + 1 : Nat) : Int).toNat < H + 1 - (i : Int).toNat; omega)
    rw [e3, cond_true]
    by_cases h0 : i = 0
    · subst h0
      have e4 : Dat.igt ((0 : Nat) : Int) 0 = false := rfl
      rw [e4, cond_false, if_pos ci, way_get hlt, Dat.bnd_eq, if_pos cib, way_get hlt, Dat.bnd_eq, rest _ hlt, bt, Dat.pick_ft, cond_false, if_pos ci, Dat.bnd_eq, onr _ hlt, Dat.bind_some]
      simp only
      rw [z, cond_false, onb, bt, Dat.pick_ft, cond_false, Dat.bnd_eq, Dat.succ_i64 (by omega)]
      exact hend
    · have e4 : Dat.igt (i : Int) 0 = true := by simp [Dat.igt]; omega
      have z9 : ¬ Dat.IsZ 2 := by show ¬ ((2 : Int) = 0); omega
      have hh := row_half (H := H) (A := A) (r := i - 1) (by omega)
      have ei : i - 1 + 1 = i := by omega
      rw [ei] at hh
      have d4 : Dat.wrap .i64 (Dat.tdiv ((rowN H A i : Nat) : Int) 2) = ((rowN H A (i - 1) : Nat) : Int) := by
        have : Dat.tdiv ((rowN H A i : Nat) : Int) 2 = ((rowN H A i / 2 : Nat) : Int) := Int.ofNat_tdiv _ 2
        have h8 := rowN_le (r := i - 1) hH hA
        rw [this, hh, Dat.wrap_i64] <;> omega
      have d5 : Dat.wrap .i64 (Dat.sub (i : Int) 1) = ((i - 1 : Nat) : Int) := by
        rw [Dat.wrap_i64] <;> simp only [Dat.sub_eq] <;> omega
      have cj := ci' A (i - 1) (by omega)
      have z10 : Dat.ine ((rowN H A (i - 1) : Nat) : Int) ((rowN H A (i - 1) : Nat) : Int) = false := by simp [Dat.ine]
      rw [e4, cond_true, if_pos ci, way_get hlt, Dat.bnd_eq, if_neg z9, d4, Dat.bnd_eq, d5, Dat.bnd_eq, if_pos cj, way_get (by omega), Dat.bnd_eq, z10, Dat.pick_tf, cond_false, if_pos ci, Dat.bnd_eq, if_pos cib, way_get hlt, Dat.bnd_eq, rest _ hlt, bt, Dat.pick_ft, cond_false, if_pos ci, Dat.bnd_eq, onr _ hlt, Dat.bind_some]
      simp only
      rw [z, cond_false, onb, bt, Dat.pick_ft, cond_false, Dat.bnd_eq, Dat.succ_i64 (by omega)]
      exact hend
  · have e3 : Dat.ile (i : Int) (H : Int) = false := by simp [Dat.ile]; omega
    rw [e3, cond_false]

theorem geoHalves_any (h a b : Int) : law07_GeoHalves (h, a, b) = some true := by
  cases hla : isL h a with
  | true =>
    cases hlb : isL h b with
    | true =>
      obtain ⟨H, A, rfl, rfl, h1, hH, hA, _⟩ := leaf_nat hla
      obtain ⟨_, B, e, rfl, _, _, hB, _⟩ := leaf_nat hlb
      have e' : H = _ := Int.ofNat_inj.1 e
      subst e'
      obtain ⟨D, d1, d2, d3⟩ := deep_ex (rowN H A) (rowN H B) H (by rw [row_first hA, row_first hB])
      exact halves_good h1 hH hA hB hla hlb d1 d2 d3
    | false =>
      unfold law07_GeoHalves
      have ha : law07_alive () = some true := rfl
      simp only
      rw [ha, Dat.bind_some, geo_Path_spec, hla, Dat.bind_some, geo_Path_spec, hlb, Dat.bind_some, deepBad (.inr hlb), Dat.bind_some]
      have z : Dat.ine 0 0 = false := rfl
      have z2 : Dat.ine 2 0 = true := rfl
      have z3 : Dat.ieq 2 2 = true := rfl
      have z4 : Dat.ieq (Dat.ofN (Dat.len ([] : List Int))) 0 = true := rfl
      rw [if_pos rfl, if_neg (by simp)]
      simp only [z, z2, z3, z4, cond_true, cond_false, Dat.pick_ft, Dat.pick_tt]
  | false =>
    unfold law07_GeoHalves
    have ha : law07_alive () = some true := rfl
    simp only
    rw [ha, Dat.bind_some, geo_Path_spec, hla, Dat.bind_some, geo_Path_spec, Dat.bind_some, deepBad (.inl hla), Dat.bind_some]
    have z2 : Dat.ine 2 0 = true := rfl
    have z3 : Dat.ieq 2 2 = true := rfl
    have z4 : Dat.ieq (Dat.ofN (Dat.len ([] : List Int))) 0 = true := rfl
    rw [if_neg (by simp)]
    simp only [z2, z3, z4, cond_true, Dat.pick_tt]

theorem law07_GeoHalves_true (d : Els p_law07_GeoHalves.args) (hf : Fits p_law07_GeoHalves.args d) : law07_GeoHalves d = some true := geoHalves_any d.1 d.2.1 d.2.2
end Go.Proofs.Ytaphpgkaammeiaa
