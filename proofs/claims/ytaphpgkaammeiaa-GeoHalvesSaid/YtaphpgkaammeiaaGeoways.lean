/- Leaves' paths: what is asked of them. -/
import Derived.Test.YtaphpgkaammeiaaGeo
import Derived.Test.YtaphpgkaammeiaaSameInts
namespace Go.Proofs.Ytaphpgkaammeiaa
open Go.Eng
set_option linter.unusedVariables false
set_option linter.unusedSimpArgs false
set_option maxRecDepth 20000

def isL (h a : Int) : Bool := may h && (decide (0 ≤ a) && decide (a < 2 ^ h.toNat))
theorem isL_iff {h a : Int} : isL h a = true ↔ may h = true ∧ 0 ≤ a ∧ a < 2 ^ h.toNat := by simp [isL]

theorem shl1 {h : Int} (hm : may h = true) : Dat.shl .i64 1 h = 2 ^ h.toNat := by
  rcases may_cases hm with rfl | rfl | rfl | rfl | rfl | rfl <;> rfl
theorem shl2 {h : Int} (hm : may h = true) : Dat.shl .i64 2 h = 2 * 2 ^ h.toNat := by
  rcases may_cases hm with rfl | rfl | rfl | rfl | rfl | rfl <;> rfl
theorem notNeg {h : Int} (hm : may h = true) : ¬ Dat.Neg h := by
  have := may_iff.1 hm
  show ¬ (h < 0); omega

theorem geo_isLeaf_spec (h a : Int) : geo_isLeaf (h, a) = some (isL h a) := by
  unfold geo_isLeaf isL
  simp only
  rw [geo_Check_spec, Dat.bind_some]
  cases hm : may h with
  | false => simp [Dat.ieq]
  | true =>
    simp only [if_true, Dat.ieq, beq_self_eq_true, cond_true, if_neg (notNeg hm), shl1 hm, Dat.bnd_eq, Dat.pick_tf, Bool.true_and]
    by_cases h0 : 0 ≤ a <;> simp [Dat.ige, Dat.ilt, h0]

theorem ref07_leaf_spec (h a : Int) (hm : may h = true) : ref07_leaf (h, a) = some (isL h a) := by
  unfold ref07_leaf isL
  have hm' := may_iff.1 hm
  simp only [hm, Bool.true_and]
  by_cases h0 : 0 ≤ a
  · have e : Dat.ige a 0 = true := by simp [Dat.ige, h0]
    rw [e, cond_true, ref07_Many_spec h (by omega) (by omega), Dat.bind_some]
    simp [Dat.ilt, h0]
  · simp [Dat.ige, h0]

/-- A tree's height and a leaf's bucket, as counts. -/
theorem leaf_nat {h a : Int} (hl : isL h a = true) : ∃ H A : Nat, h = (H : Int) ∧ a = (A : Int) ∧ 1 ≤ H ∧ H ≤ 6 ∧ A < 2 ^ H ∧ may (H : Int) = true := by
  obtain ⟨hm, h0, h1⟩ := isL_iff.1 hl
  have hm' := may_iff.1 hm
  obtain ⟨H, rfl⟩ := Int.eq_ofNat_of_zero_le (by omega : 0 ≤ h)
  obtain ⟨A, rfl⟩ := Int.eq_ofNat_of_zero_le h0
  refine ⟨H, A, rfl, rfl, by omega, by omega, ?_, hm⟩
  have e : ((2 : Int) ^ (H : Int).toNat) = ((2 ^ H : Nat) : Int) := by simp
  rw [e] at h1; omega

def rowN (H A r : Nat) : Nat := (2 ^ H + A) / 2 ^ (H - r)
theorem pow6 {H : Nat} (h : H ≤ 6) : 2 ^ H ≤ 64 := Nat.pow_le_pow_right (by omega) h
theorem rowN_le {H A r : Nat} (hH : H ≤ 6) (hA : A < 2 ^ H) : rowN H A r < 128 := by
  have := pow6 hH
  have h2 : rowN H A r ≤ 2 ^ H + A := Nat.div_le_self _ _
  omega

theorem geo_onRow_spec {H A r : Nat} (h1 : 1 ≤ H) (hH : H ≤ 6) (hA : A < 2 ^ H) (hr : r ≤ H) : geo_onRow ((H : Int), (r : Int), (A : Int)) = some ((rowN H A r : Nat) : Int) := by
  have hm : may (H : Int) = true := may_iff.2 ⟨by omega, by omega⟩
  have hp := pow6 hH
  unfold geo_onRow
  have e1 : ((2 : Int) ^ (H : Int).toNat) = ((2 ^ H : Nat) : Int) := by simp
  have e2 : Dat.wrap .i64 (Dat.add ((2 ^ H : Nat) : Int) (A : Int)) = ((2 ^ H + A : Nat) : Int) := by
    have : Dat.add ((2 ^ H : Nat) : Int) (A : Int) = ((2 ^ H + A : Nat) : Int) := by simp [Dat.add]
    have hb : 2 ^ H + A < 128 := by omega
    rw [this]
    clear hA e1 this hp
    generalize 2 ^ H + A = n at *
    rw [Dat.wrap_i64] <;> omega
  have e3 : Dat.wrap .i64 (Dat.sub (H : Int) (r : Int)) = ((H - r : Nat) : Int) := by
    rw [Dat.wrap_i64] <;> simp only [Dat.sub_eq] <;> omega
  have n2 : ¬ Dat.Neg ((H - r : Nat) : Int) := by show ¬ (((H - r : Nat) : Int) < 0); omega
  simp only [if_neg (notNeg hm), shl1 hm, e1, Dat.bnd_eq, e2, e3, if_neg n2]
  congr 1
  show Int.fdiv ((2 ^ H + A : Nat) : Int) (2 ^ (min ((H - r : Nat) : Int).toNat 64)) = _
  have e4 : min ((H - r : Nat) : Int).toNat 64 = H - r := by omega
  have e5 : ((2 : Int) ^ (H - r)) = ((2 ^ (H - r) : Nat) : Int) := by simp
  rw [e4, e5, Int.fdiv_eq_ediv_of_nonneg _ (Int.natCast_nonneg _)]
  rfl

theorem small_lt {n : Nat} (h : n ≤ 1000) : n < 18446744073709551616 := by omega
def wayN (H A : Nat) : List Int := (List.range (H + 1)).map fun r => ((rowN H A r : Nat) : Int)

theorem seg_one (x : Int) : Dat.seg (x :: ([] : List Int)) 0 1 = [x] := rfl
theorem le_one (x : Int) : Dat.Le (Dat.addN 0 1) (Dat.len (x :: ([] : List Int))) := Nat.le_refl _
theorem notBig {l : List Int} (h : l.length ≤ 200) (x : Int) : ¬ Dat.Big (Dat.len l) (Dat.len (Dat.seg (x :: ([] : List Int)) 0 1)) 8 := by
  show ¬ (2 ^ 44 < (l.length + 1) * (8 + 1)); omega
theorem range_snoc (f : Nat → Int) (i : Nat) : (List.range i).map f ++ [f i] = (List.range (i + 1)).map f := by simp [List.range_succ]

theorem geo_Path_spec (h a : Int) : geo_Path (h, a) = some (if isL h a then (wayN h.toNat a.toNat, 0) else ([], 2)) := by
  unfold geo_Path
  simp only
  rw [geo_isLeaf_spec, Dat.bind_some]
  cases hl : isL h a with
  | false => simp only [Dat.bnot_eq, Bool.not_false, cond_true]; rfl
  | true =>
    obtain ⟨H, A, rfl, rfl, h1, hH, hA, hm⟩ := leaf_nat hl
    have w1 : Dat.wrap .i64 (Dat.add (H : Int) 1) = ((H + 1 : Nat) : Int) := Dat.succ_i64 (by omega)
    rw [if_pos rfl, Dat.bnot_eq, Bool.not_true, cond_false, w1, Dat.bnd_eq]
    rw [if_pos (show Dat.MkOk 0 ((H + 1 : Nat) : Int) 8 from ⟨by omega, by omega, by omega, by omega⟩), if_pos (show Dat.EqN (Dat.toN 0) 0 from Dat.toN_zero), if_pos (show Dat.EqN 0 (Dat.len ([] : List Int)) from rfl)]
    refine loop_inv (fun (s : Int × List Int) => ∃ i : Nat, s.1 = (i : Int) ∧ i ≤ H + 1 ∧ s.2 = (List.range i).map fun r => ((rowN H A r : Nat) : Int)) (fun s => H + 1 - s.1.toNat) ?_ ⟨0, rfl, by omega, rfl⟩ (small_lt (by show H + 1 - (0 : Int).toNat ≤ 1000; omega))
    rintro ⟨si, so⟩ k ⟨i, rfl, hi, rfl⟩ hk
    by_cases hlt : i ≤ H
    · have e1 : Dat.ile (i : Int) (H : Int) = true := by simp [Dat.ile, hlt]
      simp only [e1, cond_true]
      rw [geo_onRow_spec h1 hH hA hlt, Dat.bind_some, if_pos (le_one _), if_neg (notBig (by simp; omega) _), seg_one]
      simp only [Dat.bnd_eq, Dat.app_eq, if_true]
      rw [Dat.succ_i64 (by omega), range_snoc (fun r => ((rowN H A r : Nat) : Int))]
      exact hk (((i + 1 : Nat) : Int), _) ⟨i + 1, rfl, by omega, rfl⟩ (by show H + 1 - ((i + 1 : Nat) : Int).toNat < H + 1 - (i : Int).toNat; omega)
    · have e1 : Dat.ile (i : Int) (H : Int) = false := by simp [Dat.ile]; omega
      have ei : i = H + 1 := by omega
      subst ei
      simp only [e1, cond_false]
      simp [wayN]

theorem div_step (N i : Nat) : N / 2 ^ i / 2 = N / 2 ^ (i + 1) := by rw [Nat.div_div_eq_div_mul, Nat.pow_succ]

theorem ref07_Way_spec {H A : Nat} (h1 : 1 ≤ H) (hH : H ≤ 6) (hA : A < 2 ^ H) : ref07_Way ((H : Int), (A : Int)) = some (wayN H A) := by
  have hp := pow6 hH
  unfold ref07_Way
  simp only
  rw [ref07_Many_spec (H : Int) (by omega) (by omega), Dat.bind_some]
  have e1 : ((2 : Int) ^ (H : Int).toNat) = ((2 ^ H : Nat) : Int) := by simp
  have e2 : Dat.wrap .i64 (Dat.add ((2 ^ H : Nat) : Int) (A : Int)) = ((2 ^ H + A : Nat) : Int) := by
    have : Dat.add ((2 ^ H : Nat) : Int) (A : Int) = ((2 ^ H + A : Nat) : Int) := by simp [Dat.add]
    have hb : 2 ^ H + A < 128 := by omega
    rw [this]
    clear hA e1 this hp
    generalize 2 ^ H + A = n at *
    rw [Dat.wrap_i64] <;> omega
  simp only [e1, Dat.bnd_eq, e2]
  rw [if_pos (show Dat.EqN 0 (Dat.len ([] : List Int)) from rfl)]
  have hlow : ∀ i, i ≤ H → 1 ≤ (2 ^ H + A) / 2 ^ i := fun i hi => by
    rw [Nat.le_div_iff_mul_le (Nat.pow_pos (by omega)), Nat.one_mul]
    have : 2 ^ i ≤ 2 ^ H := Nat.pow_le_pow_right (by omega) hi
    omega
  have htop : (2 ^ H + A) / 2 ^ (H + 1) = 0 := by
    apply Nat.div_eq_of_lt
    rw [Nat.pow_succ]; omega
  have hle : ∀ i, (2 ^ H + A) / 2 ^ i ≤ 127 := fun i => by
    have : (2 ^ H + A) / 2 ^ i ≤ 2 ^ H + A := Nat.div_le_self _ _
    omega
  refine loop_inv (fun (s : List Int × Int) => ∃ i : Nat, i ≤ H + 1 ∧ s.1 = ((List.range i).map fun r => (((2 ^ H + A) / 2 ^ r : Nat) : Int)) ∧ s.2 = (((2 ^ H + A) / 2 ^ i : Nat) : Int)) (fun s => s.2.toNat) ?_ ⟨0, by omega, rfl, by simp⟩ ?_
  · rintro ⟨so, sb⟩ k ⟨i, hi, rfl, rfl⟩ hk
    by_cases hlt : i ≤ H
    · have hge := hlow i hlt
      have hl7 := hle i
      have hd := div_step (2 ^ H + A) i
      simp only
      have e3 : Dat.ige (((2 ^ H + A) / 2 ^ i : Nat) : Int) 1 = true := by
        simp only [Dat.ige, decide_eq_true_eq, ge_iff_le]
        omega
      have z2 : ¬ Dat.IsZ 2 := by show ¬ ((2 : Int) = 0); omega
      have e4 : Dat.wrap .i64 (Dat.tdiv (((2 ^ H + A) / 2 ^ i : Nat) : Int) 2) = (((2 ^ H + A) / 2 ^ (i + 1) : Nat) : Int) := by
        have : Dat.tdiv (((2 ^ H + A) / 2 ^ i : Nat) : Int) 2 = (((2 ^ H + A) / 2 ^ i / 2 : Nat) : Int) := Int.ofNat_tdiv _ 2
        have h8 := hle (i + 1)
        rw [this, hd]
        generalize (2 ^ H + A) / 2 ^ (i + 1) = q at *
        rw [Dat.wrap_i64] <;> omega
      simp only [e3, cond_true]
      rw [if_pos (le_one _), if_neg (notBig (by simp; omega) _), seg_one]
      simp only [Dat.bnd_eq, Dat.app_eq, if_true]
      rw [if_neg z2, e4, range_snoc (fun r => (((2 ^ H + A) / 2 ^ r : Nat) : Int))]
      refine hk (_, _) ⟨i + 1, by omega, rfl, rfl⟩ ?_
      simp only [Int.toNat_natCast]
      rw [← hd]
      exact Nat.div_lt_self (by omega) (by omega)
    · have ei : i = H + 1 := by omega
      subst ei
      have e3 : Dat.ige (((2 ^ H + A) / 2 ^ (H + 1) : Nat) : Int) 1 = false := by rw [htop]; rfl
      simp only [e3, cond_false]
      have hlen : ((List.range (H + 1)).map fun r => (((2 ^ H + A) / 2 ^ r : Nat) : Int)).length = H + 1 := by simp
      have e5 : Dat.wrap .i64 (Dat.sub (Dat.ofN (Dat.len ((List.range (H + 1)).map fun r => (((2 ^ H + A) / 2 ^ r : Nat) : Int)))) 1) = (H : Int) := by
        simp only [Dat.len_eq, hlen, Dat.ofN_eq, Dat.sub_eq]
        rw [Dat.wrap_i64] <;> omega
      rw [e5]
      rw [if_pos (show Dat.EqN 0 (Dat.len ([] : List Int)) from rfl)]
      refine loop_inv (fun (s : List Int × Int) => ∃ j : Nat, j ≤ H + 1 ∧ s.1 = ((List.range j).map fun r => ((rowN H A r : Nat) : Int)) ∧ s.2 = (H : Int) - j) (fun s => (s.2 + 1).toNat) ?_ ⟨0, by omega, rfl, by simp⟩ (by simp; omega)
      rintro ⟨so, sj⟩ k2 ⟨j, hj, rfl, rfl⟩ hk2
      by_cases hlt2 : j ≤ H
      · have ej : (H : Int) - (j : Int) = ((H - j : Nat) : Int) := by omega
        have e6 : Dat.ige ((H : Int) - (j : Int)) 0 = true := by simp [Dat.ige]; omega
        simp only [e6, cond_true]
        rw [ej]
        have c1 : Dat.Ix ((H - j : Nat) : Int) (Dat.len ((List.range (H + 1)).map fun r => (((2 ^ H + A) / 2 ^ r : Nat) : Int))) := (Dat.Ix_nat _ _).2 (by simp; omega)
        have g1 : Dat.get ((List.range (H + 1)).map fun r => (((2 ^ H + A) / 2 ^ r : Nat) : Int)) (Dat.toN ((H - j : Nat) : Int)) 0 = ((rowN H A j : Nat) : Int) := by
          rw [Dat.toN_nat, Dat.get_lt _ _ (by simp; omega)]
          simp [rowN]
        rw [if_pos c1, g1]
        rw [if_pos (le_one _), if_neg (notBig (by simp; omega) _), seg_one]
        simp only [Dat.app_eq, if_true]
        have w2 : Dat.wrap .i64 (Dat.sub ((H - j : Nat) : Int) 1) = (H : Int) - ((j + 1 : Nat) : Int) := by
          rw [Dat.wrap_i64] <;> simp only [Dat.sub_eq] <;> omega
        rw [w2, range_snoc (fun r => ((rowN H A r : Nat) : Int))]
        exact hk2 (_, _) ⟨j + 1, by omega, rfl, rfl⟩ (by simp only; omega)
      · have ej : j = H + 1 := by omega
        subst ej
        have e6 : Dat.ige ((H : Int) - ((H + 1 : Nat) : Int)) 0 = false := by simp [Dat.ige]; omega
        simp only [e6, cond_false]
        rfl
  · have := hle 0
    simp only [Nat.pow_zero, Nat.div_one] at this
    simp only [Int.toNat_natCast]; omega

theorem ref07_Path_spec (h a : Int) : ref07_Path (h, a) = some (if isL h a then (wayN h.toNat a.toNat, 0) else ([], 2)) := by
  unfold ref07_Path
  simp only
  rw [ref07_May_spec, Dat.bind_some]
  cases hm : may h with
  | false => simp [isL, hm]
  | true =>
    rw [ref07_leaf_spec h a hm, Dat.bind_some]
    cases hl : isL h a with
    | false => simp
    | true =>
      obtain ⟨H, A, rfl, rfl, h1, hH, hA, hm⟩ := leaf_nat hl
      rw [ref07_Way_spec h1 hH hA, Dat.bind_some]
      simp
end Go.Proofs.Ytaphpgkaammeiaa
