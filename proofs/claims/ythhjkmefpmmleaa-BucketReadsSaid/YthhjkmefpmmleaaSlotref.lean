/- The document's answers for slots. -/
import Derived.Test.YthhjkmefpmmleaaSlot
namespace Go.Proofs.Ythhjkmefpmmleaa
open Go.Eng
set_option linter.unusedVariables false
set_option linter.unusedSimpArgs false
theorem slots_first {B S H W : Int} (h : (slotsS B S H W).2 = 0) : 1 ≤ (slotsS B S H W).1 := by
 unfold slotsS at h ⊢
 split
 ·split
  ·decide
  ·split
   ·decide
   ·split
    ·decide
    ·split
     ·decide
     ·rename_i c0 c1 c2 c3 c4
      rw [if_pos c0, if_neg c1, if_neg c2, if_neg c3, if_neg c4] at h
      simp at h
 ·rename_i c0
  rw [if_neg c0] at h
  simp at h
theorem ref09_Many_spec (B S H W : Int) : ref09_Many (B, S, H, W, ()) = some (slotsS B S H W).1 := by
 unfold ref09_Many
 simp only
 have bad : ¬ (1 ≤ B ∧ B ≤ 64 ∧ 1 ≤ S ∧ S ≤ 32 ∧ may H = true ∧ B ≤ 2 ^ H.toNat) → (slotsS B S H W).1 = 0 :=
  fun h => by unfold slotsS; rw [if_neg (fun hh => h (lvl_iff.1 hh))]
 have pf : ∀ b : Bool, Dat.pickB false true b = b := fun b => by simp [Dat.pickB]
 by_cases h1 : B < 1
 ·rw [show Dat.ilt B 1 = true by simp [Dat.ilt, h1], cond_true, bad (by omega)]
 rw [show Dat.ilt B 1 = false by simp [Dat.ilt, h1], cond_false, pf]
 by_cases h2 : B > 64
 ·rw [show Dat.igt B 64 = true by simp [Dat.igt, h2], cond_true, bad (by omega)]
 rw [show Dat.igt B 64 = false by simp [Dat.igt]; omega, cond_false, pf]
 by_cases h3 : S < 1
 ·rw [show Dat.ilt S 1 = true by simp [Dat.ilt, h3], cond_true, bad (by omega)]
 rw [show Dat.ilt S 1 = false by simp [Dat.ilt, h3], cond_false, pf]
 by_cases h4 : S > 32
 ·rw [show Dat.igt S 32 = true by simp [Dat.igt, h4], cond_true, bad (by omega)]
 rw [show Dat.igt S 32 = false by simp [Dat.igt]; omega, cond_false, ref07_May_spec, Dat.bind_some, pf]
 cases hm : may H with
 | false =>
  rw [bad (by rw [hm]; simp)]; rfl
 | true =>
  have hH := may_iff.1 hm
  have nt : Dat.bnot true = false := rfl
  rw [nt, cond_false, ref07_Many_spec H (by omega) (by omega), Dat.bind_some, pf]
  by_cases h5 : 2 ^ H.toNat < B
  ·rw [show Dat.ilt (2 ^ H.toNat) B = true by simp [Dat.ilt, h5], cond_true, bad (by omega)]
  have hlv : lvlOk B S H = true := lvl_iff.2 ⟨by omega, by omega, by omega, by omega, hm, by omega⟩
  rw [show Dat.ilt (2 ^ H.toNat) B = false by simp [Dat.ilt]; omega, cond_false]
  unfold slotsS
  rw [if_pos hlv]
  refine loop_inv (fun (s : Int) => 1 ≤ s ∧ s ≤ 5 ∧ ∀ j : Int, 1 ≤ j → j < s → W ≠ j * (8 + S) + 64) (fun s => (5 - s).toNat) ?_ ⟨by omega, by omega, fun j h1 h2 => by omega⟩ (by decide)
  rintro s k ⟨s1, s2, s3⟩ hk
  by_cases hs : s ≤ 4
  ·have e1 : Dat.ile s 4 = true := by simp [Dat.ile, hs]
   have hmul : s * (8 + S) ≤ 4 * 40 := Int.mul_le_mul hs (by omega) (by omega) (by omega)
   have hmul0 : 0 ≤ s * (8 + S) := Int.mul_nonneg (by omega) (by omega)
   have w0 : Dat.wrap .i64 (Dat.add 8 S) = 8 + S := Dat.wrap_i64 (by show _ ≤ 8 + S; omega) (by show 8 + S ≤ _; omega)
   have w1 : Dat.wrap .i64 (Dat.mul s (8 + S)) = s * (8 + S) := Dat.wrap_i64 (by show _ ≤ s * (8 + S); omega) (by show s * (8 + S) ≤ _; omega)
   have w2 : Dat.wrap .i64 (Dat.add (s * (8 + S)) 64) = s * (8 + S) + 64 := Dat.wrap_i64 (by show _ ≤ s * (8 + S) + 64; omega) (by show s * (8 + S) + 64 ≤ _; omega)
   have w3 : Dat.wrap .i64 (Dat.add s 1) = s + 1 := Dat.wrap_i64 (by show _ ≤ s + 1; omega) (by show s + 1 ≤ _; omega)
   rw [e1, cond_true, w0, Dat.bnd_eq, w1, Dat.bnd_eq, w2, Dat.bnd_eq]
   by_cases hW : W = s * (8 + S) + 64
   ·rw [show Dat.ieq W (s * (8 + S) + 64) = true by simp [Dat.ieq, hW], cond_true]
    have hc : s = 1 ∨ s = 2 ∨ s = 3 ∨ s = 4 := by omega
    rcases hc with rfl | rfl | rfl | rfl
    ·rw [if_pos hW]
    ·rw [if_neg (s3 1 (by omega) (by omega)), if_pos hW]
    ·rw [if_neg (s3 1 (by omega) (by omega)), if_neg (s3 2 (by omega) (by omega)), if_pos hW]
    ·rw [if_neg (s3 1 (by omega) (by omega)), if_neg (s3 2 (by omega) (by omega)), if_neg (s3 3 (by omega) (by omega)), if_pos hW]
   ·rw [show Dat.ieq W (s * (8 + S) + 64) = false by simp [Dat.ieq, hW], cond_false, w3, Dat.bnd_eq]
    refine hk _ ⟨by omega, by omega, fun j j1 j2 => ?_⟩ (by omega)
    by_cases hj : j = s
    ·subst hj; exact hW
    ·exact s3 j j1 (by omega)
  ·have e1 : Dat.ile s 4 = false := by simp [Dat.ile]; omega
   rw [e1, cond_false, if_neg (s3 1 (by omega) (by omega)), if_neg (s3 2 (by omega) (by omega)), if_neg (s3 3 (by omega) (by omega)), if_neg (s3 4 (by omega) (by omega))]
theorem slots_lt (B S H W : Int) : Dat.ilt (slotsS B S H W).1 1 = !decide ((slotsS B S H W).2 = 0) := by
 rcases slots_two B S H W with h0 | h8
 ·have := slots_first h0
  simp [Dat.ilt, h0]; omega
 ·rw [h8]; rfl
theorem ref09_May_spec (B S H W i f : Int) (d : List Int) (hl : lvlOk B S H = true) : ref09_May ((B, S, H, W, ()), (i, f, d, ())) = some (blkOk B S H i f d) := by
 unfold ref09_May
 obtain ⟨l1, l2, l3, l4, l5, l6⟩ := lvl_iff.1 hl
 have hH := may_iff.1 l5
 have pt : ∀ b : Bool, Dat.pickB true b false = b := fun b => by cases b <;> rfl
 have bad : ¬ (0 ≤ i ∧ i < B ∧ 0 ≤ f ∧ f < 2 ^ H.toNat ∧ (d.length : Int) = S) → blkOk B S H i f d = false := fun h => decide_eq_false h
 simp only
 rw [pt, pt]
 by_cases c1 : i < 0
 ·rw [show Dat.ige i 0 = false by simp [Dat.ige, c1], cond_false, bad (by omega)]
 rw [show Dat.ige i 0 = true by simp [Dat.ige]; omega, cond_true]
 by_cases c2 : i ≥ B
 ·rw [show Dat.ilt i B = false by simp [Dat.ilt]; omega, cond_false, bad (by omega)]
 rw [show Dat.ilt i B = true by simp [Dat.ilt]; omega, cond_true]
 by_cases c3 : f < 0
 ·rw [show Dat.ige f 0 = false by simp [Dat.ige, c3], cond_false, bad (by omega)]
 rw [show Dat.ige f 0 = true by simp [Dat.ige]; omega, cond_true, ref07_Many_spec H (by omega) (by omega), Dat.bind_some, pt, pt]
 by_cases c4 : f ≥ 2 ^ H.toNat
 ·rw [show Dat.ilt f (2 ^ H.toNat) = false by simp [Dat.ilt]; omega, cond_false, bad (by omega)]
 rw [show Dat.ilt f (2 ^ H.toNat) = true by simp [Dat.ilt]; omega, cond_true]
 by_cases c5 : (d.length : Int) = S
 ·rw [show Dat.ieq (Dat.ofN (Dat.len d)) S = true by simp [Dat.ieq, c5], show blkOk B S H i f d = true from decide_eq_true ⟨by omega, by omega, by omega, by omega, c5⟩]
 ·rw [show Dat.ieq (Dat.ofN (Dat.len d)) S = false by simp [Dat.ieq, c5], bad (fun h => c5 h.2.2.2.2)]
theorem ref09_Of_spec (i f : Int) (d : List Int) (i0 : 0 ≤ i) (i1 : i ≤ 64) (f0 : 0 ≤ f) (f1 : f ≤ 64) (hd : d.length ≤ 32) : ref09_Of (i, f, d, ()) = some (slotW i f d) := by
 unfold ref09_Of slotW
 have w1 : Dat.wrap .i64 (Dat.add i 1) = i + 1 := Dat.wrap_i64 (by show _ ≤ i + 1; omega) (by show i + 1 ≤ _; omega)
 have w2 : Dat.wrap .u64 (i + 1) = i + 1 := Dat.wrap_u64_id (by omega) (by omega)
 have w3 : Dat.wrap .u64 f = f := Dat.wrap_u64_id (by omega) (by omega)
 have c4 : Dat.Le (Dat.addN 0 2) (Dat.len ((i + 1) :: (f :: ([] : List Int)))) := Nat.le_refl _
 have c5 : Dat.Le (Dat.addN 0 2) (Dat.len ((4 : Int) :: (4 :: ([] : List Int)))) := Nat.le_refl _
 have s1 : Dat.seg ((i + 1) :: (f :: ([] : List Int))) 0 2 = [i + 1, f] := rfl
 have s2 : Dat.seg ((4 : Int) :: (4 :: ([] : List Int))) 0 2 = [4, 4] := rfl
 have hl : (digs (i + 1) 4 ++ digs f 4).length = 8 := by rw [List.length_append, digs_len, digs_len]
 have c6 : ¬ Dat.EqN (Dat.len (digs (i + 1) 4 ++ digs f 4)) 0 := by show ¬ ((digs (i + 1) 4 ++ digs f 4).length = 0); omega
 have c7 : Dat.Le (Dat.addN 0 (Dat.len (digs (i + 1) 4 ++ digs f 4))) (Dat.len (digs (i + 1) 4 ++ digs f 4)) := by show 0 + (digs (i + 1) 4 ++ digs f 4).length ≤ (digs (i + 1) 4 ++ digs f 4).length; omega
 have c8 : ¬ Dat.Big (Dat.len (digs (i + 1) 4 ++ digs f 4)) (Dat.len d) 1 := by show ¬ (2 ^ 44 < ((digs (i + 1) 4 ++ digs f 4).length + d.length) * (1 + 1)); omega
 simp only
 rw [w1, Dat.bnd_eq, w2, Dat.bnd_eq, w3, Dat.bnd_eq, if_pos c4, if_pos c5, s1, s2,
  ref01_Put_spec _ _ (by simp) (by simp) (fun m hm => by simp at hm; omega), Dat.bind_some, put_two (by omega) (by omega) (by omega) (by omega)]
 simp only
 rw [if_neg c6, if_pos c7, seg_all _ (Nat.le_refl _), if_neg c8, Dat.bnd_eq, if_pos True.intro]
theorem slotW_len (i f : Int) (d : List Int) : (slotW i f d).length = 8 + d.length := by
 unfold slotW
 rw [List.length_append, List.length_append, digs_len, digs_len]
def sameS (i f : Int) (d : List Int) (i' f' : Int) (d' : List Int) : Bool := decide (i = i' ∧ f = f' ∧ Dat.str d = Dat.str d')
theorem sameS_self (i f : Int) (d : List Int) : sameS i f d i f d = true := decide_eq_true ⟨rfl, rfl, rfl⟩
theorem ref09_Same_spec (i f : Int) (d : List Int) (i' f' : Int) (d' : List Int) : ref09_Same ((i, f, d, ()), (i', f', d', ())) = some (sameS i f d i' f' d') := by
 unfold ref09_Same sameS
 have pt : ∀ b : Bool, Dat.pickB true b false = b := fun b => by cases b <;> rfl
 simp only
 rw [ref01_Same_spec, pt, Dat.bind_some, pt]
 by_cases h1 : i = i'
 ·rw [show Dat.ieq i i' = true by simp [Dat.ieq, h1], cond_true]
  by_cases h2 : f = f'
  ·rw [show Dat.ieq f f' = true by simp [Dat.ieq, h2], cond_true]
   simp [h1, h2]
  ·rw [show Dat.ieq f f' = false by simp [Dat.ieq, h2], cond_false]
   simp [h2]
 ·rw [show Dat.ieq i i' = false by simp [Dat.ieq, h1], cond_false]
  simp [h1]
end Go.Proofs.Ythhjkmefpmmleaa
