/- What a slot has, its data in a row of its own. -/
import Derived.Test.YthhjkmefpmmleaaSlot
import Derived.Test.YthhjkmefpmmleaaCutr
namespace Go.Proofs.Ythhjkmefpmmleaa
open Go.Eng
set_option linter.unusedVariables false
set_option linter.unusedSimpArgs false
theorem slotRead_own (B S H W : Int) (s : List Int) (hB : isB s) : slot_Read ((B, S, H, W, ()), s) = some (readS B S H W s) := by
 unfold slot_Read readS
 simp only
 rw [slot_None_spec, Dat.bind_some]
 unfold noneS
 rcases slots_two B S H W with h0 | h8
 ·obtain ⟨l1, l2, l3, l4, l5, l6⟩ := lvl_iff.1 (slots_lvl h0)
  have z0 : Dat.ine 0 0 = false := rfl
  have z10 : Dat.ine 10 0 = true := rfl
  have z8 : Dat.ine 8 0 = true := rfl
  have n3 : Dat.norm 3 [4, 4, S] 0 = [4, 4, S] := rfl
  have c1 : Dat.EqN (Dat.len (Dat.rep 3 (0 : Nat))) 3 := rfl
  have c2 : Dat.Le 3 (Dat.len ([4, 4, S] : List Int)) := Nat.le_refl _
  have c5 : Dat.Le (Dat.addN 0 (Dat.subN 3 0)) (Dat.len ([4, 4, S] : List Int)) := Nat.le_refl _
  have s3 : Dat.seg ([4, 4, S] : List Int) 0 (Dat.subN 3 0) = [4, 4, S] := rfl
  obtain ⟨Q, R, m, l, hcut, hm, hl⟩ := num_Cut_r_spec s [4, 4, S] (by simp)
  rw [cut_three l3 l4] at hcut hl
  rw [if_pos h0, if_pos h0]
  simp only
  rw [z0, cond_false, slot_parts_spec, Dat.bind_some, if_pos c1, n3, if_pos c2, if_pos (show Dat.Lt 0 3 by decide), if_pos c5, s3, hcut, Dat.bind_some]
  by_cases hlen : (s.length : Int) = 8 + S
  ·rw [if_pos hlen] at hl
   rw [if_pos hlen, if_pos hlen]
   simp only
   rw [z0, cond_false, bytes_Equal_spec, Dat.bind_some]
   by_cases hz : Dat.str s = Dat.str (List.replicate (8 + S).toNat 0)
   ·rw [decide_eq_true hz, cond_true, if_pos hz]; rfl
   ·have hp1 : (part3 s).1.length = 4 := by simp only [part3, List.length_take]; omega
    have hp2 : (part3 s).2.1.length = 4 := by simp only [part3, List.length_take, List.length_drop]; omega
    have hp3 : (part3 s).2.2.length ≠ 0 := by simp only [part3, List.length_drop]; omega
    have hb1 : isB (part3 s).1 := isB_take hB _
    have hb2 : isB (part3 s).2.1 := isB_drop (isB_take hB _) _
    have v1 := val_bounds hb1
    have v2 := val_bounds hb2
    have h4 : (256 : Int) ^ 4 = 4294967296 := by decide
    rw [hp1, h4] at v1
    rw [hp2, h4] at v2
    rw [decide_eq_false hz, cond_false, if_neg hz]
    generalize (part3 s).1 = a at *
    generalize (part3 s).2.1 = b at *
    generalize (part3 s).2.2 = d at *
    obtain ⟨hl1, hl2⟩ := hl
    replace hl1 : l.length = 3 := hl1
    have q0 := hl2 0 _ _ (List.getElem?_eq_getElem (by omega)) rfl
    have q1 := hl2 1 _ _ (List.getElem?_eq_getElem (by omega)) rfl
    have q2 := hl2 2 _ _ (List.getElem?_eq_getElem (by omega)) rfl
    have g0 : Dat.xat R m (Dat.toN 0) (MixE.nil : MixE Int) = l[0] := seg_at hm (i := 0) (by omega) _
    have g1 : Dat.xat R m (Dat.toN 1) (MixE.nil : MixE Int) = l[1] := seg_at hm (i := 1) (by omega) _
    have g2 : Dat.xat R m (Dat.toN 2) (MixE.nil : MixE Int) = l[2] := seg_at hm (i := 2) (by omega) _
    have i0 : Dat.Ix 0 (Dat.xlen m) := seg_ix hm (i := 0) (by omega)
    have i1 : Dat.Ix 1 (Dat.xlen m) := seg_ix hm (i := 1) (by omega)
    have i2 : Dat.Ix 2 (Dat.xlen m) := seg_ix hm (i := 2) (by omega)
    have t0 : Dat.XPt R m (Dat.toN 0) := seg_pt hm (shape_refl R) (i := 0) (by omega)
    have t1 : Dat.XPt R m (Dat.toN 1) := seg_pt hm (shape_refl R) (i := 1) (by omega)
    have t2 : Dat.XPt R m (Dat.toN 2) := seg_pt hm (shape_refl R) (i := 2) (by omega)
    generalize l[0] = e0 at *
    generalize l[1] = e1 at *
    generalize l[2] = e2 at *
    have w1 : Dat.wrap .i64 (Dat.add 0 1) = 1 := by decide
    have w2 : Dat.wrap .i64 (Dat.add 1 1) = 2 := by decide
    have w2b : Dat.wrap .i64 (Dat.add 2 1) = 3 := by decide
    have c41 : Dat.Le (Dat.addN 0 1) (Dat.len ((4 : Int) :: ([] : List Int))) := Nat.le_refl _
    have s4 : Dat.seg ((4 : Int) :: ([] : List Int)) 0 1 = [4] := rfl
    have n0 : ∀ x : Int, ¬ Dat.EqN (Dat.len [x]) 0 := fun x h => by cases h
    have j0 : ∀ x : Int, Dat.In 0 (Dat.len [x]) := fun x => ⟨by omega, by show (0 : Int) < ((1 : Nat) : Int); omega⟩
    have j1 : ∀ x : Int, Dat.Lt (Dat.addN 0 (Dat.toN 0)) (Dat.len [x]) := fun x => by show 0 < 1; omega
    have k0 : ∀ x : Int, Dat.get [x] (Dat.addN 0 (Dat.toN 0)) 0 = x := fun x => rfl
    have w3 : Dat.wrap .i64 (val a) = val a := Dat.wrap_i64 (by omega) (by omega)
    have w4 : Dat.wrap .i64 (Dat.sub (val a) 1) = val a - 1 := Dat.wrap_i64 (by show _ ≤ val a - 1; omega) (by show val a - 1 ≤ _; omega)
    have w5 : Dat.wrap .i64 (val b) = val b := Dat.wrap_i64 (by omega) (by omega)
    rw [if_pos i0, if_pos t0, if_pos t0, g0, Dat.bnd_eq, w1, Dat.bnd_eq, if_pos (seg_ok q0), seg_get q0, Dat.bnd_eq, if_pos c41, s4, num_Take_spec _ _ (by simp) hb1, take_one4 hp1, Dat.bind_some]
    simp only
    rw [if_neg (n0 _), if_pos (j0 _), if_pos (j1 _), k0, Dat.bnd_eq, if_pos i1, if_pos t1, if_pos t1, g1, Dat.bnd_eq, w2, Dat.bnd_eq, if_pos (seg_ok q1), seg_get q1, Dat.bnd_eq, if_pos c41, num_Take_spec _ _ (by simp) hb2, take_one4 hp2, Dat.bind_some]
    simp only
    rw [if_neg (n0 _), if_pos (j0 _), if_pos (j1 _), k0, Dat.bnd_eq, w3, Dat.bnd_eq, w4, Dat.bnd_eq, w5, Dat.bnd_eq, if_pos i2, if_pos t2, if_pos t2, g2, Dat.bnd_eq, w2b, Dat.bnd_eq, if_pos (seg_ok q2), seg_get q2, Dat.bnd_eq, slot_Check_spec, Dat.bind_some]
    rcases check_two B S H W (val a - 1) (val b) d with k0 | k8
    ·rw [k0, z0, cond_false, if_pos rfl, if_pos (seg_w q2 hp3)]
    ·rw [k8, z8, cond_true]; rfl
  ·rw [if_neg hlen, if_neg hlen]; rfl
 ·have hne : ¬ (slotsS B S H W).2 = 0 := by rw [h8]; simp
  rw [if_neg hne, if_neg hne]; rfl
end Go.Proofs.Ythhjkmefpmmleaa
