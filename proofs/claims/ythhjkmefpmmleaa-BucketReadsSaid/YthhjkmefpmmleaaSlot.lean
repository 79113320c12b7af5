/- Package slot. -/
import Derived.Test.YthhjkmefpmmleaaGeo
import Derived.Test.YthhjkmefpmmleaaTake
import Derived.Test.YthhjkmefpmmleaaMid
import Derived.Test.YthhjkmefpmmleaaSame
namespace Go.Proofs.Ythhjkmefpmmleaa
open Go.Eng
set_option linter.unusedVariables false
set_option linter.unusedSimpArgs false
def lvlOk (B S H : Int) : Bool := decide (1 ≤ B ∧ B ≤ 64 ∧ 1 ≤ S ∧ S ≤ 32 ∧ may H = true ∧ B ≤ 2 ^ H.toNat)
def slotsS (B S H W : Int) : Int × Int :=
 if lvlOk B S H = true then (if W = 1 * (8 + S) + 64 then (1, 0) else if W = 2 * (8 + S) + 64 then (2, 0) else if W = 3 * (8 + S) + 64 then (3, 0) else if W = 4 * (8 + S) + 64 then (4, 0) else (0, 8)) else (0, 8)
theorem lvl_iff {B S H : Int} : lvlOk B S H = true ↔ 1 ≤ B ∧ B ≤ 64 ∧ 1 ≤ S ∧ S ≤ 32 ∧ may H = true ∧ B ≤ 2 ^ H.toNat := by unfold lvlOk; exact decide_eq_true_iff
theorem slot_size_spec (B S H W : Int) (h : 0 ≤ S) (h2 : S ≤ 1000) : slot_size (B, S, H, W, ()) = some (8 + S) := by
 unfold slot_size
 simp only
 rw [Dat.wrap_i64 (by simp only [Dat.add_eq]; omega) (by simp only [Dat.add_eq]; omega)]
theorem slot_Slots_spec (B S H W : Int) : slot_Slots (B, S, H, W, ()) = some (slotsS B S H W) := by
 unfold slot_Slots slotsS
 simp only
 have bad : ¬ (1 ≤ B ∧ B ≤ 64 ∧ 1 ≤ S ∧ S ≤ 32 ∧ may H = true ∧ B ≤ 2 ^ H.toNat) → (if lvlOk B S H = true then (if W = 1 * (8 + S) + 64 then ((1, 0) : Int × Int) else if W = 2 * (8 + S) + 64 then (2, 0) else if W = 3 * (8 + S) + 64 then (3, 0) else if W = 4 * (8 + S) + 64 then (4, 0) else (0, 8)) else (0, 8)) = (0, 8) :=
  fun h => if_neg (fun hh => h (lvl_iff.1 hh))
 have pf : ∀ b : Bool, Dat.pickB false true b = b := fun b => by simp [Dat.pickB]
 by_cases h1 : B < 1
 ·rw [show Dat.ilt B 1 = true by simp [Dat.ilt, h1], cond_true, bad (by omega)]
 rw [show Dat.ilt B 1 = false by simp [Dat.ilt, h1], cond_false, pf]
 by_cases h2 : B > 64
 ·rw [show Dat.igt B 64 = true by simp [Dat.igt, h2], cond_true, bad (by omega)]
 rw [show Dat.igt B 64 = false by simp [Dat.igt]; omega, cond_false, pf]
 by_cases h3 : S < 1
 ·rw [show Dat.ilt S 1 = true by simp [Dat.ilt, h3], cond_true, bad (by omega)]
 rw [show Dat.ilt S 1 = false by simp [Dat.ilt, h3], cond_false, pf]
 by_cases h4 : S > 32
 ·rw [show Dat.igt S 32 = true by simp [Dat.igt, h4], cond_true, bad (by omega)]
 rw [show Dat.igt S 32 = false by simp [Dat.igt]; omega, cond_false, geo_Leaves_spec, Dat.bind_some]
 cases hm : may H with
 | false =>
  rw [bad (by rw [hm]; simp)]; rfl
 | true =>
  have z0 : Dat.ine 0 0 = false := rfl
  rw [if_pos rfl]
  simp only
  rw [z0, cond_false, pf]
  by_cases h5 : 2 ^ H.toNat < B
  ·rw [show Dat.ilt (2 ^ H.toNat) B = true by simp [Dat.ilt, h5], cond_true, bad (by omega)]
  rw [show Dat.ilt (2 ^ H.toNat) B = false by simp [Dat.ilt]; omega, cond_false, if_pos (lvl_iff.2 ⟨by omega, by omega, by omega, by omega, hm, by omega⟩)]
  refine loop_inv (fun (s : Int) => 1 ≤ s ∧ s ≤ 5 ∧ ∀ j : Int, 1 ≤ j → j < s → W ≠ j * (8 + S) + 64) (fun s => (5 - s).toNat) ?_ ⟨by omega, by omega, fun j h1 h2 => by omega⟩ (by decide)
  rintro s k ⟨s1, s2, s3⟩ hk
  by_cases hs : s ≤ 4
  ·have e1 : Dat.ile s 4 = true := by simp [Dat.ile, hs]
   have hmul : s * (8 + S) ≤ 4 * 40 := Int.mul_le_mul hs (by omega) (by omega) (by omega)
   have hmul0 : 0 ≤ s * (8 + S) := Int.mul_nonneg (by omega) (by omega)
   have w1 : Dat.wrap .i64 (Dat.mul s (8 + S)) = s * (8 + S) := Dat.wrap_i64 (by show _ ≤ s * (8 + S); omega) (by show s * (8 + S) ≤ _; omega)
   have w2 : Dat.wrap .i64 (Dat.add (s * (8 + S)) 64) = s * (8 + S) + 64 := Dat.wrap_i64 (by show _ ≤ s * (8 + S) + 64; omega) (by show s * (8 + S) + 64 ≤ _; omega)
   have w3 : Dat.wrap .i64 (Dat.add s 1) = s + 1 := Dat.wrap_i64 (by show _ ≤ s + 1; omega) (by show s + 1 ≤ _; omega)
   rw [e1, cond_true, slot_size_spec _ _ _ _ (by omega) (by omega), Dat.bind_some, w1, Dat.bnd_eq, w2, Dat.bnd_eq]
   by_cases hW : W = s * (8 + S) + 64
   ·rw [show Dat.ieq W (s * (8 + S) + 64) = true by simp [Dat.ieq, hW], cond_true]
    have hc : s = 1 ∨ s = 2 ∨ s = 3 ∨ s = 4 := by omega
    rcases hc with rfl | rfl | rfl | rfl
    ·rw [if_pos hW]
    ·rw [if_neg (s3 1 (by omega) (by omega)), if_pos hW]
    ·rw [if_neg (s3 1 (by omega) (by omega)), if_neg (s3 2 (by omega) (by omega)), if_pos hW]
    ·rw [if_neg (s3 1 (by omega) (by omega)), if_neg (s3 2 (by omega) (by omega)), if_neg (s3 3 (by omega) (by omega)), if_pos hW]
   ·rw [show Dat.ieq W (s * (8 + S) + 64) = false by simp [Dat.ieq, hW], cond_false, w3, Dat.bnd_eq]
    refine hk _ ⟨by omega, by omega, fun j j1 j2 => ?_⟩ (by omega)
    by_cases hj : j = s
    ·subst hj; exact hW
    ·exact s3 j j1 (by omega)
  ·have e1 : Dat.ile s 4 = false := by simp [Dat.ile]; omega
   rw [e1, cond_false, if_neg (s3 1 (by omega) (by omega)), if_neg (s3 2 (by omega) (by omega)), if_neg (s3 3 (by omega) (by omega)), if_neg (s3 4 (by omega) (by omega))]
theorem slots_two (B S H W : Int) : (slotsS B S H W).2 = 0 ∨ slotsS B S H W = (0, 8) := by
 unfold slotsS
 split
 ·split
  ·exact .inl rfl
  ·split
   ·exact .inl rfl
   ·split
    ·exact .inl rfl
    ·split
     ·exact .inl rfl
     ·exact .inr rfl
 ·exact .inr rfl
theorem slots_lvl {B S H W : Int} (h : (slotsS B S H W).2 = 0) : lvlOk B S H = true := by
 unfold slotsS at h
 split at h
 ·assumption
 ·simp at h
def blkOk (B S H i f : Int) (d : List Int) : Bool := decide (0 ≤ i ∧ i < B ∧ 0 ≤ f ∧ f < 2 ^ H.toNat ∧ (d.length : Int) = S)
def checkS (B S H W i f : Int) (d : List Int) : Int := if (slotsS B S H W).2 = 0 then (if blkOk B S H i f d = true then 0 else 8) else 8
theorem slot_Check_spec (B S H W i f : Int) (d : List Int) : slot_Check ((B, S, H, W, ()), (i, f, d, ())) = some (checkS B S H W i f d) := by
 unfold slot_Check checkS
 simp only
 rw [slot_Slots_spec, Dat.bind_some]
 rcases slots_two B S H W with h0 | h8
 ·obtain ⟨l1, l2, l3, l4, l5, l6⟩ := lvl_iff.1 (slots_lvl h0)
  have z0 : Dat.ine 0 0 = false := rfl
  have pf : ∀ b : Bool, Dat.pickB false true b = b := fun b => by simp [Dat.pickB]
  rw [h0, z0, cond_false, geo_Leaves_spec, Dat.bind_some, l5, if_pos rfl, if_pos rfl]
  simp only
  rw [pf, pf, pf, pf]
  have bad : ¬ (0 ≤ i ∧ i < B ∧ 0 ≤ f ∧ f < 2 ^ H.toNat ∧ (d.length : Int) = S) → (if blkOk B S H i f d = true then (0 : Int) else 8) = 8 := fun h => if_neg (fun hh => h (of_decide_eq_true hh))
  by_cases c1 : i < 0
  ·rw [show Dat.ilt i 0 = true by simp [Dat.ilt, c1], cond_true, bad (by omega)]
  rw [show Dat.ilt i 0 = false by simp [Dat.ilt, c1], cond_false]
  by_cases c2 : i ≥ B
  ·rw [show Dat.ige i B = true by simp [Dat.ige, c2], cond_true, bad (by omega)]
  rw [show Dat.ige i B = false by simp [Dat.ige]; omega, cond_false]
  by_cases c3 : f < 0
  ·rw [show Dat.ilt f 0 = true by simp [Dat.ilt, c3], cond_true, bad (by omega)]
  rw [show Dat.ilt f 0 = false by simp [Dat.ilt, c3], cond_false]
  by_cases c4 : f ≥ 2 ^ H.toNat
  ·rw [show Dat.ige f (2 ^ H.toNat) = true by simp [Dat.ige, c4], cond_true, bad (by omega)]
  rw [show Dat.ige f (2 ^ H.toNat) = false by simp [Dat.ige]; omega, cond_false]
  by_cases c5 : (d.length : Int) = S
  ·rw [show Dat.ine (Dat.ofN (Dat.len d)) S = false by simp [Dat.ine, c5], cond_false, if_pos (show blkOk B S H i f d = true from decide_eq_true ⟨by omega, by omega, by omega, by omega, c5⟩)]
  ·rw [show Dat.ine (Dat.ofN (Dat.len d)) S = true by simp [Dat.ine, c5], cond_true, bad (fun h => c5 h.2.2.2.2)]
 ·have z8 : Dat.ine 8 0 = true := rfl
  rw [h8]
  simp only
  rw [z8, cond_true]; rfl
theorem check_ok {B S H W i f : Int} {d : List Int} (h : checkS B S H W i f d = 0) : (slotsS B S H W).2 = 0 ∧ 0 ≤ i ∧ i < B ∧ 0 ≤ f ∧ f < 2 ^ H.toNat ∧ (d.length : Int) = S := by
 unfold checkS at h
 split at h
 ·rename_i h0
  split at h
  ·rename_i h1; exact ⟨h0, of_decide_eq_true h1⟩
  ·simp at h
 ·simp at h
theorem check_two (B S H W i f : Int) (d : List Int) : checkS B S H W i f d = 0 ∨ checkS B S H W i f d = 8 := by
 unfold checkS; split
 ·split
  ·exact .inl rfl
  ·exact .inr rfl
 ·exact .inr rfl
theorem slot_parts_spec (B S H W : Int) : slot_parts (B, S, H, W, ()) = some [4, 4, S] := by
 unfold slot_parts
 have c1 : Dat.EqN (Dat.len (Dat.rep 3 (0 : Int))) (Dat.len ((4 : Int) :: (4 :: (S :: ([] : List Int))))) := rfl
 have c2 : Dat.EqN (Dat.len ((4 : Int) :: (4 :: (S :: ([] : List Int))))) 3 := rfl
 simp only
 rfl
def slotW (i f : Int) (d : List Int) : List Int := digs (i + 1) 4 ++ digs f 4 ++ d
def writeS (B S H W i f : Int) (d : List Int) : List Int × Int := if checkS B S H W i f d = 0 then (slotW i f d, 0) else ([], 8)
theorem pow2_64 {H : Int} (h : may H = true) : (2 : Int) ^ H.toNat ≤ 64 := by rcases may_cases h with rfl | rfl | rfl | rfl | rfl | rfl <;> decide
theorem put_two {a b : Int} (a0 : 0 ≤ a) (a1 : a ≤ 100) (b0 : 0 ≤ b) (b1 : b ≤ 100) : putS [a, b] [4, 4] = (digs a 4 ++ digs b 4, 0) := by
 have ok : okS 1 8 [4, 4] = true := by decide
 have h4 : (256 : Int) ^ (4 : Int).toNat = 4294967296 := by decide
 have hf : fitsAll (([a, b] : List Int).zip [4, 4]) = true := by
  simp only [List.zip_cons_cons, List.zip_nil_right, fitsAll, List.all_cons, List.all_nil, Bool.and_true, Bool.and_eq_true, decide_eq_true_eq, h4]
  omega
 unfold putS
 rw [if_neg (by rw [ok]; simp), if_neg (by simp), if_pos hf]
 simp [putB]
def noneS (B S H W : Int) : List Int × Int := if (slotsS B S H W).2 = 0 then (List.replicate (8 + S).toNat 0, 0) else ([], 8)
theorem slot_None_spec (B S H W : Int) : slot_None (B, S, H, W, ()) = some (noneS B S H W) := by
 unfold slot_None noneS
 simp only
 rw [slot_Slots_spec, Dat.bind_some]
 rcases slots_two B S H W with h0 | h8
 ·obtain ⟨l1, l2, l3, l4, l5, l6⟩ := lvl_iff.1 (slots_lvl h0)
  have z0 : Dat.ine 0 0 = false := rfl
  have c1 : Dat.Le (Dat.addN 0 (Dat.toN (8 + S))) (Dat.len (Dat.rep (α := Int) (Dat.toN (8 + S)) 0)) := by
   show 0 + (8 + S).toNat ≤ (List.replicate (8 + S).toNat (0 : Int)).length; simp
  rw [h0, z0, cond_false, slot_size_spec _ _ _ _ (by omega) (by omega), Dat.bind_some, if_pos (Dat.MkOk_iff.2 ⟨by omega, Int.le_refl _, by omega, by omega⟩ : Dat.MkOk (8 + S) (8 + S) 1), if_pos c1, if_pos rfl]
  rw [seg_all _ (by show (List.replicate (8 + S).toNat (0 : Int)).length ≤ (8 + S).toNat; simp)]
 ·rw [h8]; rfl
theorem take_one4 {x : List Int} (h : x.length = 4) : takeS x [4] = ([val x], 0) := by
 have e : parts x [4] = [x] := by
  have : x.take 4 = x := List.take_of_length_le (by omega)
  simp [parts, part, upto, List.range_succ, this]
 have ok : okS 1 8 [4] = true := by decide
 unfold takeS
 rw [if_pos ok, if_pos (by rw [h]; rfl), e]; rfl
theorem bytes_Equal_spec (a b : List Int) : bytes_Equal (a, b) = some (decide (Dat.str a = Dat.str b)) := by
 simp only [bytes_Equal, Dat.bnd_eq, Dat.seq]
 congr 1
 rw [Bool.eq_iff_iff]; simp
abbrev Blk : Type := Int × (Int × (List Int × Unit))
def noB : Blk := (0, 0, [], ())
def part3 (s : List Int) : List Int × (List Int × List Int) := (s.take 4, ((s.take 8).drop 4, s.drop 8))
def readS (B S H W : Int) (s : List Int) : Blk × (Bool × Int) :=
 if (slotsS B S H W).2 = 0 then (if (s.length : Int) = 8 + S then (if Dat.str s = Dat.str (List.replicate (8 + S).toNat 0) then (noB, false, 0)
  else if checkS B S H W (val (part3 s).1 - 1) (val (part3 s).2.1) (part3 s).2.2 = 0 then ((val (part3 s).1 - 1, val (part3 s).2.1, (part3 s).2.2, ()), true, 0) else (noB, false, 8)) else (noB, false, 10)) else (noB, false, 8)
theorem cut_three {s : List Int} {S : Int} (h1 : 1 ≤ S) (h2 : S ≤ 32) : cutS s [4, 4, S] = if (s.length : Int) = 8 + S then ([(part3 s).1, (part3 s).2.1, (part3 s).2.2], 0) else ([], 10) := by
 have ok : okS 0 65536 [4, 4, S] = true := by
  unfold okS
  simp only [Bool.and_eq_true, decide_eq_true_eq, List.all_eq_true]
  refine ⟨⟨by show 3 ≤ 64; omega, fun x hx => ?_⟩, by show (4 : Int) + (4 + (S + 0)) ≤ 65536; omega⟩
  simp at hx
  omega
 have es : ([4, 4, S] : List Int).sum = 8 + S := by simp; omega
 unfold cutS
 rw [if_pos ok, es]
 by_cases hl : (s.length : Int) = 8 + S
 ·rw [if_pos hl, if_pos hl]
  have hu : upto [4, 4, S] 3 = s.length := by simp [upto]; omega
  have u1 : upto [4, 4, S] 1 = 4 := by simp [upto]
  have u2 : upto [4, 4, S] 2 = 8 := by simp [upto]
  have u0 : upto [4, 4, S] 0 = 0 := by simp [upto]
  have : parts s [4, 4, S] = [(part3 s).1, (part3 s).2.1, (part3 s).2.2] := by
   unfold parts
   show (List.range 3).map (part s [4, 4, S]) = _
   simp only [List.range_succ, List.range_zero, List.nil_append, List.map_append, List.map_cons, List.map_nil, List.cons_append]
   simp only [part, u0, u1, u2, hu, part3, List.drop_zero, List.take_length]
  rw [this]
 ·rw [if_neg hl, if_neg hl]
end Go.Proofs.Ythhjkmefpmmleaa
