/- A text's bucket, read: its rows in places; and by the document. -/
import Derived.Test.YthhjkmefpmmleaaBucketread2
import Derived.Test.YthhjkmefpmmleaaBucketBack
import Derived.Test.YthhjkmefpmmleaaBktwin
import Derived.Test.YthhjkmefpmmleaaSlotr
import Derived.Test.YthhjkmefpmmleaaSlotrefr
import Derived.Test.YthhjkmefpmmleaaRowd
namespace Go.Proofs.Ythhjkmefpmmleaa
open Go.Eng
set_option linter.unusedVariables false
set_option linter.unusedSimpArgs false
def ReadPost (p : BktT × Int) (r : (List (List Int) × List (List MBlk)) × ((MixE MBlk × (List Int × (List Int × Unit))) × Int)) : Prop :=
 ∃ nb, r.2.2 = p.2 ∧ r.2.1.2 = p.1.2 ∧ BlkSegs r.1.1 nb p.1.1 ∧ ((r.2.1.1 = .nil ∧ nb = []) ∨ (r.1.2 = [nb] ∧ r.2.1.1 = .ref 0 0 nb.length nb.length))
theorem readPost_none (e : Int) : ReadPost (noK, e) (([], []), ((.nil, z32, z32, ()), e)) := ⟨[], rfl, rfl, blkSegs_nil _, .inl ⟨rfl, rfl⟩⟩
theorem bucketRead_r (B S H W : Int) (t : List Int) (hB : isB t) : Ex (ReadPost (readB B S H W t)) (bucket_Read_r ((B, S, H, W, ()), t)) := by
 unfold bucket_Read_r
 dsimp only
 have hcut := bucket_cut_spec B S H W t
 unfold cutB at hcut
 unfold readB
 have h44 : (2 : Nat) ^ 44 = 17592186044416 := by decide
 rcases slots_two B S H W with h0 | h8
 ·rw [if_pos h0] at hcut
  rw [if_pos h0]
  obtain ⟨l1, l2, l3, l4, l5, l6⟩ := lvl_iff.1 (slots_lvl h0)
  obtain ⟨hW, hm1⟩ := W_eq h0
  have hm4 := (many_le B S H W).1
  obtain ⟨n, hn⟩ := Int.eq_ofNat_of_zero_le (show 0 ≤ (slotsS B S H W).1 by omega)
  rw [hn] at hcut hW hm1 hm4 ⊢
  rw [Int.toNat_natCast]
  unfold cutS at hcut
  rw [if_pos (sizes_ok l3 l4 (by omega)), sizes_sum] at hcut
  by_cases hl : (t.length : Int) = W
  ·rw [if_pos hl]
   rw [if_pos (by omega)] at hcut
   have hlp : (parts t (sizesB S n)).length = n + 2 := by simp [parts, sizes_len]
   have hpg : ∀ i, i < n + 2 → Dat.get (parts t (sizesB S n)) (Dat.toN (i : Int)) [] = part t (sizesB S n) i := by
    intro i hi
    simp [Dat.get, Dat.toN, List.getD, parts, sizes_len, hi]
   have hsn : ∀ s ∈ sizesB S n, 0 ≤ s := fun s hs => by rcases sizes_mem hs with rfl | rfl <;> omega
   have hpl : ∀ i, i < n + 2 → i ≥ n → (part t (sizesB S n) i).length = 32 := by
    intro i hi hge
    have h1 := part_len (b := t) hsn (by rw [sizes_sum]; omega) (i := i) (by rw [sizes_len]; omega)
    have h2 : (sizesB S n)[i]'(by rw [sizes_len]; omega) = 32 := by
     have hs := sizes_get S n
     have hq : (sizesB S n)[i]? = some 32 := by
      by_cases e : i = n
      ·rw [e]; exact hs.1
      ·rw [show i = n + 1 by omega]; exact hs.2
     rw [List.getElem?_eq_getElem (by rw [sizes_len]; omega)] at hq
     exact Option.some.inj hq
    omega
   have htk : Dat.slice (parts t (sizesB S n)) 0 (Dat.toN (n : Int)) = slL S n t := by
    simp only [Dat.slice, Dat.toN, Int.toNat_natCast, List.drop_zero, parts, slL, sizes_len, ← List.map_take, List.take_range]
    rw [Nat.min_eq_left (by omega)]
   have hsB : ∀ s ∈ slL S n t, isB s := by
    intro s hs
    obtain ⟨i, _, rfl⟩ := List.mem_map.1 hs
    exact isB_part hB i
   have hsl : (slL S n t).length = n := by simp [slL]
   have hpn := hpg n (by omega)
   have hpn1 := hpg (n + 1) (by omega)
   have hl32 := hpl n (by omega) (by omega)
   have hl33 := hpl (n + 1) (by omega) (by omega)
   generalize slL S n t = SL at *
   generalize part t (sizesB S n) n = PA at *
   generalize part t (sizesB S n) (n + 1) = PB at *
   obtain ⟨Rr, hR⟩ : ∃ R, rdL B S H W SL false [] = R := ⟨_, rfl⟩
   rw [hR]
   refine exBi hcut ?_
   refine exF rfl ?_
   dsimp only
   refine exB (y := (n : Int)) (by rw [wrapI] <;> simp only [Dat.sub, Dat.ofN, Dat.len] <;> omega) ?_
   refine exI ⟨by omega, by simp only [Dat.len]; omega⟩ ?_
   refine exB hpn ?_
   refine exI (by simp only [Dat.Le, Dat.len]; omega) ?_
   refine exB (y := ((n + 1 : Nat) : Int)) (wrapI (by simp only [Dat.add]; omega)) ?_
   refine exI ⟨by omega, by simp only [Dat.len]; omega⟩ ?_
   refine exB hpn1 ?_
   refine exI (by simp only [Dat.Le, Dat.len]; omega) ?_
   refine exI ⟨by omega, by simp only [Dat.len]; omega⟩ ?_
   refine exB htk ?_
   refine loop_ex_tail5 (fun (i : Int) (e : Bool) (R : List (List MBlk)) (Q : List (List Int)) (m : MixE MBlk) => ∃ (j : Nat) (nb : List MBlk) (acc : List Blk), i = (j : Int) ∧ j ≤ n ∧ acc.length ≤ j ∧ R = [nb] ∧ m = .ref 0 0 nb.length nb.length ∧ BlkSegs Q nb acc ∧ rdL B S H W (SL.drop j) e acc = Rr)
    (fun i => n - i.toNat) ?_ ⟨0, [], [], rfl, by omega, by simp, rfl, rfl, blkSegs_nil _, hR⟩ (mu_lt _ _ (by omega))
   rintro _ e _ Q _ k ⟨j, nb, acc, rfl, hj, hal, rfl, rfl, hbs, hrd⟩ hk
   dsimp only
   by_cases hlt : j < n
   ·have hjs : j < SL.length := by omega
    have hdr : SL.drop j = SL[j] :: SL.drop (j + 1) := List.drop_eq_getElem_cons hjs
    have hgt : Dat.get SL (Dat.toN (j : Int)) [] = SL[j] := by simp [Dat.get, Dat.toN, List.getD, hjs]
    have hsb := hsB _ (List.getElem_mem hjs)
    rw [hdr] at hrd
    generalize SL[j] = s at *
    unfold rdL at hrd
    refine exT (decide_eq_true (by simp only [Dat.ofN, Dat.len]; omega)) ?_
    refine exI ⟨by omega, by simp only [Dat.len]; omega⟩ ?_
    refine exB hgt ?_
    refine exBi (slotRead_own B S H W s hsb) ?_
    generalize readS B S H W s = rr at *
    obtain ⟨b, is, er⟩ := rr
    dsimp only at hrd ⊢
    refine exB (y := Q ++ [b.2.2.1]) rfl ?_
    by_cases he : er = 0
    ·rw [if_pos he] at hrd
     refine exF (by rw [he]; rfl) ?_
     cases is with
     | true =>
      rw [if_pos rfl] at hrd
      refine exT rfl ?_
      cases e with
      | true =>
       rw [if_pos rfl] at hrd
       refine exT rfl ?_
       rw [← hrd]
       exact exS (readPost_none 8)
      | false =>
       rw [if_neg (by decide)] at hrd
       refine exF rfl ?_
       refine exF rfl ?_
       refine exI (by simp [Dat.XGr, MixE.xgr]) ?_
       refine exN (by simp [Dat.len]) ?_
       refine exN (by simp only [Dat.Big, Dat.xlen, Dat.len, List.length_cons, List.length_nil]; have := hbs.1; omega) ?_
       refine exB rfl ?_
       refine exB rfl ?_
       refine exB (y := ((j + 1 : Nat) : Int)) (Dat.succ_i64 (by omega)) ?_
       refine hk _ _ _ _ _ ⟨j + 1, nb ++ [(b.1, b.2.1, Dat.xrow Q.length b.2.2.1, ())], acc ++ [b], rfl, hlt, by simp; omega, ?_, ?_, blkSegs_snoc hbs b, hrd⟩ (by show n - (((j + 1 : Nat) : Int)).toNat < n - ((j : Int)).toNat; omega)
       ·simp [Dat.xapp, Dat.xk, Dat.len]
       ·simp [Dat.xlong, Dat.len]
     | false =>
      rw [if_neg (by decide)] at hrd
      refine exF rfl ?_
      refine exT rfl ?_
      refine exB (y := ((j + 1 : Nat) : Int)) (Dat.succ_i64 (by omega)) ?_
      exact hk _ _ _ _ _ ⟨j + 1, nb, acc, rfl, hlt, by omega, rfl, rfl, blkSegs_more hbs _, hrd⟩ (by show n - (((j + 1 : Nat) : Int)).toNat < n - ((j : Int)).toNat; omega)
    ·rw [if_neg he] at hrd
     refine exT (by simp [Dat.ine, he]) ?_
     rw [← hrd]
     exact exS (readPost_none 8)
   ·obtain rfl : j = n := by omega
    rw [List.drop_of_length_le (by omega)] at hrd
    simp only [rdL] at hrd
    refine exF (decide_eq_false (by simp only [Dat.ofN, Dat.len]; omega)) ?_
    have hok : Dat.XOk [nb] (MixE.ref 0 0 nb.length nb.length) := by simp [Dat.XOk, MixE.xok]
    have hget : Dat.xget [nb] (MixE.ref 0 0 nb.length nb.length) = nb := by
     show (nb.drop 0).take nb.length = nb
     rw [List.drop_zero, List.take_length]
    refine exI hok ?_
    rw [hget]
    refine exBi (blkSegs_view hbs fun e he => by rw [if_pos he]) ?_
    refine exBi (bucket_Check_spec B S H W acc _ _) ?_
    rw [← hrd]
    dsimp only
    rcases bchk_two B S H W acc with k0 | k8
    ·rw [if_pos k0, k0]
     refine exF rfl ?_
     exact exS ⟨nb, rfl, rfl, hbs, .inr ⟨rfl, rfl⟩⟩
    ·rw [if_neg (by omega), k8]
     refine exT rfl ?_
     exact exS (readPost_none 8)
  ·rw [if_neg hl]
   rw [if_neg (by omega)] at hcut
   exact exBi hcut (exT rfl (exS (readPost_none 10)))
 ·have hne : ¬ (slotsS B S H W).2 = 0 := by rw [h8]; decide
  rw [if_neg hne] at hcut
  rw [if_neg hne]
  exact exBi hcut (exT rfl (exS (readPost_none 8)))
end Go.Proofs.Ythhjkmefpmmleaa
