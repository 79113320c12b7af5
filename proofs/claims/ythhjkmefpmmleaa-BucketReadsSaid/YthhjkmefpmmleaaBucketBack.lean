/- BucketBack answers true. -/
import Derived.Test.YthhjkmefpmmleaaBucketread2
import Derived.Test.YthhjkmefpmmleaaBucketSlots
namespace Go.Proofs.Ythhjkmefpmmleaa
open Go.Eng
set_option linter.unusedVariables false
set_option linter.unusedSimpArgs false
theorem upto_two {S : Int} (h1 : 1 ≤ S) (n : Nat) : upto (sizesB S n) (n + 1) = n * (8 + S).toNat + 32 ∧ upto (sizesB S n) (n + 2) = n * (8 + S).toNat + 64 := by
 have hsn : ∀ s ∈ sizesB S n, 0 ≤ s := fun s hs => by rcases sizes_mem hs with rfl | rfl <;> omega
 have hs := sizes_get S n
 have hl := sizes_len S n
 have u0 := upto_sizes h1 n (Nat.le_refl n)
 have u1 := upto_succ hsn (n := n) (by omega)
 have u2 := upto_succ hsn (n := n + 1) (by omega)
 have g1 : (sizesB S n)[n]'(by omega) = 32 := Option.some.inj ((List.getElem?_eq_getElem (by omega)).symm.trans hs.1)
 have g2 : (sizesB S n)[n + 1]'(by omega) = 32 := Option.some.inj ((List.getElem?_eq_getElem (by omega)).symm.trans hs.2)
 rw [g1] at u1
 rw [g2] at u2
 have u2' : ((upto (sizesB S n) (n + 2) : Nat) : Int) = upto (sizesB S n) (n + 1) + 32 := u2
 omega
theorem slots_take {S : Int} {l : List Blk} (hw : ∀ i, (slotAt S l i).length = (8 + S).toNat) : ∀ (d m : Nat), (slotsL S l (m + d)).take (m * (8 + S).toNat) = slotsL S l m
 | 0, m => by
  have : ∀ n, (slotsL S l n).length = n * (8 + S).toNat := by
   intro n
   induction n with
   | zero => simp [slotsL]
   | succ n ih => rw [slotsL_succ, List.length_append, ih, hw, Nat.add_mul]; omega
  rw [Nat.add_zero, ← this m, List.take_length]
 | d + 1, m => by
  have hlen : ∀ n, (slotsL S l n).length = n * (8 + S).toNat := by
   intro n
   induction n with
   | zero => simp [slotsL]
   | succ n ih => rw [slotsL_succ, List.length_append, ih, hw, Nat.add_mul]; omega
  rw [← Nat.add_assoc, slotsL_succ, List.take_append_of_le_length (by rw [hlen]; exact Nat.mul_le_mul_right _ (by omega))]
  exact slots_take hw d m
theorem parts_write {S : Int} (h1 : 1 ≤ S) {l : List Blk} {n : Nat} (hw : ∀ i, (slotAt S l i).length = (8 + S).toNat) {X Y : List Int} (hX : X.length = 32) (hY : Y.length = 32) :
  slL S n (slotsL S l n ++ X ++ Y) = (List.range n).map (slotAt S l) ∧ part (slotsL S l n ++ X ++ Y) (sizesB S n) n = X ∧ part (slotsL S l n ++ X ++ Y) (sizesB S n) (n + 1) = Y := by
 have hlen : ∀ n, (slotsL S l n).length = n * (8 + S).toNat := by
  intro n
  induction n with
  | zero => simp [slotsL]
  | succ n ih => rw [slotsL_succ, List.length_append, ih, hw, Nat.add_mul]; omega
 obtain ⟨u1, u2⟩ := upto_two h1 n
 have u0 := upto_sizes h1 n (Nat.le_refl n)
 refine ⟨?_, ?_, ?_⟩
 ·unfold slL
  apply List.map_congr_left
  intro i hi
  have hin := List.mem_range.1 hi
  unfold part
  rw [upto_sizes h1 n (show i + 1 ≤ n by omega), upto_sizes h1 n (show i ≤ n by omega), List.append_assoc]
  have hle : (i + 1) * (8 + S).toNat ≤ (slotsL S l n).length := by rw [hlen]; exact Nat.mul_le_mul_right _ (by omega)
  rw [List.take_append_of_le_length hle]
  have := slots_take hw (n - (i + 1)) (i + 1)
  rw [show i + 1 + (n - (i + 1)) = n by omega] at this
  rw [this, slotsL_succ, List.drop_append_of_le_length (by rw [hlen]; exact Nat.le_refl _), List.drop_of_length_le (by rw [hlen]; exact Nat.le_refl _)]
  rfl
 ·unfold part
  rw [u1, u0, List.take_append_of_le_length (by simp [hlen, hX]), List.take_of_length_le (by simp [hlen, hX]), List.drop_append_of_le_length (by rw [hlen]; exact Nat.le_refl _), List.drop_of_length_le (by rw [hlen]; exact Nat.le_refl _)]
  rfl
 ·unfold part
  rw [show n + 1 + 1 = n + 2 by rfl, u2, u1, List.take_of_length_le (by simp [hlen, hX, hY]), List.drop_append_of_le_length (by simp [hlen, hX]), List.drop_of_length_le (by simp [hlen, hX])]
  rfl
def slotW' (b : Blk) : List Int := slotW b.1 b.2.1 b.2.2.1
def zerosS (S : Int) : List Int := List.replicate (8 + S).toNat 0
theorem slots_list (S : Int) (l : List Blk) {n : Nat} (h : l.length ≤ n) : (List.range n).map (slotAt S l) = l.map slotW' ++ List.replicate (n - l.length) (zerosS S) := by
 apply List.ext_getElem?
 intro i
 by_cases hi : i < n
 ·rw [List.getElem?_map, List.getElem?_range hi]
  simp only [Option.map_some]
  by_cases hl : i < l.length
  ·rw [List.getElem?_append_left (by simpa using hl), List.getElem?_map, List.getElem?_eq_getElem hl]
   simp only [Option.map_some, slotAt, slotW']
   rw [List.getElem?_eq_getElem hl]
  ·rw [List.getElem?_append_right (by simp; omega), List.getElem?_replicate, if_pos (by simp; omega)]
   simp only [slotAt]
   rw [List.getElem?_eq_none (by omega)]; rfl
 ·rw [List.getElem?_eq_none (by simp; omega), List.getElem?_eq_none (by simp; omega)]
theorem read_zeros {B S H W : Int} (h : (slotsS B S H W).2 = 0) : readS B S H W (zerosS S) = (noB, false, 0) := by
 obtain ⟨l1, l2, l3, l4, l5, l6⟩ := lvl_iff.1 (slots_lvl h)
 unfold readS
 rw [if_pos h, if_pos (by unfold zerosS; simp; omega)]
 rw [if_pos (show Dat.str (zerosS S) = Dat.str (List.replicate (8 + S).toNat 0) from rfl)]
theorem rd_zeros {B S H W : Int} (h : (slotsS B S H W).2 = 0) : ∀ (k : Nat) (e : Bool) (acc : List Blk), rdL B S H W (List.replicate k (zerosS S)) e acc = some acc
 | 0, e, acc => rfl
 | k + 1, e, acc => by
  rw [List.replicate_succ]
  unfold rdL
  rw [read_zeros h, if_pos rfl, if_neg (by decide)]
  exact rd_zeros h k true acc
theorem rd_write {B S H W : Int} (h : (slotsS B S H W).2 = 0) (k : Nat) : ∀ (ls acc : List Blk), (∀ b ∈ ls, checkS B S H W b.1 b.2.1 b.2.2.1 = 0 ∧ isB b.2.2.1) → rdL B S H W (ls.map slotW' ++ List.replicate k (zerosS S)) false acc = some (acc ++ ls)
 | [], acc, _ => by rw [List.map_nil, List.nil_append, rd_zeros h, List.append_nil]
 | b :: ls, acc, hb => by
  have h1 := hb b (by simp)
  have hr : readS B S H W (slotW' b) = (b, true, 0) := read_write h1.1 h1.2
  rw [List.map_cons, List.cons_append]
  unfold rdL
  rw [hr, if_pos rfl, if_pos rfl, if_neg (by decide), rd_write h k ls (acc ++ [b]) (fun x hx => hb x (by simp [hx])), List.append_assoc]
  rfl
theorem rd_back {B S H W : Int} (h : (slotsS B S H W).2 = 0) : ∀ (ss : List (List Int)) (e : Bool) (acc l : List Blk), rdL B S H W ss e acc = some l → (∀ s ∈ ss, isB s) →
  ∃ m, l = acc ++ m ∧ (e = true → m = []) ∧ m.length ≤ ss.length ∧ ∀ i (hi : i < ss.length), ss[i] = slotAt S m i
 | [], e, acc, l, hr, _ => by
  simp only [rdL, Option.some.injEq] at hr
  exact ⟨[], by simp [hr], fun _ => rfl, by simp, fun i hi => by simp at hi⟩
 | s :: ss, e, acc, l, hr, hB => by
  have hs := hB s (by simp)
  have hss : ∀ x ∈ ss, isB x := fun x hx => hB x (by simp [hx])
  unfold rdL at hr
  rcases read_cases B S H W s with ⟨er, he, hx⟩ | ⟨hx, _, hz⟩ | ⟨b, hx⟩
  ·rw [hx, if_neg (by dsimp only; omega)] at hr; cases hr
  ·rw [hx, if_pos rfl, if_neg (by decide)] at hr
   have hsz : s = zerosS S := str_inj hs (zeros_isB _) hz
   obtain ⟨m, h1, h2, h3, h4⟩ := rd_back h ss true acc l hr hss
   obtain rfl := h2 rfl
   refine ⟨[], h1, fun _ => rfl, by simp, fun i hi => ?_⟩
   cases i with
   | zero => exact hsz
   | succ i =>
    have := h4 i (by simpa using hi)
    simp only [List.getElem_cons_succ]
    rw [this]; rfl
  ·rw [hx, if_pos rfl, if_pos rfl] at hr
   cases e with
   | true => rw [if_pos rfl] at hr; cases hr
   | false =>
    rw [if_neg (by decide)] at hr
    obtain ⟨m, h1, h2, h3, h4⟩ := rd_back h ss false (acc ++ [b]) l hr hss
    have hw := write_read hs hx
    have hsw : slotW b.1 b.2.1 b.2.2.1 = s := by
     unfold writeS at hw
     split at hw
     ·exact congrArg Prod.fst hw
     ·have := congrArg Prod.snd hw; simp at this
    refine ⟨b :: m, by rw [h1, List.append_assoc]; rfl, fun h => by simp at h, by simp; omega, fun i hi => ?_⟩
    cases i with
    | zero => exact hsw.symm
    | succ i =>
     have := h4 i (by simpa using hi)
     simp only [List.getElem_cons_succ]
     rw [this]; rfl
theorem arr32_id {d : List Int} (h : d.length = 32) : arr32 d = d := by
 unfold arr32
 exact norm_same h
theorem readB_cases (B S H W : Int) (t : List Int) (hB : isB t) : (readB B S H W t).2 ≠ 0 ∧ (readB B S H W t).1 = noK ∨
  ∃ l X Y, readB B S H W t = ((l, X, Y, ()), 0) ∧ X.length = 32 ∧ Y.length = 32 ∧ writeB B S H W l X Y = (t, 0) ∧ l.length ≤ 4 := by
 unfold readB
 by_cases hs : (slotsS B S H W).2 = 0
 ·rw [if_pos hs]
  by_cases hl : (t.length : Int) = W
  ·rw [if_pos hl]
   cases hr : rdL B S H W (slL S (slotsS B S H W).1.toNat t) false [] with
   | none => exact .inl ⟨by show (8 : Int) ≠ 0; decide, rfl⟩
   | some l =>
    dsimp only
    rcases bchk_two B S H W l with k0 | k8
    ·rw [if_pos k0]
     right
     refine ⟨l, _, _, rfl, arr32_len _, arr32_len _, ?_, ?_⟩
     ·obtain ⟨l1, l2, l3, l4, l5, l6⟩ := lvl_iff.1 (slots_lvl hs)
      obtain ⟨hW, hm1⟩ := W_eq hs
      have hm4 := (many_le B S H W).1
      unfold writeB
      rw [if_pos k0]
      obtain ⟨n, hn⟩ := Int.eq_ofNat_of_zero_le (show 0 ≤ (slotsS B S H W).1 by omega)
      rw [hn] at hr hW hm4 hm1 ⊢
      rw [Int.toNat_natCast] at hr ⊢
      have hsn : ∀ s ∈ sizesB S n, 0 ≤ s := fun s hs => by rcases sizes_mem hs with rfl | rfl <;> omega
      obtain ⟨m, e1, _, e3, e4⟩ := rd_back hs _ _ _ _ hr (by
       intro s hs
       obtain ⟨i, _, rfl⟩ := List.mem_map.1 hs
       exact isB_part hB i)
      rw [List.nil_append] at e1
      subst e1
      have hpl : ∀ i, i < n + 2 → i ≥ n → (part t (sizesB S n) i).length = 32 := by
       intro i hi hge
       have h1 := part_len (b := t) hsn (by rw [sizes_sum]; omega) (i := i) (by rw [sizes_len]; omega)
       have h2 : (sizesB S n)[i]'(by rw [sizes_len]; omega) = 32 := by
        have hs := sizes_get S n
        have hq : (sizesB S n)[i]? = some 32 := by
         by_cases e : i = n
         ·rw [e]; exact hs.1
         ·rw [show i = n + 1 by omega]; exact hs.2
        rw [List.getElem?_eq_getElem (by rw [sizes_len]; omega)] at hq
        exact Option.some.inj hq
       omega
      have hgrow : ∀ i, i ≤ n → slotsL S l i = t.take (upto (sizesB S n) i) := by
       intro i
       induction i with
       | zero => intro _; simp [slotsL, upto]
       | succ i ih =>
        intro hi
        rw [slotsL_succ, ih (by omega), ← part_grow hsn (by rw [sizes_len]; omega)]
        congr 1
        have := e4 i (by simp [slL]; omega)
        rw [← this]
        simp [slL]
      obtain ⟨u1, u2⟩ := upto_two l3 n
      rw [arr32_id (arr32_len _), arr32_id (arr32_len _), arr32_id (hpl n (by omega) (by omega)), arr32_id (hpl (n + 1) (by omega) (by omega)), hgrow n (Nat.le_refl _),
       part_grow hsn (by rw [sizes_len]; omega), part_grow hsn (by rw [sizes_len]; omega), show n + 1 + 1 = n + 2 by rfl, u2, List.take_of_length_le]
      have : ((n * (8 + S).toNat : Nat) : Int) = n * (8 + S) := by rw [Int.natCast_mul]; congr 1; omega
      omega
     ·obtain ⟨_, hb, _⟩ := bchk_ok k0
      have := (many_le B S H W).1
      omega
    ·rw [if_neg (by omega)]
     exact .inl ⟨by show (8 : Int) ≠ 0; decide, rfl⟩
  ·rw [if_neg hl]
   exact .inl ⟨by show (10 : Int) ≠ 0; decide, rfl⟩
 ·rw [if_neg hs]
  exact .inl ⟨by show (8 : Int) ≠ 0; decide, rfl⟩
end Go.Proofs.Ythhjkmefpmmleaa
