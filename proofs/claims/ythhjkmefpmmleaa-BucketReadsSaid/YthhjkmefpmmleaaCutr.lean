/- Parts that stand in a row: num.Cut, its rows in places. -/
import Derived.Test.YthhjkmefpmmleaaCut
import Derived.Test.YthhjkmefpmmleaaSeg
namespace Go.Proofs.Ythhjkmefpmmleaa
open Go.Eng
set_option linter.unusedVariables false
set_option linter.unusedSimpArgs false
def laidP (whole : MixE Int) (sizes : List Int) (i : Nat) : List (MixE Int) := (List.range sizes.length).map fun j => if j < i then Dat.xcut whole (upto sizes j) (upto sizes (j + 1)) else .data []
theorem laidP_len (whole : MixE Int) (sizes : List Int) (i : Nat) : (laidP whole sizes i).length = sizes.length := by simp [laidP]
theorem laidP_set (whole : MixE Int) (sizes : List Int) (i : Nat) (h : i < sizes.length) : (laidP whole sizes i).set i (Dat.xcut whole (upto sizes i) (upto sizes (i + 1))) = laidP whole sizes (i + 1) := by
 apply List.ext_getElem?
 intro j
 rw [List.getElem?_set]
 by_cases hj : j < sizes.length
 ·by_cases hij : i = j
  ·subst hij
   simp [laidP, hj]
  ·rw [if_neg hij]
   simp only [laidP, List.getElem?_map, List.getElem?_range hj, Option.map_some]
   by_cases hlt : j < i
   ·rw [if_pos hlt, if_pos (by omega)]
   ·rw [if_neg hlt, if_neg (by omega)]
 ·rw [if_neg (by omega), List.getElem?_eq_none (by simp [laidP]; omega), List.getElem?_eq_none (by simp [laidP]; omega)]
theorem cut_loop (b sizes : List Int) (whole : MixE Int) (Q : List (List Int)) (hok : okS 0 65536 sizes = true) (he : (b.length : Int) = sizes.sum) (hx : Dat.XCut Q whole) (hl : Dat.xlen whole = b.length) :
    Dat.loop (fun (s11 : (Int) × ((Int) × ((MixE (Int)) × ((List (List (Int))) × ((MixE (MixE (Int))) × (List (List (MixE (Int))))))))) k12 =>
 (bif (Dat.ilt s11.2.1 (Dat.ofN (Dat.len sizes))) then if (Dat.Ix s11.2.1 (Dat.len sizes)) then Dat.bnd (Dat.get sizes (Dat.toN s11.2.1) 0) fun (x15 : Int) =>
 Dat.bnd (Dat.wrap .i64 (Dat.add s11.1 x15)) fun (x16 : Int) =>
 Dat.bnd (Dat.wrap .i64 (Dat.add s11.1 x15)) fun (x17 : Int) =>
 if (Dat.XCut s11.2.2.2.1 s11.2.2.1) then if (Dat.Bd x17 (Dat.xlen s11.2.2.1)) then if (Dat.Bd x16 (Dat.toN x17)) then if (Dat.Bd s11.1 (Dat.toN x16)) then Dat.bnd (Dat.xcut s11.2.2.1 (Dat.toN s11.1) (Dat.toN x16)) fun (x26 : MixE (Int)) =>
 if (Dat.Ix s11.2.1 (Dat.xlen s11.2.2.2.2.1)) then if (Dat.XPt s11.2.2.2.2.2 s11.2.2.2.2.1 (Dat.toN s11.2.1)) then if (Dat.XPt s11.2.2.2.2.2 s11.2.2.2.2.1 (Dat.toN s11.2.1)) then Dat.bnd (Dat.xset s11.2.2.2.2.2 s11.2.2.2.2.1 (Dat.toN s11.2.1) x26) fun (x33 : List (List (MixE (Int)))) =>
 Dat.bnd (Dat.wrap .i64 (Dat.add s11.1 x15)) fun (x34 : Int) =>
 Dat.bnd (Dat.wrap .i64 (Dat.add s11.2.1 1)) fun (x35 : Int) =>
 k12 (x34, (x35, (s11.2.2.1, (s11.2.2.2.1, (s11.2.2.2.2.1, x33)))))
 else none
 else none
 else none
 else none
 else none
 else none
 else none
 else none
 else some ((s11.2.2.2.1, s11.2.2.2.2.2), (s11.2.2.2.2.1, (0 : Int))))) (0, (0, (whole, (Q, ((Dat.xnew (α := MixE (Int)) 0 sizes.length), [laidP whole sizes 0]))))) = some ((Q, [laidP whole sizes sizes.length]), (Dat.xnew (α := MixE (Int)) 0 sizes.length, (0 : Int))) := by
  obtain ⟨hlen, hall, hsum⟩ := ok_cut hok
  have hall0 : ∀ s ∈ sizes, 0 ≤ s := fun s h => (hall s h).1
  refine loop_inv (fun (s : (Int) × ((Int) × ((MixE (Int)) × ((List (List (Int))) × ((MixE (MixE (Int))) × (List (List (MixE (Int)))))))) ) => ∃ i : Nat, i ≤ sizes.length ∧ s = ((upto sizes i : Int), (i : Int), whole, Q, Dat.xnew (α := MixE (Int)) 0 sizes.length, [laidP whole sizes i])) (fun s => sizes.length - s.2.1.toNat) ?_ ⟨0, Nat.zero_le _, by simp [upto]⟩ (mu_lt _ _ (by omega))
  rintro s k ⟨i, hi, rfl⟩ hk
  dsimp only
  by_cases hlt : i < sizes.length
  · have hu := upto_succ hall0 hlt
    have hle : upto sizes (i + 1) ≤ b.length := by
      have h1 := upto_eq hall0 (i + 1)
      have h2 := sum_take_le hall0 (i + 1)
      omega
    have h0 := hall sizes[i] (List.getElem_mem hlt)
    have hw : Dat.wrap .i64 (Dat.add (upto sizes i : Int) sizes[i]) = (upto sizes (i + 1) : Int) := by
      rw [wrapI] <;> simp only [Dat.add] <;> omega
    refine cond_t (decide_eq_true (by simp only [Dat.ofN, Dat.len]; omega)) ?_
    refine ite_some ⟨by omega, by simp only [Dat.len]; omega⟩ ?_
    refine bnd_to (y := sizes[i]) (by simp [Dat.get, Dat.toN, List.getD, hlt]) ?_
    refine bnd_to hw ?_
    refine bnd_to hw ?_
    refine ite_some hx ?_
    refine ite_some ⟨by omega, by rw [hl]; omega⟩ ?_
    refine ite_some ⟨by omega, by simp only [Dat.toN]; omega⟩ ?_
    refine ite_some ⟨by omega, by simp only [Dat.toN]; omega⟩ ?_
    refine bnd_to (y := Dat.xcut whole (upto sizes i) (upto sizes (i + 1))) rfl ?_
    have hpt : Dat.XPt [laidP whole sizes i] (Dat.xnew (α := MixE (Int)) 0 sizes.length) (Dat.toN (i : Int)) := by
      simp [Dat.XPt, MixE.xpt, Dat.xnew, laidP_len, Dat.toN, hlt]
    refine ite_some ⟨by omega, by simp only [Dat.xlen]; omega⟩ ?_
    refine ite_some hpt ?_
    refine ite_some hpt ?_
    refine bnd_to (y := [laidP whole sizes (i + 1)]) (by simp [Dat.xset, Dat.xk, Dat.xoff, Dat.toN, laidP_set whole sizes i hlt]) ?_
    refine bnd_to hw ?_
    refine bnd_to (y := ((i + 1 : Nat) : Int)) (Dat.succ_i64 (by omega)) ?_
    exact hk _ ⟨i + 1, hlt, rfl⟩ (by show sizes.length - (((i + 1 : Nat) : Int)).toNat < sizes.length - ((i : Int)).toNat; omega)
  · obtain rfl : i = sizes.length := by omega
    exact cond_f (decide_eq_false (by simp only [Dat.ofN, Dat.len]; omega)) rfl
theorem laid_segs (b sizes : List Int) (whole : MixE Int) (Q : List (List Int)) (hok : okS 0 65536 sizes = true) (he : (b.length : Int) = sizes.sum) (hw : Seg Q whole b) :
  Segs Q (laidP whole sizes sizes.length) (parts b sizes) := by
 obtain ⟨hlen, hall, hsum⟩ := ok_cut hok
 have hall0 : ∀ s ∈ sizes, 0 ≤ s := fun s h => (hall s h).1
 refine ⟨by simp [laidP, parts], fun i e d h1 h2 => ?_⟩
 have hi : i < sizes.length := by have := (List.getElem?_eq_some_iff.1 h1).1; simpa [laidP] using this
 simp only [laidP, List.getElem?_map, List.getElem?_range hi, Option.map_some, if_pos hi, Option.some.injEq] at h1
 simp only [parts, List.getElem?_map, List.getElem?_range hi, Option.map_some, Option.some.injEq] at h2
 subst h1; subst h2
 have hu := upto_succ hall0 hi
 have h0 := hall sizes[i] (List.getElem_mem hi)
 have hle : upto sizes (i + 1) ≤ b.length := by
  have h1 := upto_eq hall0 (i + 1)
  have h2 := sum_take_le hall0 (i + 1)
  omega
 have hpl : (part b sizes i).length = upto sizes (i + 1) - upto sizes i := by
  unfold part
  rw [List.length_drop, List.length_take]; omega
 rcases hw with ⟨rfl, h | h⟩ | ⟨k, off, h1, rfl, h2, h3⟩
 ·subst h
  left
  simp [part, Dat.xcut]
 ·subst h
  left
  simp [part, Dat.xcut]
 ·right
  refine ⟨k, off + upto sizes i, h1, ?_, ?_, ?_⟩
  ·rw [hpl]
  ·rw [hpl]; omega
  ·rw [hpl, ← List.drop_drop]
   unfold part
   rw [List.drop_take]
   have : ∀ (l : List Int) (n m : Nat), n ≤ b.length → l.take b.length = b → (l.drop m).take (n - m) = (b.drop m).take (n - m) := by
    intro l n m hn hb
    rw [← hb, List.drop_take, List.take_take, Nat.min_eq_left (by omega)]
   exact this _ _ _ hle h3
theorem num_Cut_r_spec (b sizes : List Int) (hs : sizes.length < 9223372036854775807) : ∃ Q R m l, num_Cut_r (b, sizes) = some ((Q, R), (m, (cutS b sizes).2)) ∧ Seg R m l ∧ Segs Q l (cutS b sizes).1 := by
 have key : okS 0 65536 sizes = true → (b.length : Int) = sizes.sum → ∃ Q R m l, num_Cut_r (b, sizes) = some ((Q, R), (m, 0)) ∧ Seg R m l ∧ Segs Q l (parts b sizes) := by
  intro hok he
  obtain ⟨hlen, hall, hsum⟩ := ok_cut hok
  have hmap : ∀ whole, Dat.mapO (fun (e9 : List (Int)) => some (Dat.xdata e9)) (Dat.seg (Dat.rep (α := List (Int)) (Dat.toN (Dat.ofN (Dat.len sizes))) ([] : List (Int))) 0 (Dat.toN (Dat.ofN (Dat.len sizes)))) = some (laidP whole sizes 0) := by
   intro whole
   refine mapO_to (by simp [laidP, Dat.seg, Dat.rep, Dat.toN]) fun i e d h1 h2 => ?_
   have hi : i < sizes.length := by have := (List.getElem?_eq_some_iff.1 h2).1; simpa [laidP] using this
   have h1' : (List.replicate sizes.length ([] : List Int))[i]? = some e := by simpa [Dat.seg, Dat.rep, Dat.toN] using h1
   rw [List.getElem?_replicate, if_pos hi] at h1'
   simp only [laidP, List.getElem?_map, List.getElem?_range hi, Option.map_some, Nat.not_lt_zero, if_false, Option.some.injEq] at h2
   simp only [Option.some.injEq] at h1'
   subst h1'; subst h2; rfl
  have hR : ∀ whole, Seg [laidP whole sizes sizes.length] (Dat.xnew (α := MixE (Int)) 0 sizes.length) (laidP whole sizes sizes.length) := by
   intro whole
   right
   refine ⟨0, 0, by simp, ?_, by simp, by simp⟩
   simp [Dat.xnew, laidP_len]
  have hmk : Dat.MkOk (Dat.ofN (Dat.len sizes)) (Dat.ofN (Dat.len sizes)) 24 := Dat.MkOk_iff.2 (by simp only [Dat.ofN, Dat.len]; omega)
  have hle : Dat.Le (Dat.addN 0 (Dat.toN (Dat.ofN (Dat.len sizes)))) (Dat.len (Dat.rep (α := List (Int)) (Dat.toN (Dat.ofN (Dat.len sizes))) ([] : List (Int)))) := by simp [Dat.Le, Dat.addN, Dat.toN, Dat.rep, Dat.len]
  by_cases h0 : b.length = 0
  ·have hb : b = [] := List.length_eq_zero_iff.1 h0
   have hw : Seg ([] : List (List Int)) (.data b) b := .inl ⟨hb, .inl (by rw [hb])⟩
   refine ⟨[], [laidP (.data b) sizes sizes.length], Dat.xnew (α := MixE (Int)) 0 sizes.length, laidP (.data b) sizes sizes.length, ?_, hR _, laid_segs b sizes _ _ hok he hw⟩
   unfold num_Cut_r
   dsimp only
   refine bind_to (num_Size_spec sizes hs) ?_
   rw [if_pos hok]
   refine cond_f rfl ?_
   refine cond_f (by simp [Dat.ine, he]) ?_
   refine bind_to (clone_spec b (by omega)) ?_
   refine iteP h0 ?_
   refine ite_some hmk ?_
   refine ite_some hle ?_
   refine bind_to (hmap (.data b)) ?_
   exact cut_loop b sizes (.data b) [] hok he rfl rfl
  ·have hw : Seg [b] (.ref 0 0 b.length b.length) b := .inr ⟨0, 0, by simp, by simp, by simp, by simp⟩
   refine ⟨[b], [laidP (.ref 0 0 b.length b.length) sizes sizes.length], Dat.xnew (α := MixE (Int)) 0 sizes.length, laidP (.ref 0 0 b.length b.length) sizes sizes.length, ?_, hR _, laid_segs b sizes _ _ hok he hw⟩
   unfold num_Cut_r
   dsimp only
   refine bind_to (num_Size_spec sizes hs) ?_
   rw [if_pos hok]
   refine cond_f rfl ?_
   refine cond_f (by simp [Dat.ine, he]) ?_
   refine bind_to (clone_spec b (by omega)) ?_
   refine iteN h0 ?_
   refine ite_some hmk ?_
   refine ite_some (by simp [Dat.Le, Dat.addN, Dat.len]) ?_
   refine ite_some hle ?_
   refine bind_to (hmap (.ref 0 0 b.length b.length)) ?_
   have hsg : Dat.seg b 0 (Dat.len b) = b := by simp [Dat.seg, Dat.len]
   rw [hsg]
   exact cut_loop b sizes (.ref 0 0 b.length b.length) [b] hok he (by simp [Dat.XCut, MixE.xcut]) rfl
 unfold cutS
 cases hok : okS 0 65536 sizes with
 | false =>
  refine ⟨[], [], .nil, [], ?_, .inl ⟨rfl, .inr rfl⟩, rfl, by simp⟩
  unfold num_Cut_r
  dsimp only
  refine bind_to (num_Size_spec sizes hs) ?_
  rw [hok]
  exact cond_t rfl rfl
 | true =>
  by_cases he : (b.length : Int) = sizes.sum
  ·rw [if_pos rfl, if_pos he]; exact key hok he
  ·rw [if_pos rfl, if_neg he]
   refine ⟨[], [], .nil, [], ?_, .inl ⟨rfl, .inr rfl⟩, rfl, by simp⟩
   unfold num_Cut_r
   dsimp only
   refine bind_to (num_Size_spec sizes hs) ?_
   rw [hok, if_pos rfl]
   refine cond_f rfl ?_
   exact cond_t (by simp [Dat.ine, he]) rfl
end Go.Proofs.Ythhjkmefpmmleaa
