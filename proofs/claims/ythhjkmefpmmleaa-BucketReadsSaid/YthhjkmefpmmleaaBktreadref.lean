/- A text's bucket, by the document. -/
import Derived.Test.YthhjkmefpmmleaaBktread
namespace Go.Proofs.Ythhjkmefpmmleaa
open Go.Eng
set_option linter.unusedVariables false
set_option linter.unusedSimpArgs false
theorem ref10_digest_spec (t : List Int) (p : Nat) (h : p + 32 ≤ t.length) (ht : t.length < 1000000) : ref10_digest (t, (p : Int)) = some ((t.drop p).take 32) := by
 unfold ref10_digest
 dsimp only
 have hdl : ((t.drop p).take 32).length = 32 := by rw [List.length_take, List.length_drop]; omega
 refine loop_inv (fun (s : Int × List Int) => ∃ i : Nat, i ≤ 32 ∧ s.1 = (i : Int) ∧ s.2.length = 32 ∧ ∀ j, j < i → s.2[j]? = ((t.drop p).take 32)[j]?) (fun s => 32 - s.1.toNat) ?_ ⟨0, by omega, rfl, rfl, fun j hj => absurd hj (by omega)⟩ (mu_lt _ _ (by omega))
 rintro ⟨s1, s2⟩ k ⟨i, hi, rfl, hl, hs⟩ hk
 dsimp only at hl hs ⊢
 by_cases hlt : i < 32
 ·refine cond_t (decide_eq_true (by omega)) ?_
  refine bnd_to (y := ((p + i : Nat) : Int)) (by rw [wrapI] <;> simp only [Dat.add] <;> omega) ?_
  refine ite_some ⟨by omega, by simp only [Dat.len]; omega⟩ ?_
  have hpi : p + i < t.length := by omega
  refine bnd_to (y := t[p + i]) (by
   show t.getD (((p + i : Nat) : Int)).toNat 0 = _
   rw [Int.toNat_natCast]; simp [List.getD, hpi]) ?_
  refine ite_some ⟨by omega, by omega⟩ ?_
  refine ite_some (by simp only [Dat.Lt, Dat.toN, Dat.len]; omega) ?_
  refine bnd_to (y := s2.set i t[p + i]) (by simp [Dat.set, Dat.toN]) ?_
  refine bnd_to (y := ((i + 1 : Nat) : Int)) (Dat.succ_i64 (by omega)) ?_
  refine hk _ ⟨i + 1, by omega, rfl, by simp [hl], fun j hj => ?_⟩ (by show 32 - (((i + 1 : Nat) : Int)).toNat < 32 - ((i : Int)).toNat; omega)
  show (s2.set i t[p + i])[j]? = _
  rw [List.getElem?_set]
  split
  ·rename_i hij
   subst hij
   rw [if_pos (by omega), List.getElem?_take, if_pos hlt, List.getElem?_drop, List.getElem?_eq_getElem hpi]
  ·exact hs j (by omega)
 ·obtain rfl : i = 32 := by omega
  have he : s2 = (t.drop p).take 32 := by
   apply List.ext_getElem?
   intro j
   by_cases hj : j < 32
   ·exact hs j hj
   ·rw [List.getElem?_eq_none (by omega), List.getElem?_eq_none (by omega)]
  refine cond_f (decide_eq_false (by omega)) ?_
  refine ite_some hl ?_
  refine ite_some rfl ?_
  refine ite_some (by simp [Dat.EqN, Dat.len, Dat.norm]) ?_
  rw [norm_same hl, he]
def rdAll (B S H W : Int) : List (List Int) → List Blk → Option (List Blk)
 | [], acc => some acc
 | s :: ss, acc => if (readS B S H W s).2.2 = 0 then (if (readS B S H W s).2.1 = true then rdAll B S H W ss (acc ++ [(readS B S H W s).1]) else rdAll B S H W ss acc) else none
theorem rdL_all {B S H W : Int} : ∀ {ss : List (List Int)} {e : Bool} {acc l : List Blk}, rdL B S H W ss e acc = some l → rdAll B S H W ss acc = some l
 | [], e, acc, l, h => h
 | s :: ss, e, acc, l, h => by
  unfold rdL at h
  unfold rdAll
  by_cases h1 : (readS B S H W s).2.2 = 0
  ·rw [if_pos h1] at h ⊢
   by_cases h2 : (readS B S H W s).2.1 = true
   ·rw [if_pos h2] at h ⊢
    by_cases h3 : e = true
    ·rw [if_pos h3] at h; cases h
    ·rw [if_neg h3] at h; exact rdL_all h
   ·rw [if_neg h2] at h ⊢; exact rdL_all h
  ·rw [if_neg h1] at h; cases h
theorem rdAll_isB {B S H W : Int} : ∀ {ss : List (List Int)} {acc l : List Blk}, rdAll B S H W ss acc = some l → (∀ s ∈ ss, isB s) → (∀ b ∈ acc, isB b.2.2.1) → ∀ b ∈ l, isB b.2.2.1
 | [], acc, l, h, _, ha => by
  simp only [rdAll, Option.some.injEq] at h
  subst h; exact ha
 | s :: ss, acc, l, h, hs, ha => by
  unfold rdAll at h
  have hss : ∀ x ∈ ss, isB x := fun x hx => hs x (by simp [hx])
  split at h
  ·split at h
   ·refine rdAll_isB h hss fun b hb => ?_
    rcases List.mem_append.1 hb with hb | hb
    ·exact ha b hb
    ·simp only [List.mem_singleton] at hb
     subst hb
     have hsb := hs s (by simp)
     unfold readS
     split
     ·split
      ·split
       ·intro x hx; simp [noB] at hx
       ·split
        ·exact isB_drop hsb _
        ·intro x hx; simp [noB] at hx
      ·intro x hx; simp [noB] at hx
     ·intro x hx; simp [noB] at hx
   ·exact rdAll_isB h hss ha
  ·cases h
theorem readB_ref {B S H W : Int} {t : List Int} (hB : isB t) (hs : (slotsS B S H W).2 = 0) (hl : (t.length : Int) = W) (PA PB : List Int)
  (hPA : arr32 PA = arr32 (part t (sizesB S (slotsS B S H W).1) (slotsS B S H W).1.toNat)) (hPB : arr32 PB = arr32 (part t (sizesB S (slotsS B S H W).1) ((slotsS B S H W).1.toNat + 1))) :
  readB B S H W t = match rdAll B S H W (slL S (slotsS B S H W).1.toNat t) [] with
   | none => (noK, 8)
   | some l => if mayB B S H W l = true then (if Dat.str (slotsL S l (slotsS B S H W).1.toNat ++ arr32 PA ++ arr32 PB) = Dat.str t then ((l, arr32 PA, arr32 PB, ()), 0) else (noK, 8)) else (noK, 8) := by
 have hc := readB_cases B S H W t hB
 obtain ⟨l1, l2, l3, l4, l5, l6⟩ := lvl_iff.1 (slots_lvl hs)
 obtain ⟨hW, hm1⟩ := W_eq hs
 have hm4 := (many_le B S H W).1
 unfold readB at hc ⊢
 rw [if_pos hs, if_pos hl] at hc ⊢
 rw [← hPA, ← hPB] at hc ⊢
 obtain ⟨n, hn⟩ := Int.eq_ofNat_of_zero_le (show 0 ≤ (slotsS B S H W).1 by omega)
 have hslB : ∀ s ∈ slL S (slotsS B S H W).1.toNat t, isB s := by
  intro s hs
  obtain ⟨i, _, rfl⟩ := List.mem_map.1 hs
  exact isB_part hB i
 have harr : ∀ d : List Int, isB d → isB (arr32 d) := by
  intro d hd x hx
  simp only [arr32, Dat.norm, List.mem_map, List.mem_range] at hx
  obtain ⟨i, _, rfl⟩ := hx
  simp only [List.getD]
  cases hi : d[i]? with
  | none => simp
  | some y => exact hd y (List.mem_of_getElem? hi)
 cases hr : rdL B S H W (slL S (slotsS B S H W).1.toNat t) false [] with
 | some l =>
  rw [rdL_all hr]
  rw [hr] at hc
  dsimp only at hc ⊢
  have hbm := bchk_may B S H W l hs
  cases hm : mayB B S H W l with
  | false =>
   rw [hm] at hbm
   simp only [Bool.false_eq_true, if_false] at hbm ⊢
   rw [if_neg (by omega)]
  | true =>
   rw [hm, if_pos rfl] at hbm
   rw [if_pos hbm, if_pos rfl]
   rw [if_pos hbm] at hc
   rcases hc with ⟨h1, _⟩ | ⟨l', X, Y, h1, _, _, h2, _⟩
   ·exact absurd rfl h1
   ·simp only [Prod.mk.injEq] at h1
    obtain ⟨⟨rfl, rfl, rfl, _⟩, _⟩ := h1
    unfold writeB at h2
    rw [if_pos hbm, arr32_twice, arr32_twice] at h2
    simp only [Prod.mk.injEq, and_true] at h2
    rw [h2, if_pos rfl]
 | none =>
  dsimp only
  cases ha : rdAll B S H W (slL S (slotsS B S H W).1.toNat t) [] with
  | none => rfl
  | some l =>
   dsimp only
   have hbm := bchk_may B S H W l hs
   cases hm : mayB B S H W l with
   | false => rfl
   | true =>
    rw [hm, if_pos rfl] at hbm
    rw [if_pos rfl]
    by_cases hst : Dat.str (slotsL S l (slotsS B S H W).1.toNat ++ arr32 PA ++ arr32 PB) = Dat.str t
    ·exfalso
     have hlB := rdAll_isB ha hslB (by simp)
     obtain ⟨_, hlen, hb, _⟩ := bchk_ok hbm
     have hwB : isB (slotsL S l (slotsS B S H W).1.toNat ++ arr32 PA ++ arr32 PB) := by
      intro x hx
      rcases List.mem_append.1 hx with hx | hx
      ·rcases List.mem_append.1 hx with hx | hx
       ·obtain ⟨i, _, hx⟩ := List.mem_flatMap.1 hx
        unfold slotAt at hx
        cases hi : l[i]? with
        | none => rw [hi] at hx; exact zeros_isB _ x hx
        | some b =>
         rw [hi] at hx
         have hbm := List.mem_of_getElem? hi
         unfold slotW at hx
         rcases List.mem_append.1 hx with hx | hx
         ·rcases List.mem_append.1 hx with hx | hx
          ·exact digs_isB4 _ _ x hx
          ·exact digs_isB4 _ _ x hx
         ·exact hlB b hbm x hx
       ·rw [hPA] at hx; exact harr _ (isB_part hB _) x hx
      ·rw [hPB] at hx; exact harr _ (isB_part hB _) x hx
     have he := str_inj hwB hB hst
     rw [hn] at hr he hlen
     rw [Int.toNat_natCast] at hr he
     obtain ⟨p1, _, _⟩ := parts_write l3 (n := n) (l := l) (slotAt_len hbm) (arr32_len PA) (arr32_len PB)
     rw [he, slots_list S l (by omega)] at p1
     rw [p1, rd_write hs _ l [] (fun b hx => ⟨hb b hx, hlB b hx⟩)] at hr
     cases hr
    ·rw [if_neg hst]
theorem ref10_Read_spec (B S H W : Int) (t : List Int) (hB : isB t) : ref10_Read ((B, S, H, W, ()), t) = some (readB B S H W t) := by
 unfold ref10_Read
 dsimp only
 refine bind_to (ref09_Many_spec B S H W) ?_
 rw [slots_lt]
 have h44 : (2 : Nat) ^ 44 = 17592186044416 := by decide
 rcases slots_two B S H W with h0 | h8
 ·rw [decide_eq_true h0]
  refine cond_f rfl ?_
  by_cases hl : (t.length : Int) = W
  ·refine cond_f (by simp [Dat.ine, Dat.ofN, Dat.len, hl]) ?_
   obtain ⟨l1, l2, l3, l4, l5, l6⟩ := lvl_iff.1 (slots_lvl h0)
   obtain ⟨hW, hm1⟩ := W_eq h0
   have hm4 := (many_le B S H W).1
   obtain ⟨n, hn⟩ := Int.eq_ofNat_of_zero_le (show 0 ≤ (slotsS B S H W).1 by omega)
   have hmul : ((n * (8 + S).toNat : Nat) : Int) = n * (8 + S) := by rw [Int.natCast_mul]; congr 1; omega
   have hnS : n * (8 + S).toNat ≤ 4 * 40 := Nat.mul_le_mul (by omega) (by omega)
   rw [hn] at hW
   have hsn : ∀ s ∈ sizesB S n, 0 ≤ s := fun s hs => by rcases sizes_mem hs with rfl | rfl <;> omega
   obtain ⟨u1, u2⟩ := upto_two l3 n
   have u0 := upto_sizes l3 n (Nat.le_refl n)
   have hPA : (t.drop (n * (8 + S).toNat)).take 32 = part t (sizesB S n) n := by
    unfold part
    rw [u1, u0, List.drop_take]
    congr 1; omega
   have hPB : (t.drop (n * (8 + S).toNat + 32)).take 32 = part t (sizesB S n) (n + 1) := by
    unfold part
    rw [show n + 1 + 1 = n + 2 by rfl, u2, u1, List.drop_take]
    congr 1; omega
   have href := readB_ref hB h0 hl ((t.drop (n * (8 + S).toNat)).take 32) ((t.drop (n * (8 + S).toNat + 32)).take 32) (by rw [hn, Int.toNat_natCast, hPA]) (by rw [hn, Int.toNat_natCast, hPB])
   rw [href, hn, Int.toNat_natCast]
   refine bnd_to (y := ((n * (8 + S).toNat : Nat) : Int)) (by rw [wrapI] <;> simp only [Dat.sub] <;> omega) ?_
   refine bnd_to (y := ((n * (8 + S).toNat + 32 : Nat) : Int)) (by rw [wrapI] <;> simp only [Dat.sub] <;> omega) ?_
   refine bind_to (ref10_digest_spec t _ (by omega) (by omega)) ?_
   refine bind_to (ref10_digest_spec t _ (by omega) (by omega)) ?_
   generalize (t.drop (n * (8 + S).toNat)).take 32 = PA at *
   generalize (t.drop (n * (8 + S).toNat + 32)).take 32 = PB at *
   refine ite_some rfl ?_
   obtain ⟨Rr, hR⟩ : ∃ R, rdAll B S H W (slL S n t) [] = R := ⟨_, rfl⟩
   rw [hR]
   have hsl : (slL S n t).length = n := by simp [slL]
   refine loop_tail2 (fun i acc => ∃ j : Nat, i = (j : Int) ∧ j ≤ n ∧ acc.length ≤ j ∧ rdAll B S H W ((slL S n t).drop j) acc = Rr) (fun i _ => n - i.toNat) ?_ ⟨0, rfl, by omega, by simp, hR⟩ (mu_lt _ _ (by omega))
   rintro _ acc k ⟨j, rfl, hj, hal, hrd⟩ hk
   dsimp only
   by_cases hlt : j < n
   ·have hjs : j < (slL S n t).length := by omega
    have hdr : (slL S n t).drop j = (slL S n t)[j] :: (slL S n t).drop (j + 1) := List.drop_eq_getElem_cons hjs
    have hge : (slL S n t)[j] = part t (sizesB S n) j := by simp [slL]
    rw [hdr, hge] at hrd
    have hj1 : (j + 1) * (8 + S).toNat ≤ n * (8 + S).toNat := Nat.mul_le_mul_right _ hlt
    have hjm : ((j * (8 + S).toNat : Nat) : Int) = j * (8 + S) := by rw [Int.natCast_mul]; congr 1; omega
    have hjm1 : (((j + 1) * (8 + S).toNat : Nat) : Int) = ((j + 1 : Nat) : Int) * (8 + S) := by rw [Int.natCast_mul]; congr 1; omega
    have hjj : j * (8 + S).toNat ≤ (j + 1) * (8 + S).toNat := Nat.mul_le_mul_right _ (by omega)
    have w8 : Dat.wrap .i64 (Dat.add 8 S) = 8 + S := wrapI (by simp only [Dat.add]; omega)
    refine cond_t (decide_eq_true (by omega)) ?_
    refine bnd_to w8 ?_
    refine bnd_to (y := ((j * (8 + S).toNat : Nat) : Int)) (by rw [wrapI] <;> simp only [Dat.mul] <;> omega) ?_
    refine bnd_to (y := ((j + 1 : Nat) : Int)) (Dat.succ_i64 (by omega)) ?_
    refine bnd_to w8 ?_
    refine bnd_to (y := (((j + 1) * (8 + S).toNat : Nat) : Int)) (by rw [wrapI] <;> simp only [Dat.mul] <;> omega) ?_
    refine ite_some ⟨by omega, by simp only [Dat.len]; omega⟩ ?_
    refine ite_some ⟨by omega, by simp only [Dat.toN]; omega⟩ ?_
    refine bnd_to (y := part t (sizesB S n) j) (by
     unfold part
     rw [upto_sizes l3 n (by omega), upto_sizes l3 n (by omega)]
     simp only [Dat.slice, Dat.toN, Int.toNat_natCast]) ?_
    refine bind_to (ref09_Read_spec B S H W _ (isB_part hB j)) ?_
    unfold rdAll at hrd
    generalize readS B S H W (part t (sizesB S n) j) = rr at *
    obtain ⟨b, is, er⟩ := rr
    dsimp only at hrd ⊢
    by_cases he : er = 0
    ·rw [if_pos he] at hrd
     refine cond_f (by rw [he]; rfl) ?_
     cases is with
     | true =>
      rw [if_pos rfl] at hrd
      refine cond_t rfl ?_
      refine ite_some (by simp [Dat.Le, Dat.addN, Dat.len]) ?_
      refine ite_none (by simp only [Dat.Big, Dat.len, Dat.seg, List.drop_zero, List.length_take, List.length_cons, List.length_nil]; omega) ?_
      refine ite_some rfl ?_
      refine bnd_to (y := acc ++ [b]) rfl ?_
      refine bnd_to (y := ((j + 1 : Nat) : Int)) (Dat.succ_i64 (by omega)) ?_
      refine ite_some rfl ?_
      exact hk _ _ ⟨j + 1, rfl, hlt, by simp; omega, hrd⟩ (by show n - (((j + 1 : Nat) : Int)).toNat < n - ((j : Int)).toNat; omega)
     | false =>
      rw [if_neg (by decide)] at hrd
      refine cond_f rfl ?_
      refine bnd_to (y := ((j + 1 : Nat) : Int)) (Dat.succ_i64 (by omega)) ?_
      refine ite_some rfl ?_
      exact hk _ _ ⟨j + 1, rfl, hlt, by omega, hrd⟩ (by show n - (((j + 1 : Nat) : Int)).toNat < n - ((j : Int)).toNat; omega)
    ·rw [if_neg he] at hrd
     rw [← hrd]
     exact cond_t (by simp [Dat.ine, he]) rfl
   ·obtain rfl : j = n := by omega
    rw [List.drop_of_length_le (by omega)] at hrd
    simp only [rdAll] at hrd
    rw [← hrd]
    dsimp only
    refine cond_f (decide_eq_false (by omega)) ?_
    refine bind_to (ref10_May_spec B S H W acc _ _ (slots_lvl h0)) ?_
    have hbm := bchk_may B S H W acc h0
    cases hm : mayB B S H W acc with
    | false => exact cond_t rfl rfl
    | true =>
     rw [hm, if_pos rfl] at hbm
     refine cond_f rfl ?_
     refine bind_to (ref10_Of_spec B S H W acc _ _ hbm) ?_
     rw [hn, Int.toNat_natCast]
     refine bind_to (ref01_Same_spec _ _) ?_
     by_cases hst : Dat.str (slotsL S acc j ++ arr32 PA ++ arr32 PB) = Dat.str t
     ·rw [if_pos rfl, if_pos hst]
      refine cond_f ?_ rfl
      show Dat.pickB false true (Dat.bnot (decide (Dat.str (slotsL S acc j ++ arr32 (arr32 PA) ++ arr32 (arr32 PB)) = Dat.str t))) = false
      rw [arr32_twice, arr32_twice, decide_eq_true hst]; rfl
     ·rw [if_pos rfl, if_neg hst]
      refine cond_t ?_ rfl
      show Dat.pickB false true (Dat.bnot (decide (Dat.str (slotsL S acc j ++ arr32 (arr32 PA) ++ arr32 (arr32 PB)) = Dat.str t))) = true
      rw [arr32_twice, arr32_twice, decide_eq_false hst]; rfl
  ·unfold readB
   rw [if_pos h0, if_neg hl]
   exact cond_t (by simp [Dat.ine, Dat.ofN, Dat.len, hl]) rfl
 ·have hne : ¬ (slotsS B S H W).2 = 0 := by rw [h8]; decide
  rw [decide_eq_false hne]
  unfold readB
  rw [if_neg hne]
  exact cond_t rfl rfl
end Go.Proofs.Ythhjkmefpmmleaa
