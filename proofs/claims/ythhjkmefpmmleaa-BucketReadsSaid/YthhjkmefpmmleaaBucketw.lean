/- Buckets: whether one may be, its text, whether two are the same, by the document. -/
import Derived.Test.YthhjkmefpmmleaaBucket
import Derived.Test.YthhjkmefpmmleaaNestblk
import Derived.Test.YthhjkmefpmmleaaSeg
namespace Go.Proofs.Ythhjkmefpmmleaa
open Go.Eng
set_option linter.unusedVariables false
set_option linter.unusedSimpArgs false
def sameB (x y : Blk) : Bool := sameS x.1 x.2.1 x.2.2.1 y.1 y.2.1 y.2.2.1
def sameBs : List Blk → List Blk → Bool
 | [], [] => true
 | x :: a, y :: b => sameB x y && sameBs a b
 | _, _ => false
theorem sameBs_self : ∀ a : List Blk, sameBs a a = true
 | [] => rfl
 | x :: a => by simp [sameBs, sameB, sameS_self, sameBs_self a]
theorem sameBs_len : ∀ {a b : List Blk}, a.length ≠ b.length → sameBs a b = false
 | [], [], h => absurd rfl h
 | x :: a, y :: b, h => by
  simp only [sameBs, sameBs_len (a := a) (b := b) (by simpa using h), Bool.and_false]
 | [], _ :: _, _ => rfl
 | _ :: _, [], _ => rfl
theorem ref09_SameAll_spec (a b : List Blk) (ha : a.length < 4611686018427387904) : ref09_SameAll (a, b) = some (sameBs a b) := by
 unfold ref09_SameAll
 dsimp only
 by_cases hab : a.length = b.length
 ·refine cond_f (by simp [Dat.ine, Dat.ofN, Dat.len, hab]) ?_
  refine loop_inv (fun (s : Int) => ∃ i : Nat, s = i ∧ i ≤ a.length ∧ sameBs (a.drop i) (b.drop i) = sameBs a b) (fun s => a.length - s.toNat) ?_ ⟨0, rfl, Nat.zero_le _, rfl⟩ (mu_lt _ _ (by omega))
  rintro d k ⟨i, rfl, hi, hs⟩ hk
  by_cases h1 : i < a.length
  ·have h2 : i < b.length := by omega
   rw [List.drop_eq_getElem_cons h1, List.drop_eq_getElem_cons h2] at hs
   refine cond_t (decide_eq_true (by simp only [Dat.ofN, Dat.len]; omega)) ?_
   refine ite_some ⟨by omega, by simp only [Dat.len]; omega⟩ ?_
   refine bnd_to (bget a h1) ?_
   refine ite_some ⟨by omega, by simp only [Dat.len]; omega⟩ ?_
   refine bnd_to (bget b h2) ?_
   generalize a[i] = x at *
   generalize b[i] = y at *
   obtain ⟨x1, x2, x3, _⟩ := x
   obtain ⟨y1, y2, y3, _⟩ := y
   refine bind_to (ref09_Same_spec x1 x2 x3 y1 y2 y3) ?_
   cases hsm : sameS x1 x2 x3 y1 y2 y3 with
   | false =>
    refine cond_t rfl ?_
    rw [← hs]
    simp [sameBs, sameB, hsm]
   | true =>
    refine cond_f rfl ?_
    refine bnd_to (wrapI (by simp only [Dat.add]; omega)) ?_
    refine hk _ ⟨i + 1, by simp, h1, ?_⟩ (by show a.length - ((i : Int) + 1).toNat < a.length - ((i : Int)).toNat; omega)
    rw [← hs]
    simp [sameBs, sameB, hsm]
  ·have h0 : i = a.length := by omega
   subst h0
   rw [List.drop_length, hab, List.drop_length] at hs
   refine cond_f (decide_eq_false (by simp only [Dat.ofN, Dat.len]; omega)) ?_
   rw [← hs]; rfl
 ·exact cond_t (by simp [Dat.ine, Dat.ofN, Dat.len]; omega) (by rw [sameBs_len hab])
def mayB (B S H W : Int) (l : List Blk) : Bool := decide ((l.length : Int) ≤ (slotsS B S H W).1) && (l.all fun b => blkOk B S H b.1 b.2.1 b.2.2.1) && decide (idsL l).Nodup
theorem ref10_May_spec (B S H W : Int) (l : List Blk) (L R : List Int) (hlv : lvlOk B S H = true) : ref10_May ((B, S, H, W, ()), (l, L, R, ())) = some (mayB B S H W l) := by
 unfold ref10_May mayB
 dsimp only
 refine bind_to (ref09_Many_spec B S H W) ?_
 have hm4 := many_le B S H W
 by_cases hl : (l.length : Int) > (slotsS B S H W).1
 ·rw [decide_eq_false (show ¬ (l.length : Int) ≤ (slotsS B S H W).1 by omega)]
  exact cond_t (decide_eq_true hl) rfl
 ·rw [decide_eq_true (show (l.length : Int) ≤ (slotsS B S H W).1 by omega), Bool.true_and]
  refine cond_f (decide_eq_false hl) ?_
  refine loop_inv (fun (s : Int) => ∃ i : Nat, s = i ∧ i ≤ l.length ∧ ((l.take i).all fun b => blkOk B S H b.1 b.2.1 b.2.2.1) = true ∧ (idsL (l.take i)).Nodup) (fun s => l.length - s.toNat) ?_ ⟨0, rfl, Nat.zero_le _, by simp, by simp [idsL]⟩ (mu_lt _ _ (by omega))
  rintro d k ⟨i, rfl, hi, hall, hnd⟩ hk
  by_cases h1 : i < l.length
  ·have htk : l.take (i + 1) = l.take i ++ [l[i]] := List.take_succ_eq_append_getElem h1
   have hids : idsL (l.take (i + 1)) = idsL (l.take i) ++ [l[i].1] := by unfold idsL; rw [htk, List.map_append]; rfl
   refine cond_t (decide_eq_true (by simp only [Dat.ofN, Dat.len]; omega)) ?_
   refine ite_some ⟨by omega, by simp only [Dat.len]; omega⟩ ?_
   refine bnd_to (bget l h1) ?_
   have hmay := ref09_May_spec B S H W l[i].1 l[i].2.1 l[i].2.2.1 hlv
   refine bind_to hmay ?_
   cases hb : blkOk B S H l[i].1 l[i].2.1 l[i].2.2.1 with
   | false =>
    refine cond_t rfl ?_
    have : (l.all fun b => blkOk B S H b.1 b.2.1 b.2.2.1) = false := by
     rw [List.all_eq_false]
     exact ⟨l[i], List.getElem_mem h1, by rw [hb]; decide⟩
    rw [this]; rfl
   | true =>
    refine cond_f rfl ?_
    have hk' : (l[i].1 ∉ idsL (l.take i)) → k ((i + 1 : Nat) : Int) = some ((l.all fun b => blkOk B S H b.1 b.2.1 b.2.2.1) && decide (idsL l).Nodup) := fun hn => by
     refine hk _ ⟨i + 1, rfl, h1, ?_, ?_⟩ (by show l.length - (((i + 1 : Nat) : Int)).toNat < l.length - ((i : Int)).toNat; omega)
     ·rw [htk, List.all_append, hall]; simp [hb]
     ·rw [hids, List.nodup_append]
      exact ⟨hnd, by simp, fun a ha b hb e => by simp at hb; subst hb; subst e; exact hn ha⟩
    refine loop_inv (fun (s : Int) => ∃ q : Nat, s = q ∧ q ≤ i ∧ l[i].1 ∉ idsL (l.take q)) (fun s => i - s.toNat) ?_ ⟨0, rfl, Nat.zero_le _, by simp [idsL]⟩ (mu_lt _ _ (by omega))
    rintro d k2 ⟨q, rfl, hq, hnq⟩ hk2
    by_cases h2 : q < i
    ·have hql : q < l.length := by omega
     have hids2 : idsL (l.take (q + 1)) = idsL (l.take q) ++ [l[q].1] := by unfold idsL; rw [List.take_succ_eq_append_getElem hql, List.map_append]; rfl
     refine cond_t (decide_eq_true (by omega)) ?_
     refine ite_some ⟨by omega, by simp only [Dat.len]; omega⟩ ?_
     refine bnd_to (bget l hql) ?_
     refine ite_some ⟨by omega, by simp only [Dat.len]; omega⟩ ?_
     refine bnd_to (bget l h1) ?_
     by_cases he : l[q].1 = l[i].1
     ·refine cond_t (by simp [Dat.ieq, he]) ?_
      have hnn : ¬ (idsL l).Nodup := by
       intro hn
       have hlen : (idsL l).length = l.length := by simp [idsL]
       have := (List.getElem?_inj (i := q) (j := i) (by omega) hn).1 (by
        unfold idsL
        rw [List.getElem?_map, List.getElem?_map, List.getElem?_eq_getElem hql, List.getElem?_eq_getElem h1]
        simp [he])
       omega
      rw [decide_eq_false hnn, Bool.and_false]
     ·refine cond_f (by simp [Dat.ieq, he]) ?_
      refine bnd_to (wrapI (by simp only [Dat.add]; omega)) ?_
      refine hk2 _ ⟨q + 1, by simp, h2, ?_⟩ (by show i - ((q : Int) + 1).toNat < i - ((q : Int)).toNat; omega)
      rw [hids2]
      simp only [List.mem_append, List.mem_singleton, not_or]
      exact ⟨hnq, fun h => he h.symm⟩
    ·obtain rfl : q = i := by omega
     refine cond_f (decide_eq_false (by omega)) ?_
     refine bnd_to (y := ((q + 1 : Nat) : Int)) (Dat.succ_i64 (by omega)) ?_
     exact hk' hnq
  ·obtain rfl : i = l.length := by omega
   rw [List.take_length] at hall hnd
   rw [hall, decide_eq_true hnd]
   exact cond_f (decide_eq_false (by simp only [Dat.ofN, Dat.len]; omega)) rfl
theorem bchk_may (B S H W : Int) (l : List Blk) (h0 : (slotsS B S H W).2 = 0) : bchk B S H W l = if mayB B S H W l = true then 0 else 8 := by
 unfold bchk mayB
 rw [if_pos h0]
 have hall : l.all (bOk B S H W) = l.all fun b => blkOk B S H b.1 b.2.1 b.2.2.1 := by
  congr 1
  funext b
  unfold bOk checkS
  rw [if_pos h0]
  cases blkOk B S H b.1 b.2.1 b.2.2.1 <;> rfl
 by_cases hl : (l.length : Int) > (slotsS B S H W).1
 ·rw [if_pos hl, decide_eq_false (show ¬ (l.length : Int) ≤ (slotsS B S H W).1 by omega)]; rfl
 ·rw [if_neg hl, decide_eq_true (show (l.length : Int) ≤ (slotsS B S H W).1 by omega), Bool.true_and, hall]
  simp only [Bool.and_eq_true, decide_eq_true_eq]
theorem ref10_Of_spec (B S H W : Int) (l : List Blk) (L R : List Int) (h0 : bchk B S H W l = 0) : ref10_Of ((B, S, H, W, ()), (l, L, R, ())) = some (slotsL S l (slotsS B S H W).1.toNat ++ arr32 L ++ arr32 R) := by
 unfold ref10_Of
 dsimp only
 obtain ⟨hs, hlen, hb, hnd⟩ := bchk_ok h0
 obtain ⟨l1, l2, l3, l4, l5, l6⟩ := lvl_iff.1 (slots_lvl hs)
 have hm4 := many_le B S H W
 have hp := pow2_64 l5
 refine ite_some rfl ?_
 generalize hmm : (slotsS B S H W).1 = m at *
 refine loop_inv (fun (s : List Int × Int) => ∃ t : Nat, (t : Int) ≤ m ∧ s = (slotsL S l t, (t : Int))) (fun s => m.toNat - s.2.toNat) ?_ ⟨0, by omega, rfl⟩ (by show m.toNat - _ < _; omega)
 rintro s k ⟨t, ht, rfl⟩ hk
 dsimp only
 refine bind_to (y := m) (by rw [ref09_Many_spec, hmm]) ?_
 have hsl := slotsL_len h0 t
 have hsl2 : (slotsL S l t).length ≤ 1000 := by
  have : t * (8 + S).toNat ≤ 4 * 40 := Nat.mul_le_mul (by omega) (by omega)
  omega
 have hat := slotAt_len h0 t
 by_cases hlt : (t : Int) < m
 ·have hk1 : k (slotsL S l (t + 1), ((t + 1 : Nat) : Int)) = some (slotsL S l m.toNat ++ arr32 L ++ arr32 R) :=
   hk _ ⟨t + 1, by omega, rfl⟩ (by show m.toNat - (((t + 1 : Nat) : Int)).toNat < m.toNat - ((t : Int)).toNat; omega)
  refine cond_t (decide_eq_true hlt) ?_
  by_cases hin : t < l.length
  ·refine cond_t (decide_eq_true (by simp only [Dat.ofN, Dat.len]; omega)) ?_
   refine ite_some ⟨by omega, by simp only [Dat.len]; omega⟩ ?_
   refine bnd_to (bget l hin) ?_
   have hbt := hb _ (List.getElem_mem hin)
   have hsa : slotAt S l t = slotW l[t].1 l[t].2.1 l[t].2.2.1 := by unfold slotAt; rw [List.getElem?_eq_getElem hin]
   generalize l[t] = b at *
   obtain ⟨bi, bf, bd, _⟩ := b
   have hck := check_ok hbt
   dsimp only at hck hsa
   refine bind_to (y := slotW bi bf bd) (ref09_Of_spec bi bf bd (by omega) (by omega) (by omega) (by omega) (by omega)) ?_
   rw [← hsa]
   refine app_one (by omega) (by omega) (slotsL_succ S l t).symm ?_
   refine bnd_to (y := ((t + 1 : Nat) : Int)) (Dat.succ_i64 (by omega)) ?_
   exact ite_some rfl hk1
  ·refine cond_f (decide_eq_false (by simp only [Dat.ofN, Dat.len]; omega)) ?_
   have hsa : slotAt S l t = List.replicate (8 + S).toNat 0 := by unfold slotAt; rw [List.getElem?_eq_none (by omega)]
   refine bnd_to (wrapI (x := Dat.add 8 S) (by simp only [Dat.add]; omega)) ?_
   refine ite_some (Dat.ZOk_iff.2 (by simp only [Dat.add]; omega)) ?_
   refine bnd_to (y := slotAt S l t) (by rw [hsa]) ?_
   refine app_one (by omega) (by omega) (slotsL_succ S l t).symm ?_
   refine bnd_to (y := ((t + 1 : Nat) : Int)) (Dat.succ_i64 (by omega)) ?_
   exact ite_some rfl hk1
 ·obtain rfl : m = (t : Int) := by omega
  refine cond_f (decide_eq_false hlt) ?_
  refine app_one (y := slotsL S l t ++ arr32 L) (by omega) (by simp) rfl ?_
  refine app_one (y := slotsL S l t ++ arr32 L ++ arr32 R) (by rw [List.length_append, arr32_len]; omega) (by simp) rfl ?_
  rfl
end Go.Proofs.Ythhjkmefpmmleaa
