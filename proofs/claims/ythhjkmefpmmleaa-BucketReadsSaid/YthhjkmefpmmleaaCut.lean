/- Bytes' parts. -/
import Derived.Test.YthhjkmefpmmleaaNum
namespace Go.Proofs.Ythhjkmefpmmleaa
open Go.Eng
set_option linter.unusedVariables false
set_option linter.unusedSimpArgs false
theorem clone_spec (b : List Int) (h : b.length < 1099511627776) : slices_Clone_byte_byte b = some b := by
  unfold slices_Clone_byte_byte
  have e : Dat.seg ([] : List Int) 0 0 = [] := rfl
  have hb : ¬ Dat.Big (Dat.len (Dat.seg ([] : List Int) 0 0)) (Dat.len b) 1 := by
    rw [e]
    show ¬ (2 ^ 44 < (([] : List Int).length + b.length) * (1 + 1))
    simp only [List.length_nil]; omega
  have hle : Dat.Le (Dat.addN 0 0) (Dat.len ([] : List Int)) := Nat.le_refl _
  have ha : Dat.app ([] : List Int) b = b := rfl
  have hle2 : Dat.Le (Dat.addN 0 (Dat.len b)) (Dat.len b) := by show 0 + b.length ≤ b.length; omega
  have hsg : Dat.seg b 0 (Dat.len b) = b := by show (b.drop 0).take b.length = b; rw [List.drop_zero, List.take_length]
  rw [if_pos hle]
  first
  | (by_cases h0 : Dat.EqN (Dat.len b) 0
     · have hn : b = [] := List.length_eq_zero_iff.1 h0
       rw [if_pos h0, if_pos hle, e, hn]
     · rw [if_neg h0, if_neg hb, e, ha, Dat.bnd_eq, if_pos hle2, hsg]
     done)
  | (rw [if_neg hb, e]; rfl)
def upto (sizes : List Int) (i : Nat) : Nat := (sizes.take i).sum.toNat
def part (b sizes : List Int) (i : Nat) : List Int := (b.take (upto sizes (i + 1))).drop (upto sizes i)
def parts (b sizes : List Int) : List (List Int) := (List.range sizes.length).map (part b sizes)
def cutS (b sizes : List Int) : List (List Int) × Int := if okS 0 65536 sizes then (if (b.length : Int) = sizes.sum then (parts b sizes, 0) else ([], 10)) else ([], 2)
theorem ok_cut {l : List Int} (h : okS 0 65536 l = true) : l.length ≤ 64 ∧ (∀ s ∈ l, 0 ≤ s ∧ s ≤ 65536) ∧ l.sum ≤ 65536 := by
 simp only [okS, Bool.and_eq_true, decide_eq_true_eq, List.all_eq_true] at h
 exact ⟨h.1.1, h.1.2, h.2⟩
theorem sum_take_nonneg {l : List Int} (h : ∀ s ∈ l, 0 ≤ s) (n : Nat) : 0 ≤ (l.take n).sum := by
 have := sum_take_le (l := l.take n) (fun s hs => h s (List.mem_of_mem_take hs)) 0
 simpa using this
theorem upto_eq {l : List Int} (h : ∀ s ∈ l, 0 ≤ s) (n : Nat) : ((upto l n : Nat) : Int) = (l.take n).sum := by
 have := sum_take_nonneg h n
 unfold upto; omega
theorem upto_succ {l : List Int} (h : ∀ s ∈ l, 0 ≤ s) {n : Nat} (hn : n < l.length) : ((upto l (n + 1) : Nat) : Int) = upto l n + l[n] := by
 rw [upto_eq h, upto_eq h, sum_take_succ l hn]
theorem num_Cut_spec (b sizes : List Int) (hs : sizes.length < 9223372036854775807) : num_Cut (b, sizes) = some (cutS b sizes) := by
 unfold num_Cut cutS
 simp only
 rw [num_Size_spec sizes hs, Dat.bind_some]
 cases hok : okS 0 65536 sizes with
 | false => simp [Dat.ine]
 | true =>
  obtain ⟨hlen, hall, hsum⟩ := ok_cut hok
  have hall0 : ∀ s ∈ sizes, 0 ≤ s := fun s h => (hall s h).1
  simp only [if_true, Dat.ine, bne_self_eq_false, cond_false, Dat.ofN_eq, Dat.len_eq]
  by_cases he : (b.length : Int) = sizes.sum
  ·have e1 : ((b.length : Int) != sizes.sum) = false := by simp [he]
   rw [e1, cond_false, if_pos he, clone_spec b (by omega), Dat.bind_some]
   rw [if_pos (show Dat.MkOk (sizes.length : Int) (sizes.length : Int) 24 from Dat.MkOk_iff.2 ⟨by omega, by omega, by omega, by omega⟩)]
   simp only [Dat.toN_nat]
   refine loop_inv (fun (s : Int × (Int × List (List Int))) => ∃ i : Nat, s.2.1 = (i : Int) ∧ i ≤ sizes.length ∧ s.1 = (upto sizes i : Nat) ∧ s.2.2.length = sizes.length ∧ ∀ k : Nat, k < i → s.2.2[k]? = some (part b sizes k)) (fun s => sizes.length - s.2.1.toNat) ?_ ⟨0, rfl, Nat.zero_le _, by simp [upto], by simp [Dat.rep], by omega⟩ (by simp; omega)
   rintro ⟨sa, si, so⟩ k ⟨i, rfl, hi, rfl, hol, hparts⟩ hk
   replace hol : so.length = sizes.length := hol
   replace hparts : ∀ k : Nat, k < i → so[k]? = some (part b sizes k) := hparts
   simp only [Dat.ilt_nat]
   by_cases hlt : i < sizes.length
   ·have hu := upto_succ hall0 hlt
    have hle : ((upto sizes (i + 1) : Nat) : Int) ≤ sizes.sum := by rw [upto_eq hall0]; exact sum_take_le hall0 _
    have h0 := (hall sizes[i] (List.getElem_mem hlt))
    have w : Dat.wrap .i64 (Dat.add ((upto sizes i : Nat) : Int) sizes[i]) = ((upto sizes (i + 1) : Nat) : Int) := by
     rw [Dat.wrap_i64] <;> simp only [Dat.add_eq] <;> omega
    simp only [hlt, decide_true, cond_true, if_pos ((Dat.Ix_nat i sizes.length).2 hlt), Dat.bnd_eq, Dat.toN_nat, Dat.get_lt sizes 0 hlt, w]
    rw [if_pos (show Dat.Bd ((upto sizes (i + 1) : Nat) : Int) b.length from ⟨by omega, by omega⟩), if_pos (show Dat.Bd ((upto sizes (i + 1) : Nat) : Int) (upto sizes (i + 1)) from ⟨by omega, by omega⟩),
     if_pos (show Dat.Bd ((upto sizes i : Nat) : Int) (upto sizes (i + 1)) from ⟨by omega, by omega⟩)]
    rw [if_pos (show Dat.In (i : Int) sizes.length from ⟨by omega, by omega⟩)]
    have e0 : Dat.addN 0 i = i := Nat.zero_add i
    rw [e0, if_pos (show Dat.Lt i so.length by show i < so.length; omega), Dat.succ_i64 (by omega)]
    refine hk (((upto sizes (i + 1) : Nat) : Int), (((i + 1 : Nat) : Int), so.set i (part b sizes i))) ⟨i + 1, rfl, hlt, rfl, by rw [List.length_set]; exact hol, ?_⟩ (by show sizes.length - ((i + 1 : Nat) : Int).toNat < sizes.length - (i : Int).toNat; omega)
    intro k' hk'
    show (so.set i (part b sizes i))[k']? = _
    by_cases hki : k' = i
    ·subst hki; rw [List.getElem?_set_self (by omega)]
    ·rw [List.getElem?_set_ne (by omega)]; exact hparts k' (by omega)
   ·have ei : i = sizes.length := by omega
    have eo : so = parts b sizes := by
     apply List.ext_getElem?
     intro j
     by_cases hj : j < sizes.length
     ·rw [hparts j (by omega)]; simp [parts, hj]
     ·rw [List.getElem?_eq_none (by omega), List.getElem?_eq_none (by simp [parts]; omega)]
    have es : Dat.seg so 0 sizes.length = so := by show (so.drop 0).take sizes.length = so; rw [List.drop_zero, ← hol, List.take_length]
    simp only [hlt, decide_false, cond_false]
    have e0 : Dat.addN 0 sizes.length = sizes.length := Nat.zero_add _
    rw [e0, if_pos (show Dat.Le sizes.length so.length by show sizes.length ≤ so.length; omega), es, eo]
  ·have e1 : ((b.length : Int) != sizes.sum) = true := by simp [he]
   rw [e1, cond_true, if_neg he]
theorem part_len {b sizes : List Int} (h : ∀ s ∈ sizes, 0 ≤ s) (hb : (b.length : Int) = sizes.sum) {i : Nat} (hi : i < sizes.length) : ((part b sizes i).length : Int) = sizes[i] := by
 have hu := upto_succ h hi
 have hle : ((upto sizes (i + 1) : Nat) : Int) ≤ sizes.sum := by rw [upto_eq h]; exact sum_take_le h _
 have h0 := h sizes[i] (List.getElem_mem hi)
 unfold part
 rw [List.length_drop, List.length_take]
 omega
theorem part_grow {b sizes : List Int} (h : ∀ s ∈ sizes, 0 ≤ s) {i : Nat} (hi : i < sizes.length) : b.take (upto sizes i) ++ part b sizes i = b.take (upto sizes (i + 1)) := by
 have hu := upto_succ h hi
 have h0 := h sizes[i] (List.getElem_mem hi)
 have e : b.take (upto sizes i) = (b.take (upto sizes (i + 1))).take (upto sizes i) := by rw [List.take_take]; congr 1; omega
 unfold part
 rw [e, List.take_append_drop]
end Go.Proofs.Ythhjkmefpmmleaa
