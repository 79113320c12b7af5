/- Package num, and the document's answer. -/
import Derived.Test.YthhjkmefpmmleaaM6
import Derived.Test.YthhjkmefpmmleaaFns
namespace Go.Proofs.Ythhjkmefpmmleaa
open Go.Eng
set_option linter.unusedVariables false
set_option linter.unusedSimpArgs false
def okS (lo hi : Int) (l : List Int) : Bool := decide (l.length ≤ 64) && l.all (fun s => decide (lo ≤ s ∧ s ≤ hi)) && decide (l.sum ≤ 65536)
theorem sum_take_le {l : List Int} (h : ∀ s ∈ l, 0 ≤ s) (n : Nat) : (l.take n).sum ≤ l.sum := by
 have e := congrArg List.sum (List.take_append_drop n l)
 rw [List.sum_append] at e
 have h2 : ∀ l : List Int, (∀ s ∈ l, 0 ≤ s) → 0 ≤ l.sum := by
  intro l
  induction l with
  | nil => intro _; simp
  | cons a l ih => intro h; have h1 := h a (by simp); have h2 := ih fun s hs => h s (by simp [hs]); simp; omega
 have h3 := h2 (l.drop n) fun s hs => h s (List.mem_of_mem_drop hs)
 omega
theorem sum_take_succ (l : List Int) {n : Nat} (h : n < l.length) : (l.take (n + 1)).sum = (l.take n).sum + l[n] := by
 rw [List.take_succ_eq_append_getElem h, List.sum_append]; simp
theorem num_together_spec (l : List Int) (lo hi : Int) (h0 : 0 ≤ lo) (h1 : hi ≤ 65536) (hl : l.length < 9223372036854775807) : num_together (l, (lo, hi)) = some (if okS lo hi l then (l.sum, 0) else (0, 2)) := by
 unfold num_together
 simp only [Dat.ofN_eq, Dat.len_eq]
 by_cases hlen : l.length ≤ 64
 ·have : Dat.igt (l.length : Int) 64 = false := by simp [Dat.igt]; omega
  rw [this, cond_false]
  refine loop_inv (fun s => ∃ i : Nat, s.1 = (i : Int) ∧ i ≤ l.length ∧ (∀ x ∈ l.take i, lo ≤ x ∧ x ≤ hi) ∧ s.2 = (l.take i).sum ∧ (l.take i).sum ≤ 65536 ∧ 0 ≤ (l.take i).sum) (fun s => l.length - s.1.toNat) ?_ ⟨0, rfl, Nat.zero_le _, by simp, by simp, by simp, by simp⟩ (by simp; omega)
  rintro ⟨si, st⟩ k ⟨i, rfl, hi', hall, rfl, hsum, hsum0⟩ hk
  simp only [Dat.ilt_nat]
  by_cases hlt : i < l.length
  ·simp only [hlt, decide_true, cond_true, if_pos ((Dat.Ix_nat i l.length).2 hlt), Dat.bnd_eq, Dat.toN_nat, Dat.get_lt l 0 hlt]
   have hbad : ¬ (lo ≤ l[i] ∧ l[i] ≤ hi) → okS lo hi l = false := by
    intro hb
    have : l.all (fun s => decide (lo ≤ s ∧ s ≤ hi)) = false := by
     rw [List.all_eq_false]
     exact ⟨l[i], List.getElem_mem hlt, by simpa using hb⟩
    unfold okS; rw [this]; simp
   by_cases hlo : l[i] < lo
   ·simp only [Dat.ilt, hlo, decide_true, cond_true, Dat.bnot_eq, Bool.not_false]
    rw [hbad (by omega)]; rfl
   ·simp only [Dat.ilt, hlo, decide_false, cond_false, Dat.pick_ft, Dat.igt]
    by_cases hhi : l[i] > hi
    ·simp only [hhi, decide_true, cond_true, Dat.bnot_eq, Bool.not_false]
     rw [hbad (by omega)]; rfl
    ·simp only [hhi, decide_false, cond_false, Dat.add_eq]
     have hs := sum_take_succ l hlt
     rw [Dat.wrap_i64 (by omega) (by omega), ← hs]
     simp only [Dat.ile, Dat.bnot_eq]
     have hall' : ∀ x ∈ l.take (i + 1), lo ≤ x ∧ x ≤ hi := by
      intro x hx
      rw [List.take_succ_eq_append_getElem hlt, List.mem_append] at hx
      rcases hx with hx | hx
      ·exact hall x hx
      ·simp at hx; subst hx; omega
     by_cases hbig : (l.take (i + 1)).sum ≤ 65536
     ·simp only [hbig, decide_true, Bool.not_true, cond_false]
      rw [show (i : Int) + 1 = ((i + 1 : Nat) : Int) by omega, Dat.wrap_i64 (by omega) (by omega)]
      exact hk _ ⟨i + 1, rfl, hlt, hall', rfl, hbig, by omega⟩ (by simp; omega)
     ·simp only [hbig, decide_false, Bool.not_false, cond_true]
      have : okS lo hi l = false := by
       cases hok : okS lo hi l with
       | false => rfl
       | true =>
        simp only [okS, Bool.and_eq_true, decide_eq_true_eq, List.all_eq_true] at hok
        have := sum_take_le (l := l) (fun s hs => by have := hok.1.2 s hs; omega) (i + 1)
        omega
      rw [this]; rfl
  ·simp only [hlt, decide_false, cond_false]
   have e : l.take i = l := List.take_of_length_le (by omega)
   rw [e] at hall hsum ⊢
   have : okS lo hi l = true := by
    simp only [okS, Bool.and_eq_true, decide_eq_true_eq, List.all_eq_true]
    exact ⟨⟨hlen, hall⟩, hsum⟩
   rw [this]; rfl
 ·have : Dat.igt (l.length : Int) 64 = true := by simp [Dat.igt]; omega
  rw [this, cond_true]
  simp [okS, hlen]
theorem num_Size_spec (l : List Int) (hl : l.length < 9223372036854775807) : num_Size l = some (if okS 0 65536 l then (l.sum, 0) else (0, 2)) := by
 unfold num_Size
 rw [num_together_spec l 0 65536 (by omega) (by omega) hl]
 simp
theorem ref01_Total_spec (l : List Int) (hl : l.length < 9223372036854775807) : ref01_Total l = some (if okS 0 65536 l then l.sum else -1) := by
 unfold ref01_Total
 simp only [Dat.ofN_eq, Dat.len_eq]
 by_cases hlen : l.length ≤ 64
 ·have : Dat.igt (l.length : Int) 64 = false := by simp [Dat.igt]; omega
  rw [this, cond_false]
  refine loop_inv (fun s => ∃ i : Nat, s.2 = (i : Int) ∧ i ≤ l.length ∧ (∀ x ∈ l.take i, 0 ≤ x ∧ x ≤ 65536) ∧ s.1 = (l.take i).sum ∧ 0 ≤ (l.take i).sum ∧ (l.take i).sum ≤ 65536 * i) (fun s => l.length - s.2.toNat) ?_ ⟨0, rfl, Nat.zero_le _, by simp, by simp, by simp, by simp⟩ (by simp; omega)
  rintro ⟨st, si⟩ k ⟨i, rfl, hi', hall, rfl, hsum0, hsum⟩ hk
  simp only [Dat.ilt_nat]
  by_cases hlt : i < l.length
  ·simp only [hlt, decide_true, cond_true, if_pos ((Dat.Ix_nat i l.length).2 hlt), Dat.bnd_eq, Dat.toN_nat, Dat.get_lt l 0 hlt]
   have hbad : ¬ (0 ≤ l[i] ∧ l[i] ≤ 65536) → okS 0 65536 l = false := by
    intro hb
    have : l.all (fun s => decide (0 ≤ s ∧ s ≤ 65536)) = false := by
     rw [List.all_eq_false]
     exact ⟨l[i], List.getElem_mem hlt, by simpa using hb⟩
    unfold okS; rw [this]; simp
   by_cases hlo : l[i] < 0
   ·simp only [Dat.ilt, hlo, decide_true, cond_true]
    rw [hbad (by omega)]; rfl
   ·simp only [Dat.ilt, hlo, decide_false, cond_false, Dat.pick_ft, Dat.igt]
    by_cases hhi : l[i] > 65536
    ·simp only [hhi, decide_true, cond_true]
     rw [hbad (by omega)]; rfl
    ·simp only [hhi, decide_false, cond_false, Dat.add_eq]
     have hs := sum_take_succ l hlt
     rw [Dat.wrap_i64 (by omega) (by omega), ← hs]
     rw [show (i : Int) + 1 = ((i + 1 : Nat) : Int) by omega, Dat.wrap_i64 (by omega) (by omega)]
     have hall' : ∀ x ∈ l.take (i + 1), 0 ≤ x ∧ x ≤ 65536 := by
      intro x hx
      rw [List.take_succ_eq_append_getElem hlt, List.mem_append] at hx
      rcases hx with hx | hx
      ·exact hall x hx
      ·simp at hx; subst hx; omega
     exact hk _ ⟨i + 1, rfl, hlt, hall', rfl, by omega, by omega⟩ (by simp; omega)
  ·simp only [hlt, decide_false, cond_false, Dat.igt]
   have e : l.take i = l := List.take_of_length_le (by omega)
   rw [e] at hall hsum ⊢
   have hok : okS 0 65536 l = decide (l.sum ≤ 65536) := by
    have : l.all (fun s => decide (0 ≤ s ∧ s ≤ 65536)) = true := by
     rw [List.all_eq_true]; intro x hx; simpa using hall x hx
    unfold okS; rw [this]; simp [hlen]
   rw [hok]
   by_cases hb : l.sum ≤ 65536
   ·have : ¬ l.sum > 65536 := by omega
    simp [hb, this]
   ·have : l.sum > 65536 := by omega
    simp [hb, this]
 ·have : Dat.igt (l.length : Int) 64 = true := by simp [Dat.igt]; omega
  rw [this, cond_true]
  simp [okS, hlen]
theorem ok_num {l : List Int} (h : okS 1 8 l = true) : l.length ≤ 64 ∧ (∀ s ∈ l, 1 ≤ s ∧ s ≤ 8) ∧ l.sum ≤ 65536 := by
 simp only [okS, Bool.and_eq_true, decide_eq_true_eq, List.all_eq_true] at h
 exact ⟨h.1.1, h.1.2, h.2⟩
theorem ok_18 {l : List Int} (hall : ∀ x ∈ l, 1 ≤ x ∧ x ≤ 8) : okS 1 8 l = okS 0 65536 l := by
 have h1 : l.all (fun s => decide (1 ≤ s ∧ s ≤ 8)) = true := by rw [List.all_eq_true]; intro x hx; simpa using hall x hx
 have h2 : l.all (fun s => decide (0 ≤ s ∧ s ≤ 65536)) = true := by rw [List.all_eq_true]; intro x hx; have := hall x hx; simp; omega
 unfold okS; rw [h1, h2]
theorem ref01_numbers_spec (l : List Int) (hl : l.length < 9223372036854775807) : ref01_numbers l = some (okS 1 8 l) := by
 unfold ref01_numbers
 simp only [Dat.ofN_eq, Dat.len_eq]
 refine loop_inv (fun (s : Int) => ∃ i : Nat, s = i ∧ i ≤ l.length ∧ (∀ x ∈ l.take i, 1 ≤ x ∧ x ≤ 8)) (fun s => l.length - s.toNat) ?_ ⟨0, rfl, Nat.zero_le _, by simp⟩ (by simp; omega)
 rintro d k ⟨i, rfl, hi', hall⟩ hk
 simp only [Dat.ilt_nat]
 by_cases hlt : i < l.length
 ·simp only [hlt, decide_true, cond_true, if_pos ((Dat.Ix_nat i l.length).2 hlt), Dat.bnd_eq, Dat.toN_nat, Dat.get_lt l 0 hlt]
  have hbad : ¬ (1 ≤ l[i] ∧ l[i] ≤ 8) → okS 1 8 l = false := by
   intro hb
   have : l.all (fun s => decide (1 ≤ s ∧ s ≤ 8)) = false := by
    rw [List.all_eq_false]
    exact ⟨l[i], List.getElem_mem hlt, by simpa using hb⟩
   unfold okS; rw [this]; simp
  by_cases hlo : l[i] < 1
  ·simp only [Dat.ilt, hlo, decide_true, cond_true]
   rw [hbad (by omega)]
  ·simp only [Dat.ilt, hlo, decide_false, cond_false, Dat.pick_ft, Dat.igt]
   by_cases hhi : l[i] > 8
   ·simp only [hhi, decide_true, cond_true]
    rw [hbad (by omega)]
   ·simp only [hhi, decide_false, cond_false]
    rw [Dat.succ_i64 (by omega)]
    refine hk _ ⟨i + 1, rfl, hlt, ?_⟩ (by simp; omega)
    intro x hx
    rw [List.take_succ_eq_append_getElem hlt, List.mem_append] at hx
    rcases hx with hx | hx
    ·exact hall x hx
    ·simp at hx; subst hx; omega
 ·simp only [hlt, decide_false, cond_false]
  have e : l.take i = l := List.take_of_length_le (by omega)
  rw [e] at hall
  rw [ref01_Total_spec l hl, Dat.bind_some, ok_18 hall]
  cases hok : okS 0 65536 l with
  | false => simp [Dat.ige]
  | true =>
   simp only [okS, Bool.and_eq_true, decide_eq_true_eq, List.all_eq_true] at hok
   have h2 : 0 ≤ l.sum := by have := sum_take_le (l := l) (fun s hs => (hok.1.2 s hs).1) 0; simpa using this
   simp [Dat.ige, h2]
def digs (n : Int) (m : Nat) : List Int := (List.range m).map fun (j : Nat) => n / 256 ^ j % 256
theorem digs_succ (n : Int) (m : Nat) : digs n (m + 1) = digs n m ++ [n / 256 ^ m % 256] := by simp [digs, List.range_succ]
theorem digs_len (n : Int) (m : Nat) : (digs n m).length = m := by simp [digs]
theorem pow8 (j : Nat) : (2 : Int) ^ (8 * j) = 256 ^ j := by
 rw [Int.pow_mul]; rfl
theorem ref01_Digits_spec (n size : Int) (h0 : 0 ≤ n) (h1 : n < 18446744073709551616) (hs : 1 ≤ size) (hs8 : size ≤ 8) : ref01_Digits (n, size) = some (digs n size.toNat, decide (n / 256 ^ size.toNat = 0)) := by
 unfold ref01_Digits
 rw [if_pos (show Dat.EqN 0 (Dat.len ([] : List Int)) from rfl)]
 refine loop_inv (fun s => ∃ i : Nat, s.2.2 = (i : Int) ∧ (i : Int) ≤ size ∧ s.1 = digs n i ∧ s.2.1 = n / 256 ^ i) (fun s => (size - s.2.2).toNat) ?_ ⟨0, rfl, by omega, by simp [digs], by simp⟩ (by simp; omega)
 rintro ⟨so, sn, si⟩ k ⟨i, rfl, hi, rfl, rfl⟩ hk
 have hp : (0 : Int) < 256 ^ i := Int.pow_pos (by omega)
 have hn0 : 0 ≤ n / 256 ^ i := Int.ediv_nonneg h0 (by omega)
 have hn1 : n / 256 ^ i ≤ n := Int.ediv_le_self _ h0
 simp only [Dat.ilt]
 by_cases hlt : (i : Int) < size
 ·have hz : ¬ Dat.IsZ 256 := by decide
  simp only [hlt, decide_true, cond_true, if_neg hz, Dat.bnd_eq, Dat.tmod, Dat.tdiv]
  rw [Int.tmod_eq_emod_of_nonneg hn0, Dat.wrap_u8, Int.emod_emod_of_dvd _ (Int.dvd_refl _)]
  rw [if_pos (show Dat.Le (Dat.addN 0 1) (Dat.len [n / 256 ^ i % 256]) from Nat.le_refl _)]
  have hseg : Dat.seg [n / 256 ^ i % 256] 0 1 = [n / 256 ^ i % 256] := rfl
  rw [hseg]
  have hbig : ¬ Dat.Big (Dat.len (digs n i)) (Dat.len [n / 256 ^ i % 256]) 1 := by
   show ¬ (2 ^ 44 < ((digs n i).length + 1) * (1 + 1)); rw [digs_len]; omega
  rw [if_neg hbig]
  simp only [Dat.EqN, if_true, Dat.app_eq]
  rw [Int.tdiv_eq_ediv_of_nonneg hn0, Dat.wrap_u64_id (by omega) (by omega), Dat.succ_i64 (by omega)]
  refine hk _ ⟨i + 1, rfl, by omega, (digs_succ n i).symm, ?_⟩ (by simp; omega)
  simp only []
  rw [Int.ediv_ediv_of_nonneg (by omega), ← Int.pow_succ]
 ·have e : size.toNat = i := by omega
  simp only [hlt, decide_false, cond_false, e, Dat.ieq]
  rfl
end Go.Proofs.Ythhjkmefpmmleaa
