/- Numbers put into bytes. -/
import Derived.Test.YthhjkmefpmmleaaNum
namespace Go.Proofs.Ythhjkmefpmmleaa
open Go.Eng
set_option linter.unusedVariables false
set_option linter.unusedSimpArgs false
def putB (zs : List (Int × Int)) : List Int := zs.flatMap fun p => digs p.1 p.2.toNat
def fitsAll (zs : List (Int × Int)) : Bool := zs.all fun p => decide (p.1 / 256 ^ p.2.toNat = 0)
def putS (l sizes : List Int) : List Int × Int :=
 if okS 1 8 sizes = false then ([], 2) else if l.length ≠ sizes.length then ([], 2) else if fitsAll (l.zip sizes) then (putB (l.zip sizes), 0) else ([], 4)
theorem putB_len {zs : List (Int × Int)} (h : ∀ p ∈ zs, p.2 ≤ 8) : (putB zs).length ≤ 8 * zs.length := by
 induction zs with
 | nil => simp [putB]
 | cons p zs ih =>
  have h1 := h p (by simp)
  have h2 := ih fun q hq => h q (by simp [hq])
  simp only [putB, List.flatMap_cons, List.length_append, digs_len, List.length_cons] at h2 ⊢
  omega
theorem putB_succ {zs : List (Int × Int)} {i : Nat} (h : i < zs.length) : putB (zs.take (i + 1)) = putB (zs.take i) ++ digs zs[i].1 zs[i].2.toNat := by
 unfold putB
 rw [List.take_succ_eq_append_getElem h, List.flatMap_append]; simp
theorem fits_bad {zs : List (Int × Int)} {i : Nat} (h : i < zs.length) (hb : ¬ zs[i].1 / 256 ^ zs[i].2.toNat = 0) : fitsAll zs = false := by
 unfold fitsAll
 rw [List.all_eq_false]
 exact ⟨zs[i], List.getElem_mem h, by simpa using hb⟩
theorem fits_good {zs : List (Int × Int)} (h : ∀ p ∈ zs, p.1 / 256 ^ p.2.toNat = 0) : fitsAll zs = true := by
 unfold fitsAll
 rw [List.all_eq_true]
 intro p hp
 simpa using h p hp
theorem mem_take_succ {α : Type} {zs : List α} {i : Nat} (h : i < zs.length) {Q : α → Prop} (h1 : ∀ p ∈ zs.take i, Q p) (h2 : Q zs[i]) : ∀ p ∈ zs.take (i + 1), Q p := by
 intro p hp
 rw [List.take_succ_eq_append_getElem h, List.mem_append] at hp
 rcases hp with hp | hp
 ·exact h1 p hp
 ·simp at hp; subst hp; exact h2
theorem ref01_Put_spec (l sizes : List Int) (hl : l.length < 9223372036854775807) (hs : sizes.length < 9223372036854775807) (hr : ∀ n ∈ l, 0 ≤ n ∧ n < 18446744073709551616) : ref01_Put (l, sizes) = some (putS l sizes) := by
 unfold ref01_Put putS
 simp only
 rw [ref01_numbers_spec sizes hs, Dat.bind_some]
 cases hok : okS 1 8 sizes with
 | false => simp
 | true =>
  obtain ⟨hlen, hall, hsum⟩ := ok_num hok
  simp only [Dat.bnot_eq, Bool.not_true, cond_false, Dat.pick_ft, Dat.ine, Dat.ofN_eq, Dat.len_eq, Bool.true_eq_false, if_false]
  by_cases he : l.length = sizes.length
  ·have e1 : ((l.length : Int) != (sizes.length : Int)) = false := by simp [he]
   rw [e1, cond_false, if_pos (show Dat.EqN 0 (([] : List Int).length) from rfl)]
   have hzl : (l.zip sizes).length = sizes.length := by simp [he]
   have hne : ¬ (l.length ≠ sizes.length) := by simp [he]
   rw [if_neg hne]
   refine loop_inv (fun s => ∃ i : Nat, s.2 = (i : Int) ∧ i ≤ sizes.length ∧ s.1 = putB ((l.zip sizes).take i) ∧ ∀ p ∈ (l.zip sizes).take i, p.1 / 256 ^ p.2.toNat = 0) (fun s => sizes.length - s.2.toNat) ?_ ⟨0, rfl, Nat.zero_le _, by simp [putB], by simp⟩ (by simp; omega)
   rintro ⟨so, si⟩ k ⟨i, rfl, hi, rfl, hfit⟩ hk
   simp only [Dat.ilt_nat]
   by_cases hlt' : i < l.length
   ·have hlt : i < sizes.length := by omega
    have hz : i < (l.zip sizes).length := by omega
    have hzi : (l.zip sizes)[i] = (l[i], sizes[i]) := by simp
    simp only [hlt', decide_true, cond_true, if_pos ((Dat.Ix_nat i sizes.length).2 hlt), if_pos ((Dat.Ix_nat i l.length).2 hlt'), Dat.bnd_eq, Dat.toN_nat, Dat.get_lt sizes 0 hlt, Dat.get_lt l 0 hlt']
    have hsz := hall sizes[i] (List.getElem_mem hlt)
    have hn := hr l[i] (List.getElem_mem hlt')
    rw [ref01_Digits_spec _ _ hn.1 hn.2 hsz.1 hsz.2, Dat.bind_some]
    by_cases hf : l[i] / 256 ^ sizes[i].toNat = 0
    ·simp only [hf, decide_true, Dat.bnot_eq, Bool.not_true, cond_false]
     have hbase : (putB ((l.zip sizes).take i)).length ≤ 512 := by
      have := putB_len (zs := (l.zip sizes).take i) (by
       intro p hp
       have := List.mem_of_mem_take hp
       exact (hall p.2 (List.of_mem_zip this).2).2)
      rw [List.length_take] at this
      omega
     have hbig : ¬ Dat.Big ((putB ((l.zip sizes).take i)).length) ((digs l[i] sizes[i].toNat).length) 1 := by
      show ¬ (2 ^ 44 < (_ + _) * (1 + 1))
      rw [digs_len]; omega
     rw [if_neg hbig]
     simp only [Dat.EqN, if_true, Dat.app_eq]
     rw [Dat.succ_i64 (by omega)]
     refine hk _ ⟨i + 1, rfl, hlt, ?_, ?_⟩ (by simp; omega)
     ·rw [putB_succ hz, hzi]
     ·exact mem_take_succ hz hfit (by rw [hzi]; exact hf)
    ·simp only [hf, decide_false, Dat.bnot_eq, Bool.not_false, cond_true]
     rw [fits_bad hz (by rw [hzi]; exact hf)]; rfl
   ·have e : (l.zip sizes).take i = l.zip sizes := List.take_of_length_le (by omega)
    rw [e] at hfit ⊢
    simp [hlt', fits_good hfit]
  ·have e1 : ((l.length : Int) != (sizes.length : Int)) = true := by simp; omega
   simp [e1, he]
end Go.Proofs.Ythhjkmefpmmleaa
