/- Numbers out of bytes. -/
import Derived.Test.YthhjkmefpmmleaaCut
import Derived.Test.YthhjkmefpmmleaaNumput
namespace Go.Proofs.Ythhjkmefpmmleaa
open Go.Eng
set_option linter.unusedVariables false
set_option linter.unusedSimpArgs false
def isB (l : List Int) : Prop := ∀ x ∈ l, 0 ≤ x ∧ x < 256
def val : List Int → Int
 | [] => 0
 | a :: l => a + 256 * val l
theorem val_snoc (l : List Int) (a : Int) : val (l ++ [a]) = val l + a * 256 ^ l.length := by
 induction l with
 | nil => simp [val]
 | cons b l ih =>
  simp only [List.cons_append, val, ih, List.length_cons, Int.pow_succ, Int.mul_add]
  have : (256 : Int) * (a * 256 ^ l.length) = a * (256 ^ l.length * 256) := by rw [Int.mul_comm, Int.mul_assoc]
  omega
theorem val_bounds {l : List Int} (h : isB l) : 0 ≤ val l ∧ val l < 256 ^ l.length := by
 induction l with
 | nil => simp [val]
 | cons a l ih =>
  have h1 := h a (by simp)
  have h2 := ih fun x hx => h x (by simp [hx])
  simp only [val, List.length_cons, Int.pow_succ]
  omega
theorem isB_take {l : List Int} (h : isB l) (n : Nat) : isB (l.take n) := fun x hx => h x (List.mem_of_mem_take hx)
theorem isB_drop {l : List Int} (h : isB l) (n : Nat) : isB (l.drop n) := fun x hx => h x (List.mem_of_mem_drop hx)
theorem digs_cons (n : Int) (m : Nat) : digs n (m + 1) = (n % 256) :: digs (n / 256) m := by
 unfold digs
 rw [List.range_succ_eq_map]
 simp only [List.map_cons, List.map_map, Int.pow_zero, Int.ediv_one]
 congr 1
 apply List.map_congr_left
 intro j _
 show n / 256 ^ (j + 1) % 256 = n / 256 / 256 ^ j % 256
 rw [Int.pow_succ, Int.mul_comm, Int.ediv_ediv_of_nonneg (by omega)]
theorem val_digs {m : Nat} : ∀ {n : Int}, 0 ≤ n → n / 256 ^ m = 0 → val (digs n m) = n := by
 induction m with
 | zero => intro n h0 h; simp at h; subst h; rfl
 | succ m ih =>
  intro n h0 h
  rw [digs_cons]
  have h2 : n / 256 / 256 ^ m = 0 := by rw [Int.ediv_ediv_of_nonneg (by omega), Int.mul_comm, ← Int.pow_succ]; exact h
  simp only [val]
  rw [ih (by omega) h2]
  omega
theorem digs_val {l : List Int} (h : isB l) : digs (val l) l.length = l := by
 induction l with
 | nil => rfl
 | cons a l ih =>
  have h1 := h a (by simp)
  have h2 := ih fun x hx => h x (by simp [hx])
  rw [List.length_cons, digs_cons]
  simp only [val]
  have e1 : (a + 256 * val l) % 256 = a := by omega
  have e2 : (a + 256 * val l) / 256 = val l := by omega
  rw [e1, e2, h2]
theorem bor_nat {m n : Nat} (h1 : m < 18446744073709551616) (h2 : n < 18446744073709551616) : Dat.bor .u64 (m : Int) (n : Int) = ((m ||| n : Nat) : Int) := by
 have e : ∀ k : Nat, k < 18446744073709551616 → (BitVec.ofInt 64 (k : Int)).toNat = k := by
  intro k hk
  simp [BitVec.toNat_ofInt]
  omega
 have h3 : m ||| n < 18446744073709551616 := Nat.or_lt_two_pow (n := 64) h1 h2
 show IntKind.wrap .u64 (((BitVec.ofInt 64 (m : Int) ||| BitVec.ofInt 64 (n : Int)).toNat : Nat) : Int) = _
 rw [BitVec.toNat_or, e m h1, e n h2]
 have := Dat.wrap_u64_id (x := ((m ||| n : Nat) : Int)) (by omega) (by omega)
 exact this
theorem shiftTogether_spec (l : List Int) (hl : l.length ≤ 8) (hb : isB l) : num_shiftTogether l = some (val l) := by
 unfold num_shiftTogether
 refine loop_inv (fun (s : Int × Int) => ∃ i : Nat, s.2 = (i : Int) ∧ i ≤ l.length ∧ s.1 = val (l.take i)) (fun s => l.length - s.2.toNat) ?_ ⟨0, rfl, Nat.zero_le _, by simp [val]⟩ (by simp; omega)
 rintro ⟨sa, si⟩ k ⟨i, rfl, hi, rfl⟩ hk
 simp only [Dat.ofN_eq, Dat.len_eq, Dat.ilt_nat]
 by_cases hlt : i < l.length
 ·have hx := hb l[i] (List.getElem_mem hlt)
  obtain ⟨v0, v1⟩ := val_bounds (isB_take hb i)
  have hti : (l.take i).length = i := by rw [List.length_take]; omega
  rw [hti] at v1
  simp only [hlt, decide_true, cond_true, if_pos ((Dat.Ix_nat i l.length).2 hlt), Dat.bnd_eq, Dat.toN_nat, Dat.get_lt l 0 hlt, Dat.mul_eq]
  rw [Dat.wrap_u64_id (by omega) (by omega), Dat.wrap_i64 (by omega) (by omega)]
  have hng : ¬ Dat.Neg (8 * (i : Int)) := by show ¬ (8 * (i : Int) < 0); omega
  rw [if_neg hng]
  obtain ⟨B, hB⟩ := Int.eq_ofNat_of_zero_le hx.1
  obtain ⟨A, hA⟩ := Int.eq_ofNat_of_zero_le v0
  have hpow : (256 : Nat) ^ i = 2 ^ (8 * i) := by rw [Nat.pow_mul]
  have hA1 : A < 2 ^ (8 * i) := by
   rw [hA, ← pow8] at v1
   rw [← hpow]
   have e : ((256 ^ i : Nat) : Int) = 2 ^ (8 * i) := by rw [pow8]; simp
   omega
  have hp56 : 2 ^ (8 * i) ≤ 2 ^ 56 := Nat.pow_le_pow_right (by omega) (by omega)
  have hB1 : B < 256 := by omega
  have hBs : B * 2 ^ (8 * i) < 18446744073709551616 := by
   have : B * 2 ^ (8 * i) ≤ 255 * 2 ^ 56 := Nat.mul_le_mul (by omega) hp56
   omega
  have hsh : Dat.shl .u64 l[i] (8 * (i : Int)) = ((B * 2 ^ (8 * i) : Nat) : Int) := by
   have e2 : min (8 * (i : Int)).toNat (IntKind.bits .u64) = 8 * i := by simp only [IntKind.bits]; omega
   simp only [Dat.shl]
   rw [e2, hB]
   have e3 : ((B : Int)) * 2 ^ (8 * i) = ((B * 2 ^ (8 * i) : Nat) : Int) := by simp
   rw [e3]
   exact Dat.wrap_u64_id (by omega) (by omega)
  have hor : A ||| B * 2 ^ (8 * i) = A + B * 2 ^ (8 * i) := by
   rw [Nat.or_comm, ← Nat.shiftLeft_eq, ← Nat.shiftLeft_add_eq_or_of_lt hA1, Nat.add_comm]
  have hval : val (l.take (i + 1)) = ((A + B * 2 ^ (8 * i) : Nat) : Int) := by
   rw [List.take_succ_eq_append_getElem hlt, val_snoc, hti, hA, hB, ← pow8]; simp
  rw [hsh, hA, bor_nat (by omega) hBs, hor, Dat.succ_i64 (by omega)]
  refine hk _ ⟨i + 1, rfl, hlt, ?_⟩ (by simp; omega)
  exact hval.symm
 ·have : l.take i = l := List.take_of_length_le (by omega)
  rw [this]; simp [hlt]
def takeS (b sizes : List Int) : List Int × Int := if okS 1 8 sizes then (if (b.length : Int) = sizes.sum then ((parts b sizes).map val, 0) else ([], 10)) else ([], 2)
theorem num_Take_spec (b sizes : List Int) (hs : sizes.length < 9223372036854775807) (hb : isB b) : num_Take (b, sizes) = some (takeS b sizes) := by
 unfold num_Take takeS
 simp only
 rw [num_together_spec sizes 1 8 (by omega) (by omega) hs, Dat.bind_some]
 cases hok : okS 1 8 sizes with
 | false => simp [Dat.ine]
 | true =>
  obtain ⟨hlen, hall, hsum⟩ := ok_num hok
  have hall0 : ∀ s ∈ sizes, 0 ≤ s := fun s h => by have := hall s h; omega
  rw [num_Cut_spec b sizes hs, Dat.bind_some]
  unfold cutS
  rw [← ok_18 hall, hok]
  simp only [if_true, Dat.ine, bne_self_eq_false, cond_false]
  by_cases he : (b.length : Int) = sizes.sum
  ·have hpl : (parts b sizes).length = sizes.length := by simp [parts]
   simp only [if_pos he, bne_self_eq_false, cond_false, Dat.ofN_eq, Dat.len_eq, hpl]
   rw [if_pos (show Dat.MkOk (sizes.length : Int) (sizes.length : Int) 8 from Dat.MkOk_iff.2 ⟨by omega, by omega, by omega, by omega⟩)]
   simp only [Dat.toN_nat]
   refine loop_inv (fun (s : Int × List Int) => ∃ i : Nat, s.1 = (i : Int) ∧ i ≤ sizes.length ∧ s.2.length = sizes.length ∧ ∀ k : Nat, k < i → s.2[k]? = some (val (part b sizes k))) (fun s => sizes.length - s.1.toNat) ?_ ⟨0, rfl, Nat.zero_le _, by simp [Dat.rep], by omega⟩ (by simp; omega)
   rintro ⟨si, so⟩ k ⟨i, rfl, hi, hol, hparts⟩ hk
   replace hol : so.length = sizes.length := hol
   replace hparts : ∀ k : Nat, k < i → so[k]? = some (val (part b sizes k)) := hparts
   simp only [Dat.ilt_nat]
   by_cases hlt : i < sizes.length
   ·have hp : i < (parts b sizes).length := by omega
    have eg : (parts b sizes)[i] = part b sizes i := by simp [parts]
    have hl := part_len hall0 he hlt
    have hsz := hall sizes[i] (List.getElem_mem hlt)
    have hbp : isB (part b sizes i) := isB_drop (isB_take hb _) _
    simp only [hlt, decide_true, cond_true, if_pos ((Dat.Ix_nat i sizes.length).2 hlt), Dat.bnd_eq, Dat.toN_nat, Dat.get_lt (parts b sizes) ([] : List Int) hp, eg]
    rw [shiftTogether_spec _ (by omega) hbp, Dat.bind_some]
    rw [if_pos (show Dat.In (i : Int) sizes.length from ⟨by omega, by omega⟩)]
    have e0 : Dat.addN 0 i = i := Nat.zero_add i
    rw [e0, if_pos (show Dat.Lt i so.length by show i < so.length; omega), Dat.succ_i64 (by omega)]
    refine hk (((i + 1 : Nat) : Int), so.set i (val (part b sizes i))) ⟨i + 1, rfl, hlt, by rw [List.length_set]; exact hol, ?_⟩ (by show sizes.length - ((i + 1 : Nat) : Int).toNat < sizes.length - (i : Int).toNat; omega)
    intro k' hk'
    show (so.set i (val (part b sizes i)))[k']? = _
    by_cases hki : k' = i
    ·subst hki; rw [List.getElem?_set_self (by omega)]
    ·rw [List.getElem?_set_ne (by omega)]; exact hparts k' (by omega)
   ·have ei : i = sizes.length := by omega
    have eo : so = (parts b sizes).map val := by
     apply List.ext_getElem?
     intro j
     by_cases hj : j < sizes.length
     ·rw [hparts j (by omega)]; simp [parts, hj]
     ·rw [List.getElem?_eq_none (by omega), List.getElem?_eq_none (by simp [parts]; omega)]
    have es : Dat.seg so 0 sizes.length = so := by show (so.drop 0).take sizes.length = so; rw [List.drop_zero, ← hol, List.take_length]
    simp only [hlt, decide_false, cond_false]
    have e0 : Dat.addN 0 sizes.length = sizes.length := Nat.zero_add _
    rw [e0, if_pos (show Dat.Le sizes.length so.length by show sizes.length ≤ so.length; omega), es, eo]
  ·simp [he]
end Go.Proofs.Ythhjkmefpmmleaa
