/- A text's bucket, read. -/
import Derived.Test.YthhjkmefpmmleaaBucketread
namespace Go.Proofs.Ythhjkmefpmmleaa
open Go.Eng
set_option linter.unusedVariables false
set_option linter.unusedSimpArgs false
theorem upto_sizes {S : Int} (h1 : 1 ≤ S) (n : Nat) {i : Nat} (hi : i ≤ n) : upto (sizesB S n) i = i * (8 + S).toNat := by
 unfold upto sizesB
 rw [Int.toNat_natCast, List.take_append_of_le_length (by simp; omega), List.take_replicate, Nat.min_eq_left hi, List.sum_replicate_int]
 have : ((8 + S).toNat : Int) = 8 + S := by omega
 rw [← this]
 norm_cast
theorem sizes_len (S : Int) (n : Nat) : (sizesB S n).length = n + 2 := by simp [sizesB]
theorem sizes_sum (S : Int) (n : Nat) : (sizesB S n).sum = n * (8 + S) + 64 := by
 unfold sizesB
 rw [List.sum_append, Int.toNat_natCast, List.sum_replicate_int]; simp
theorem sizes_mem {S : Int} {n : Nat} {s : Int} (h : s ∈ sizesB S n) : s = 8 + S ∨ s = 32 := by
 unfold sizesB at h
 rcases List.mem_append.1 h with h | h
 ·exact .inl (List.eq_of_mem_replicate h)
 ·simp at h; exact .inr h
theorem sizes_ok {S : Int} (h1 : 1 ≤ S) (h2 : S ≤ 32) {n : Nat} (hn : n ≤ 4) : okS 0 65536 (sizesB S n) = true := by
 unfold okS
 simp only [Bool.and_eq_true, decide_eq_true_eq, List.all_eq_true]
 refine ⟨⟨by rw [sizes_len]; omega, fun x hx => ?_⟩, ?_⟩
 ·rcases sizes_mem hx with rfl | rfl <;> omega
 ·rw [sizes_sum]
  have : (n : Int) * (8 + S) ≤ 4 * (8 + S) := Int.mul_le_mul_of_nonneg_right (by omega) (by omega)
  omega
theorem sizes_get (S : Int) (n : Nat) : (sizesB S n)[n]? = some 32 ∧ (sizesB S n)[n + 1]? = some 32 := by
 unfold sizesB
 rw [Int.toNat_natCast]
 constructor
 ·rw [List.getElem?_append_right (by simp)]; simp
 ·rw [List.getElem?_append_right (by simp)]; simp
def rdL (B S H W : Int) : List (List Int) → Bool → List Blk → Option (List Blk)
 | [], _, acc => some acc
 | s :: ss, e, acc => if (readS B S H W s).2.2 = 0 then (if (readS B S H W s).2.1 = true then (if e = true then none else rdL B S H W ss e (acc ++ [(readS B S H W s).1])) else rdL B S H W ss true acc) else none
abbrev BktT : Type := List Blk × (List Int × (List Int × Unit))
def z32 : List Int := List.replicate 32 0
def noK : BktT := ([], z32, z32, ())
def slL (S : Int) (n : Nat) (t : List Int) : List (List Int) := (List.range n).map (part t (sizesB S n))
def readB (B S H W : Int) (t : List Int) : BktT × Int :=
 if (slotsS B S H W).2 = 0 then (if (t.length : Int) = W then
  (match rdL B S H W (slL S (slotsS B S H W).1.toNat t) false [] with
  | none => (noK, 8)
  | some l => if bchk B S H W l = 0 then ((l, arr32 (part t (sizesB S (slotsS B S H W).1) (slotsS B S H W).1.toNat), arr32 (part t (sizesB S (slotsS B S H W).1) ((slotsS B S H W).1.toNat + 1)), ()), 0) else (noK, 8)) else (noK, 10)) else (noK, 8)
theorem isB_part {t sizes : List Int} (h : isB t) (i : Nat) : isB (part t sizes i) := isB_drop (isB_take h _) _
end Go.Proofs.Ythhjkmefpmmleaa
