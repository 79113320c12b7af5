/- Bytes' parts. -/
import Derived.Test.YtcdjnaacgbncdaaNum
namespace Go.Proofs.Ytcdjnaacgbncdaa
open Go.Eng
set_option linter.unusedVariables false
set_option linter.unusedSimpArgs false

theorem clone_spec (b : List Int) (h : b.length < 1099511627776) : slices_Clone_byte_byte b = some b := by
  unfold slices_Clone_byte_byte
  rw [if_pos (show Dat.Le (Dat.addN 0 0) (Dat.len ([] : List Int)) from Nat.le_refl _)]
  have e : Dat.seg ([] : List Int) 0 0 = [] := rfl
  have hb : ¬ Dat.Big (Dat.len (Dat.seg ([] : List Int) 0 0)) (Dat.len b) 1 := by show ¬ (2 ^ 44 < (0 + b.length) * (1 + 1)); omega
  rw [if_neg hb, e]; rfl

/-- How many bytes come before a part. -/
def upto (sizes : List Int) (i : Nat) : Nat := (sizes.take i).sum.toNat
def part (b sizes : List Int) (i : Nat) : List Int := (b.take (upto sizes (i + 1))).drop (upto sizes i)
def parts (b sizes : List Int) : List (List Int) := (List.range sizes.length).map (part b sizes)
def cutS (b sizes : List Int) : List (List Int) × Int := if okS 0 65536 sizes then (if (b.length : Int) = sizes.sum then (parts b sizes, 0) else ([], 10)) else ([], 2)

theorem ok_cut {l : List Int} (h : okS 0 65536 l = true) : l.length ≤ 64 ∧ (∀ s ∈ l, 0 ≤ s ∧ s ≤ 65536) ∧ l.sum ≤ 65536 := by
  simp only [okS, Bool.and_eq_true, decide_eq_true_eq, List.all_eq_true] at h
  exact ⟨h.1.1, h.1.2, h.2⟩

theorem sum_take_nonneg {l : List Int} (h : ∀ s ∈ l, 0 ≤ s) (n : Nat) : 0 ≤ (l.take n).sum := by
  have := sum_take_le (l := l.take n) (fun s hs => h s (List.mem_of_mem_take hs)) 0
  simpa using this

theorem upto_eq {l : List Int} (h : ∀ s ∈ l, 0 ≤ s) (n : Nat) : ((upto l n : Nat) : Int) = (l.take n).sum := by
  have := sum_take_nonneg h n
  unfold upto; omega
theorem upto_succ {l : List Int} (h : ∀ s ∈ l, 0 ≤ s) {n : Nat} (hn : n < l.length) : ((upto l (n + 1) : Nat) : Int) = upto l n + l[n] := by
  rw [upto_eq h, upto_eq h, sum_take_succ l hn]

theorem part_len {b sizes : List Int} (h : ∀ s ∈ sizes, 0 ≤ s) (hb : (b.length : Int) = sizes.sum) {i : Nat} (hi : i < sizes.length) : ((part b sizes i).length : Int) = sizes[i] := by
  have hu := upto_succ h hi
  have hle : ((upto sizes (i + 1) : Nat) : Int) ≤ sizes.sum := by rw [upto_eq h]; exact sum_take_le h _
  have h0 := h sizes[i] (List.getElem_mem hi)
  unfold part
  rw [List.length_drop, List.length_take]
  omega
theorem part_grow {b sizes : List Int} (h : ∀ s ∈ sizes, 0 ≤ s) {i : Nat} (hi : i < sizes.length) : b.take (upto sizes i) ++ part b sizes i = b.take (upto sizes (i + 1)) := by
  have hu := upto_succ h hi
  have h0 := h sizes[i] (List.getElem_mem hi)
  have e : b.take (upto sizes i) = (b.take (upto sizes (i + 1))).take (upto sizes i) := by rw [List.take_take]; congr 1; omega
  unfold part
  rw [e, List.take_append_drop]
end Go.Proofs.Ytcdjnaacgbncdaa
