/- Orders: a list that has each number is one that has none twice. -/
import Derived.Test.YtfbabemgneaekaaM5
namespace Go.Proofs.Ytfbabemgneaekaa
open Go.Eng
set_option linter.unusedVariables false
set_option linter.unusedSimpArgs false

theorem perm_of_sub : ∀ {m l : List Int}, m.Nodup → (∀ x ∈ m, x ∈ l) → l.length ≤ m.length → m.Perm l
  | [], l, _, _, hl => by
    have : l = [] := List.length_eq_zero_iff.1 (by simpa using hl)
    subst this; exact .nil
  | a :: m, l, hn, hs, hl => by
    have ha : a ∈ l := hs a (List.mem_cons_self ..)
    have h1 : l.Perm (a :: l.erase a) := List.perm_cons_erase ha
    have hn' := List.nodup_cons.1 hn
    have h2 : m.Perm (l.erase a) := by
      refine perm_of_sub hn'.2 (fun x hx => ?_) ?_
      · have : x ≠ a := fun e => hn'.1 (e ▸ hx)
        exact (List.mem_erase_of_ne this).2 (hs x (List.mem_cons_of_mem _ hx))
      · have := h1.length_eq
        simp only [List.length_cons] at this hl
        omega
    exact (h2.cons a).trans h1.symm

def nums (n : Nat) : List Int := (List.range n).map fun (i : Nat) => (i : Int)
theorem nums_len (n : Nat) : (nums n).length = n := by simp [nums]
theorem mem_nums {n : Nat} {x : Int} : x ∈ nums n ↔ 0 ≤ x ∧ x < n := by
  simp only [nums, List.mem_map, List.mem_range]
  constructor
  · rintro ⟨i, hi, rfl⟩; omega
  · intro h; exact ⟨x.toNat, by omega, by omega⟩
theorem nums_nodup (n : Nat) : (nums n).Nodup := by
  unfold nums
  rw [List.nodup_iff_pairwise_ne, List.pairwise_map]
  exact (List.nodup_iff_pairwise_ne.1 List.nodup_range).imp fun h e => h (by omega)

/-- Has a list each number below its length? -/
def isP (l : List Int) : Bool := decide (∀ j ∈ List.range l.length, (j : Int) ∈ l)
theorem isP_iff {l : List Int} : isP l = true ↔ l.Nodup ∧ ∀ x ∈ l, 0 ≤ x ∧ x < l.length := by
  unfold isP
  rw [decide_eq_true_eq]
  constructor
  · intro h
    have hp : (nums l.length).Perm l := perm_of_sub (nums_nodup _) (fun x hx => by
      have := mem_nums.1 hx
      have := h x.toNat (by simp; omega)
      rwa [Int.toNat_of_nonneg (by omega)] at this) (by rw [nums_len]; exact Nat.le_refl _)
    exact ⟨hp.nodup_iff.1 (nums_nodup _), fun x hx => mem_nums.1 (hp.mem_iff.2 hx)⟩
  · rintro ⟨h1, h2⟩ j hj
    have hp : l.Perm (nums l.length) := perm_of_sub h1 (fun x hx => mem_nums.2 (h2 x hx)) (by rw [nums_len]; exact Nat.le_refl _)
    exact hp.mem_iff.2 (mem_nums.2 (by simp at hj; omega))
end Go.Proofs.Ytfbabemgneaekaa
