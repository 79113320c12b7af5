/- Orders have each number once. -/
import Derived.Test.YtfbabemgneaekaaTold5
namespace Go.Proofs.Ytfbabemgneaekaa
open Go.Eng
set_option linter.unusedVariables false
set_option linter.unusedSimpArgs false

theorem restN_lt (a : List Int) (n : Nat) {i j : Nat} (h : i < j) (hj : j < (restN a n).length) : (restN a n).getD i 0 < (restN a n).getD j 0 := by
  have hp : (restN a n).Pairwise (· < ·) := by
    unfold restN nums
    refine List.Pairwise.filter _ ?_
    rw [List.pairwise_map]
    exact List.pairwise_lt_range.imp fun h => by omega
  have := List.pairwise_iff_getElem.1 hp i j (by omega) hj h
  simp only [List.getD]
  rw [List.getElem?_eq_getElem hj, List.getElem?_eq_getElem (by omega)]
  exact this
theorem restN_get (a : List Int) (n : Nat) {j : Nat} (hj : j < (restN a n).length) : (0 ≤ (restN a n).getD j 0 ∧ (restN a n).getD j 0 < n) ∧ (restN a n).getD j 0 ∉ a := by
  simp only [List.getD]
  rw [List.getElem?_eq_getElem hj]
  exact restN_mem.1 (List.getElem_mem hj)
theorem getD_mem {a : List Int} {j : Nat} (hj : j < a.length) : a.getD j 0 ∈ a := by
  simp only [List.getD]
  rw [List.getElem?_eq_getElem hj]
  exact List.getElem_mem hj
theorem getD_inj {a : List Int} (hd : a.Nodup) {i j : Nat} (h : i < j) (hj : j < a.length) : a.getD i 0 ≠ a.getD j 0 := by
  simp only [List.getD]
  rw [List.getElem?_eq_getElem hj, List.getElem?_eq_getElem (show i < a.length by omega)]
  exact List.pairwise_iff_getElem.1 (List.nodup_iff_pairwise_ne.1 hd) i j (by omega) hj h

structure Tl (a : List Int) : Prop where
  nd : a.Nodup
  rg : ∀ x ∈ a, 0 ≤ x ∧ x < 2 * (a.length : Int)
theorem Tl.rl {a : List Int} (h : Tl a) : (restN a (2 * a.length)).length = a.length := by
  have := restN_len (n := 2 * a.length) h.nd (fun x hx => by have := h.rg x hx; omega)
  omega
theorem toldL_tl (c : CfgT) (l : List UnT) (lv : Nat) : Tl (toldL c l lv) := ⟨toldL_nodup c l lv, by rw [toldL_len]; exact toldL_range c l lv⟩
/-- The number at a place. -/
def pF (a : List Int) (i : Nat) : Int := permF a (restN a (2 * a.length)) i
theorem pF_range {a : List Int} (h : Tl a) {i : Nat} (hi : i < 2 * a.length) : 0 ≤ pF a i ∧ pF a i < 2 * (a.length : Int) := by
  unfold pF permF
  split
  · exact h.rg _ (getD_mem (by omega))
  · have := (restN_get a (2 * a.length) (j := i / 2) (by rw [h.rl]; omega)).1
    omega
theorem pF_inj {a : List Int} (h : Tl a) {i j : Nat} (hij : i < j) (hj : j < 2 * a.length) : pF a i ≠ pF a j := by
  have hrl := h.rl
  unfold pF permF
  by_cases hi2 : i % 2 = 0 <;> by_cases hj2 : j % 2 = 0
  · rw [if_pos hi2, if_pos hj2]; exact getD_inj h.nd (by omega) (by omega)
  · rw [if_pos hi2, if_neg hj2]
    intro e
    exact (restN_get a (2 * a.length) (j := j / 2) (by omega)).2 (e ▸ getD_mem (by omega))
  · rw [if_neg hi2, if_pos hj2]
    intro e
    exact (restN_get a (2 * a.length) (j := i / 2) (by omega)).2 (e ▸ getD_mem (by omega))
  · rw [if_neg hi2, if_neg hj2]
    have := restN_lt a (2 * a.length) (i := i / 2) (j := j / 2) (by omega) (by omega)
    omega
theorem permS_isP {a : List Int} (h : Tl a) : isP (permS a) = true := by
  refine isP_iff.2 ⟨?_, ?_⟩
  · rw [List.nodup_iff_pairwise_ne, List.pairwise_iff_getElem]
    intro i j hi hj hij
    have hj2 := hj
    rw [permS_len] at hj2
    have e : ∀ n (hn : n < (permS a).length), (permS a)[n] = pF a n := fun n hn => by
      have h1 : n < 2 * a.length := by rw [permS_len] at hn; exact hn
      have h2 : (permS a)[n]? = some (pF a n) := by unfold permS pF; simp [h1]
      rw [List.getElem?_eq_getElem hn] at h2
      exact Option.some.inj h2
    rw [e i hi, e j hj]
    exact pF_inj h hij hj2
  · intro x hx
    rw [permS_len]
    unfold permS at hx
    obtain ⟨i, hi, rfl⟩ := List.mem_map.1 hx
    have := pF_range h (List.mem_range.1 hi)
    unfold pF at this
    omega
end Go.Proofs.Ytfbabemgneaekaa
