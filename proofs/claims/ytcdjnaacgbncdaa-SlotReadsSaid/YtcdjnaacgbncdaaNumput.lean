/- Numbers put into bytes. -/
import Derived.Test.YtcdjnaacgbncdaaNum
namespace Go.Proofs.Ytcdjnaacgbncdaa
open Go.Eng
set_option linter.unusedVariables false
set_option linter.unusedSimpArgs false

def putB (zs : List (Int × Int)) : List Int := zs.flatMap fun p => digs p.1 p.2.toNat
def fitsAll (zs : List (Int × Int)) : Bool := zs.all fun p => decide (p.1 / 256 ^ p.2.toNat = 0)
def putS (l sizes : List Int) : List Int × Int :=
  if okS 1 8 sizes = false then ([], 2) else if l.length ≠ sizes.length then ([], 2) else if fitsAll (l.zip sizes) then (putB (l.zip sizes), 0) else ([], 4)

theorem putB_len {zs : List (Int × Int)} (h : ∀ p ∈ zs, p.2 ≤ 8) : (putB zs).length ≤ 8 * zs.length := by
  induction zs with
  | nil => simp [putB]
  | cons p zs ih =>
    have h1 := h p (by simp)
    have h2 := ih fun q hq => h q (by simp [hq])
    simp only [putB, List.flatMap_cons, List.length_append, digs_len, List.length_cons] at h2 ⊢
    omega
theorem putB_succ {zs : List (Int × Int)} {i : Nat} (h : i < zs.length) : putB (zs.take (i + 1)) = putB (zs.take i) ++ digs zs[i].1 zs[i].2.toNat := by
  unfold putB
  rw [List.take_succ_eq_append_getElem h, List.flatMap_append]; simp
theorem fits_bad {zs : List (Int × Int)} {i : Nat} (h : i < zs.length) (hb : ¬ zs[i].1 / 256 ^ zs[i].2.toNat = 0) : fitsAll zs = false := by
  unfold fitsAll
  rw [List.all_eq_false]
  exact ⟨zs[i], List.getElem_mem h, by simpa using hb⟩
theorem fits_good {zs : List (Int × Int)} (h : ∀ p ∈ zs, p.1 / 256 ^ p.2.toNat = 0) : fitsAll zs = true := by
  unfold fitsAll
  rw [List.all_eq_true]
  intro p hp
  simpa using h p hp
theorem mem_take_succ {α : Type} {zs : List α} {i : Nat} (h : i < zs.length) {Q : α → Prop} (h1 : ∀ p ∈ zs.take i, Q p) (h2 : Q zs[i]) : ∀ p ∈ zs.take (i + 1), Q p := by
  intro p hp
  rw [List.take_succ_eq_append_getElem h, List.mem_append] at hp
  rcases hp with hp | hp
  · exact h1 p hp
  · simp at hp; subst hp; exact h2

end Go.Proofs.Ytcdjnaacgbncdaa
