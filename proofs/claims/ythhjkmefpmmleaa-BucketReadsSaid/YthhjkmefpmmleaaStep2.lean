/- Joins, and loops some of whose state stays. -/
import Derived.Test.YthhjkmefpmmleaaStep
namespace Go.Proofs.Ythhjkmefpmmleaa
open Go.Eng
set_option linter.unusedVariables false
theorem iteP {β : Type} {c : Prop} [Decidable c] {A B : Option β} {r : β} (hc : c) (h : A = some r) : (if c then A else B) = some r := by rw [if_pos hc]; exact h
theorem iteN {β : Type} {c : Prop} [Decidable c] {A B : Option β} {r : β} (hc : ¬ c) (h : B = some r) : (if c then A else B) = some r := by rw [if_neg hc]; exact h
theorem joinTo {σ β : Type} (P : σ → Prop) {f : (σ → Option β) → Option β} {g : σ → Option β} {r : Option β} (hg : ∀ j, P j → g j = r) (hf : ∀ k, (∀ j, P j → k j = r) → f k = r) : Dat.join f g = r := hf g hg
theorem loop_tail2 {A B T β : Type} {f : A × B × T → (A × B × T → Option β) → Option β} {a0 : A} {b0 : B} {t0 : T} {r : β} (I : A → B → Prop) (μ : A → B → Nat)
  (step : ∀ a b k, I a b → (∀ a' b', I a' b' → μ a' b' < μ a b → k (a', b', t0) = some r) → f (a, b, t0) k = some r) (h0 : I a0 b0) (hμ : μ a0 b0 < 18446744073709551616) :
  Dat.loop f (a0, b0, t0) = some r := by
 refine loop_inv (fun s => I s.1 s.2.1 ∧ s.2.2 = t0) (fun s => μ s.1 s.2.1) ?_ ⟨h0, rfl⟩ hμ
 rintro ⟨a, b, t⟩ k ⟨hI, ht⟩ hk
 dsimp only at ht hI
 subst ht
 exact step a b k hI fun a' b' h1 h2 => hk (a', b', t) ⟨h1, rfl⟩ h2
end Go.Proofs.Ythhjkmefpmmleaa
