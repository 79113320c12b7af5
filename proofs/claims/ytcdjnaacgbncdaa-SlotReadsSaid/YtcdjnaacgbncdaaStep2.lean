/- Joins, and loops some of whose state stays. -/
import Derived.Test.YtcdjnaacgbncdaaStep
namespace Go.Proofs.Ytcdjnaacgbncdaa
open Go.Eng
set_option linter.unusedVariables false

theorem iteP {β : Type} {c : Prop} [Decidable c] {A B : Option β} {r : β} (hc : c) (h : A = some r) : (if c then A else B) = some r := by rw [if_pos hc]; exact h
theorem iteN {β : Type} {c : Prop} [Decidable c] {A B : Option β} {r : β} (hc : ¬ c) (h : B = some r) : (if c then A else B) = some r := by rw [if_neg hc]; exact h
theorem joinTo {σ β : Type} (P : σ → Prop) {f : (σ → Option β) → Option β} {g : σ → Option β} {r : Option β} (hg : ∀ j, P j → g j = r) (hf : ∀ k, (∀ j, P j → k j = r) → f k = r) : Dat.join f g = r := hf g hg
theorem loop_tail {A B C T β : Type} {f : A × B × C × T → (A × B × C × T → Option β) → Option β} {a0 : A} {b0 : B} {c0 : C} {t0 : T} {r : β} (I : A → B → C → Prop) (μ : A → B → C → Nat)
    (step : ∀ a b c k, I a b c → (∀ a' b' c', I a' b' c' → μ a' b' c' < μ a b c → k (a', b', c', t0) = some r) → f (a, b, c, t0) k = some r) (h0 : I a0 b0 c0) (hμ : μ a0 b0 c0 < 18446744073709551616) :
    Dat.loop f (a0, b0, c0, t0) = some r := by
  refine loop_inv (fun s => I s.1 s.2.1 s.2.2.1 ∧ s.2.2.2 = t0) (fun s => μ s.1 s.2.1 s.2.2.1) ?_ ⟨h0, rfl⟩ hμ
  rintro ⟨a, b, c, t⟩ k ⟨hI, ht⟩ hk
  dsimp only at ht hI
  subst ht
  exact step a b c k hI fun a' b' c' h1 h2 => hk (a', b', c', t) ⟨h1, rfl⟩ h2
end Go.Proofs.Ytcdjnaacgbncdaa
