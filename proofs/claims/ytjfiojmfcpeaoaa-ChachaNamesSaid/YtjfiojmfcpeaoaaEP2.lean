/- Code with plans. -/
import Derived.Test.YtjfiojmfcpeaoaaEP1
import Derived.Test.YtjfiojmfcpeaoaaEH5
namespace Go.Eng
set_option linter.unusedVariables false

abbrev Plans := Nat → List (Nat × List Nat)

def toX (pl : Plans) : Code → X
  | .skip => .skip
  | .region id ops draw => .region id ops draw (if draw then pl id else [])
  | .seq a b => .seq (toX pl a) (toX pl b)
  | .cond c a b => .cond c (toX pl a) (toX pl b)
  | .block id b => .block id (toX pl b)
  | .loop b => .loop (toX pl b)
  | .rangeFunc g ps a b => .rangeFunc g ps (toX pl a) (toX pl b)
  | .exit id => .exit id
  | .scope b => .scope (toX pl b)
  | .label l => .label l
  | .goto l => .goto l
  | .ret => .ret
  | .refuse _ => .skip

def okX (pl : Plans) : Code → Bool
  | .region id ops draw => !draw || planB ops (pl id) (bitsTab ops)
  | .seq a b => okX pl a && okX pl b
  | .cond _ a b => okX pl a && okX pl b
  | .block _ b => okX pl b
  | .loop b => okX pl b
  | .scope b => okX pl b
  | .rangeFunc _ _ a b => okX pl a && okX pl b
  | .refuse _ => false
  | _ => true

theorem toX_ok {pl : Plans} : ∀ {c : Code}, okX pl c = true → (toX pl c).code = c ∧ (toX pl c).ok := by
  intro c
  induction c with
  | region id ops draw =>
    intro h
    refine ⟨rfl, fun hd => ?_⟩
    subst hd
    simp [okX] at h
    exact ⟨_, planB_ok h⟩
  | seq a b iha ihb => intro h; simp [okX] at h; have h1 := iha h.1; have h2 := ihb h.2; exact ⟨by simp [toX, X.code, h1.1, h2.1], h1.2, h2.2⟩
  | cond c a b iha ihb => intro h; simp [okX] at h; have h1 := iha h.1; have h2 := ihb h.2; exact ⟨by simp [toX, X.code, h1.1, h2.1], h1.2, h2.2⟩
  | block id b ih => intro h; have h1 := ih h; exact ⟨by simp [toX, X.code, h1.1], h1.2⟩
  | loop b ih => intro h; have h1 := ih h; exact ⟨by simp [toX, X.code, h1.1], h1.2⟩
  | scope b ih => intro h; have h1 := ih h; exact ⟨by simp [toX, X.code, h1.1], h1.2⟩
  | rangeFunc g ps a b iha ihb => intro h; simp [okX] at h; have h1 := iha h.1; have h2 := ihb h.2; exact ⟨by simp [toX, X.code, h1.1, h2.1], h1.2, h2.2⟩
  | refuse => intro h; simp [okX] at h
  | _ => intro _; exact ⟨rfl, trivial⟩

/-- Tables by number. -/
inductive Tab (α : Type) where
  | leaf
  | node (l : Tab α) (v : Option α) (r : Tab α)

def Tab.get {α : Type} : Tab α → Nat → Option α
  | .leaf, _ => none
  | .node l v r, n => if n = 0 then v else if n % 2 = 1 then l.get (n / 2) else r.get (n / 2 - 1)
end Go.Eng
