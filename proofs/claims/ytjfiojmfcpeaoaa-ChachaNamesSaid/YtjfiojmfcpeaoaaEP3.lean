/- A program's tables, looked at. -/
import Derived.Test.YtjfiojmfcpeaoaaEP2
namespace Go.Eng
set_option linter.unusedVariables false

def Tab.allB {α : Type} (f : Nat → α → Bool) : Tab α → (Nat → Nat) → Bool
  | .leaf, _ => true
  | .node l v r, g => (match v with | some x => f (g 0) x | none => true) && Tab.allB f l (fun m => g (2 * m + 1)) && Tab.allB f r (fun m => g (2 * m + 2))

theorem Tab.allB_get {α : Type} {f : Nat → α → Bool} : ∀ {t : Tab α} {g : Nat → Nat} {n : Nat} {x : α}, t.allB f g = true → t.get n = some x → f (g n) x = true
  | .leaf, g, n, x, h, hx => by simp [Tab.get] at hx
  | .node l v r, g, n, x, h, hx => by
    simp only [Tab.allB, Bool.and_eq_true] at h
    obtain ⟨⟨h1, h2⟩, h3⟩ := h
    simp only [Tab.get] at hx
    split at hx
    · rename_i h0; subst h0; subst hx; exact h1
    · split at hx
      · rename_i h0 hodd
        have := Tab.allB_get h2 hx
        simpa [show 2 * (n / 2) + 1 = n by omega] using this
      · rename_i h0 hev
        have := Tab.allB_get h3 hx
        simpa [show 2 * (n / 2 - 1) + 2 = n by omega] using this

def fitB (P : Program) (t : TypeId) (i : TI) : Bool :=
  (match P.info? t with
  | some inf => match inf.zero with
    | some z => inf.size == i.size && inf.bytes == i.bytes && (match ofVs z.cells.toList with
      | some cs => CV.sames cs i.zero
      | none => false) && i.zero.length == i.size && inf.comparable == i.comparable && isAggV z == i.agg
    | none => false
  | none => false) && i.agg == isAggD i.desc && (i.agg || i.size == 1) && P.stoodInHeld t == i.held && P.eqGuardType P.depth t == i.eqg

theorem sames_eq : ∀ (a b : List CV), CV.sames a b = true → a = b := CV.sames_eq

theorem fitB_ok {P : Program} {t : TypeId} {i : TI} (h1 : P.underlying t = some i.desc) (h : fitB P t i = true) : TyFits P t i := by
  simp only [fitB, Bool.and_eq_true, beq_iff_eq] at h
  obtain ⟨⟨⟨⟨h2, h3⟩, h4⟩, h5⟩, h6⟩ := h
  refine ⟨h1, ?_, h3, ?_, h5, h6⟩
  · split at h2 <;> (try (simp at h2; done))
    rename_i inf hinf
    split at h2 <;> (try (simp at h2; done))
    rename_i z hz
    simp only [Bool.and_eq_true, beq_iff_eq] at h2
    obtain ⟨⟨⟨⟨⟨a1, a2⟩, a3⟩, a4⟩, a5⟩, a6⟩ := h2
    split at a3 <;> (try (simp at a3; done))
    rename_i cs hcs
    exact ⟨inf, z, hinf, a1, a2, hz, by rw [hcs, sames_eq _ _ a3], a4, a5, a6⟩
  · intro ha
    rw [ha] at h4; simpa using h4

inductive Tab.All {α : Type} (f : Nat → α → Prop) : Tab α → (Nat → Nat) → Prop where
  | leaf (g : Nat → Nat) : Tab.All f .leaf g
  | none (g : Nat → Nat) {l r : Tab α} (hl : Tab.All f l (fun m => g (2 * m + 1))) (hr : Tab.All f r (fun m => g (2 * m + 2))) : Tab.All f (.node l none r) g
  | some (g : Nat → Nat) {l r : Tab α} (x : α) (h : f (g 0) x) (hl : Tab.All f l (fun m => g (2 * m + 1))) (hr : Tab.All f r (fun m => g (2 * m + 2))) : Tab.All f (.node l (some x) r) g

theorem Tab.All.get {α : Type} {f : Nat → α → Prop} {t : Tab α} {g : Nat → Nat} (a : Tab.All f t g) : ∀ {n : Nat} {x : α}, t.get n = Option.some x → f (g n) x := by
  induction a with
  | leaf g => intro n x hx; simp [Tab.get] at hx
  | none g hl hr ihl ihr =>
    intro n x hx
    simp only [Tab.get] at hx
    split at hx
    · simp at hx
    · split at hx
      · have := ihl hx
        simpa [show 2 * (n / 2) + 1 = n by omega] using this
      · have := ihr hx
        simpa [show 2 * (n / 2 - 1) + 2 = n by omega] using this
  | some g y h hl hr ihl ihr =>
    intro n x hx
    simp only [Tab.get] at hx
    split at hx
    · rename_i h0; subst h0; simp at hx; subst hx; exact h
    · split at hx
      · have := ihl hx
        simpa [show 2 * (n / 2) + 1 = n by omega] using this
      · have := ihr hx
        simpa [show 2 * (n / 2 - 1) + 2 = n by omega] using this

theorem tysOk {P : Program} {tys : Tab TI} (hu : Tab.All (fun t i => P.underlying t = some i.desc) tys id) (h : tys.allB (fitB P) id = true) : Ty.Ok tys.get P := fun t i hi => fitB_ok (hu.get hi) (Tab.allB_get h hi)

/-- What a function's table entry says. -/
def FnFits (P : Program) (f : FuncId) (xf : XFunc) : Prop :=
  ∃ fn, P.funcs[f]? = some fn ∧ (fn.name == "runtime.NumGoroutine") = false ∧ fn.body = some xf.body.code ∧ fn.ntmps = xf.ntmps ∧ fn.results.toList = xf.results ∧ xf.body.ok

def xOf (fn : Func) (pl : Plans) : XFunc := { ntmps := fn.ntmps, results := fn.results.toList, body := match fn.body with
  | some b => toX pl b
  | none => .skip }

def fnB (fn : Func) (pl : Plans) : Bool := fn.name != "runtime.NumGoroutine" && (match fn.body with
  | some b => okX pl b
  | none => false)

theorem fnFits {P : Program} {f : FuncId} {fn : Func} {pl : Plans} (hf : P.funcs[f]? = some fn) (h : fnB fn pl = true) : FnFits P f (xOf fn pl) := by
  simp only [fnB, Bool.and_eq_true, bne_iff_ne, ne_eq] at h
  obtain ⟨h1, h2⟩ := h
  cases hb : fn.body with
  | none => rw [hb] at h2; simp at h2
  | some b =>
    rw [hb] at h2
    obtain ⟨h3, h4⟩ := toX_ok h2
    exact ⟨fn, hf, by simpa using h1, by simp [xOf, hb, h3], rfl, rfl, by simpa [xOf, hb] using h4⟩

/-- A program without globals, and no summaries. -/
theorem plainOk {P : Program} {tys : Tab TI} {fns : Tab XFunc} {lit : FuncId → Bool} {pures : FuncId → Option (List TypeId)} (h1 : Ty.Ok tys.get P) (h2 : Tab.All (FnFits P) fns id) (h3 : P.follows .mixedOrders = true) :
    Cfg.Ok P { ty := tys.get, code := fns.get, glob := fun _ => none, lit, sum := fun _ => none, pure := pures } :=
  ⟨h1, fun f xf hx => h2.get hx, fun f F hF => by simp at hF, h3, fun i v h => by simp at h⟩

/-- A law without arguments, gone through. -/
theorem closed_call {P : Program} {c : Cfg} (hc : Cfg.Ok P c) (hg : c.glob = fun _ => none) {n : Nat} {f : FuncId} {H' : Heap} {b : Bool}
    (h : ex c n f none (.call (.fn f) []) [] [] = some (.ret, [.bool b], H')) (w : World) :
    Calls P f #[] w fun e w' => e = .returned (.bool b) ∧ RowKit.Below w.heap.size w w' := by
  have R : Rel w.heap.size (fun _ => none) (fun _ _ => False) [] w :=
    ⟨by simp, by simp, by simp, by simp, by simp, by simp, by simp, by simp, by simp, Nat.le_refl _, by simp⟩
  obtain ⟨⟨_, h2⟩, _⟩ := ex_ok hc n f none _ _ _ _ _ _ h trivial
  refine (h2 w.heap.size _ _ w [] R (fun i v hv => by simp [hg] at hv) .nil).mono ?_
  intro e w' he
  cases e with
  | returned v =>
    obtain ⟨φ', St', l, c1, _, h3, h4⟩ := he
    simp at h3; subst h3
    cases h4
    exact ⟨rfl, l.frm.below R⟩
  | panicked ch => obtain ⟨_, _, _, c1, v, h3, _⟩ := he; simp at h3
  | outgrown => exact he.elim
end Go.Eng
