/- Calls that hang on no place. -/
import Derived.Test.YtjfiojmfcpeaoaaEQ1
namespace Go.Eng
set_option linter.unusedVariables false

section
variable {P : Program} {c : Cfg}

theorem mapO_pure {f : List CV → Option (List CV)} (hf : ∀ cs cs', f cs = some cs' → pureCs cs' = true) : ∀ {xs ys : List CV}, mapO (fun x => (f x.flat).map (wrapV x)) xs = some ys → pureCs ys = true
  | [], ys, h => by simp [mapO] at h; subst h; rfl
  | x :: xs, ys, h => by
    simp only [mapO] at h
    split at h <;> (try (simp at h; done))
    rename_i y hy
    split at h <;> (try (simp at h; done))
    rename_i ys' hys
    simp at h; subst h
    cases hx : f x.flat with
    | none => simp [hx] at hy
    | some cs1 =>
      simp [hx] at hy; subst hy
      have h1 := hf _ _ hx
      simp only [pureCs, mapO_pure hf hys, Bool.and_true]
      unfold wrapV
      split
      · simpa [pureC] using h1
      · cases cs1 with
        | nil => rfl
        | cons c cs => simp [pureCs] at h1; simpa using h1.1

theorem exC_pure {ty : Ty} {H : Heap} : ∀ (n : Nat) (t : TypeId) (cs cs' : List CV), exC ty H n t cs = some cs' → pureCs cs' = true := by
  intro n
  induction n with
  | zero => intro t cs cs' h; simp [exC] at h
  | succ n ih =>
    intro t cs cs' h
    simp only [exC] at h
    split at h <;> (try (simp at h; done))
    split at h
    · rename_i fs _
      revert h
      generalize fs.toList = l
      induction l generalizing cs cs' with
      | nil => intro h; simp only [exFs] at h; split at h <;> simp at h; subst h; rfl
      | cons f l ihl =>
        intro h
        simp only [exFs] at h
        split at h <;> (try (simp at h; done))
        split at h <;> (try (simp at h; done))
        rename_i a b ha hb
        simp at h; subst h
        rw [pureCs_append, ih _ _ _ ha, ihl _ _ hb]; rfl
    · split at h <;> (try (simp at h; done))
      rename_i len e hdd _ j _
      clear hdd
      revert h
      induction len generalizing cs cs' with
      | zero => intro h; simp only [exEs] at h; split at h <;> simp at h; subst h; rfl
      | succ m ihm =>
        intro h
        simp only [exEs] at h
        split at h <;> (try (simp at h; done))
        rename_i a b ha hb
        simp at h; subst h
        rw [pureCs_append, ih _ _ _ ha, ihm _ _ hb]; rfl
    · split at h <;> (try (simp at h; done))
      split at h <;> (try (simp at h; done))
      split at h <;> (try (simp at h; done))
      split at h <;> (try (simp at h; done))
      rename_i ys hys
      simp at h; subst h
      simp [pureCs, pureC, mapO_pure (fun cs cs' h => ih _ cs cs' h) hys]
    · split at h <;> simp at h
      rename_i hp
      subst h
      simp only [Bool.and_eq_true] at hp
      exact hp.1

theorem exV_pure {ty : Ty} {H : Heap} {t : TypeId} {v v' : CV} (h : exV ty H t v = some v') : pureC v' = true := by
  have hj : v ≠ .junk := by rintro rfl; simp [exV] at h
  have h' : (exC ty H 12 t v.flat).map (wrapV v) = some v' := by cases v <;> first | exact h | exact absurd rfl hj
  cases hx : exC ty H 12 t v.flat with
  | none => simp [hx] at h'
  | some cs =>
    simp [hx] at h'; subst h'
    have h1 := exC_pure _ _ _ _ hx
    unfold wrapV
    split
    · simpa [pureC] using h1
    · cases cs with
      | nil => rfl
      | cons c cs => simp [pureCs] at h1; simpa using h1.1

theorem exVs_pures {ty : Ty} {H : Heap} : ∀ {ts : List TypeId} {vs vs' : List CV}, exVs ty H ts vs = some vs' → pureCs vs' = true
  | [], [], vs', h => by simp [exVs] at h; subst h; rfl
  | [], _ :: _, vs', h => by simp [exVs] at h
  | _ :: _, [], vs', h => by simp [exVs] at h
  | t :: ts, v :: vs, vs', h => by
    simp only [exVs] at h
    split at h <;> (try (simp at h; done))
    rename_i a b ha hb
    simp at h; subst h
    simp [pureCs, exV_pure ha, exVs_pures hb]
theorem exVs_pure {ty : Ty} {H : Heap} {ts : List TypeId} {vs vs' : List CV} (h : exVs ty H ts vs = some vs') : pureC (oneOf vs') = true := by
  have := exVs_pures h
  unfold oneOf
  split
  · simpa [pureCs] using this
  · simpa [pureC] using this

/-- A call with values that hang on no place answers such a value. -/
def PureFact (P : Program) (c : Cfg) (f : FuncId) (args : List CV) (v : CV) : Prop :=
  Enters P f ∧ ∀ (St : Stab) (w : World) (us : List Value), (∀ r j, St r j → r < w.heap.size) → GlobR c Phi0 St w → VRL Phi0 St w args us →
    Calls P f us.toArray w fun e w' => ∃ u St', e = .returned u ∧ Frm 0 Phi0 St w Phi0 St' w' ∧ (∀ r j, St' r j → r < w'.heap.size) ∧ VR Phi0 St' w' v u

def GlobPure (c : Cfg) : Prop := ∀ i v, c.glob i = some v → pureC v = true

theorem Rel.start0 {St : Stab} {w : World} (h : ∀ r j, St r j → r < w.heap.size) : Rel w.heap.size Phi0 St [] w :=
  ⟨by simp [Phi0], by simp [Phi0], by simp [Phi0], by simp [Phi0], by simp [Phi0], by simp [Phi0], h, by simp [Phi0], by simp [Phi0], Nat.le_refl _, by simp [Phi0]⟩

theorem exVs_one {ty : Ty} (hty : ty.Ok P) {N : Nat} {φ : Phi} {St : Stab} {H : Heap} {w : World} (R : Rel N φ St H w) {ts : List TypeId} {cs cs' : List CV} (h : exVs ty H ts cs = some cs') {u : Value} (hu : VR φ St w (oneOf cs) u) :
    VR Phi0 (Froz φ St H) w (oneOf cs') u ∧ pureC (oneOf cs') = true := by
  have hl : ∀ {ts : List TypeId} {cs cs' : List CV}, exVs ty H ts cs = some cs' → cs'.length = cs.length := by
    intro ts
    induction ts with
    | nil => intro cs cs' h; cases cs <;> simp [exVs] at h; subst h; rfl
    | cons t ts ih =>
      intro cs cs' h
      cases cs with
      | nil => simp [exVs] at h
      | cons v vs =>
        simp only [exVs] at h
        split at h <;> (try (simp at h; done))
        rename_i a b ha hb
        simp at h; subst h
        simp [ih hb]
  have hlen := hl h
  have tup : ∀ ds ds' : List CV, exVs ty H ts ds = some ds' → VR φ St w (.tuple ds) u → VR Phi0 (Froz φ St H) w (.tuple ds') u ∧ pureC (.tuple ds') = true := by
    intro ds ds' h hu
    cases hu with | tuple _ us hus =>
    obtain ⟨e1, e2⟩ := exVs_ok hty R h us hus
    exact ⟨.tuple _ _ e1, by simpa [pureC] using e2⟩
  match cs, cs', hlen with
  | [], [], _ => exact tup [] [] h hu
  | [c1], [c2], _ =>
    cases ts with
    | nil => simp [exVs] at h
    | cons t ts =>
      obtain ⟨e1, e2⟩ := exVs_ok hty R h [u] (.cons _ _ _ _ hu .nil)
      cases e1 with | cons _ _ _ _ e1 _ =>
      exact ⟨e1, by simpa [pureCs, oneOf] using e2⟩
  | c1 :: c2 :: cs, d1 :: d2 :: ds, _ => exact tup _ _ h hu

theorem PureFact.of_call (hty : c.ty.Ok P) {f : FuncId} {args cs cs' : List CV} {H' : Heap} {ts : List TypeId} (h : CallFact P c (.fn f) args [] .ret [oneOf cs] H') (he : exVs c.ty H' ts cs = some cs') : PureFact P c f args (oneOf cs') := by
  obtain ⟨hent, hC⟩ := h
  refine ⟨hent, fun St w us hst hg hu => (hC w.heap.size Phi0 St w us (Rel.start0 hst) hg hu).mono ?_⟩
  intro e w' hp
  cases e with
  | outgrown => exact hp.elim
  | panicked ch => obtain ⟨_, _, _, _, _, h3, _⟩ := hp; simp at h3
  | returned u =>
    obtain ⟨φ', St', l, c1, _, h3, hv⟩ := hp
    simp at h3; subst h3
    obtain ⟨e1, _⟩ := exVs_one hty l.rel he hv
    have f := l.frm
    refine ⟨u, Froz φ' St' H', rfl, ?_, ?_, e1⟩
    · exact { ext := fun _ => .refl _, st := fun r j h => .inl (f.st r j h), keep := f.keep, size := f.size,
              stNew := fun r j h => by
                rcases h with h | ⟨b, base, size, cs, hb, _⟩
                · rcases f.stNew r j h with h | h | ⟨b, e, hb, _⟩
                  · exact .inl h
                  · exact .inr (.inl h)
                  · simp [Phi0] at hb
                · exact .inr (.inl (l.rel.own b r base size hb).1),
              blkNew := fun b e r hb => by simp [Phi0] at hb,
              keepBlk := fun r hr _ => f.keepBlk r hr (by simp [Phi0]),
              idNew := fun _ _ _ => rfl, os := f.os, output := f.output, tape := f.tape }
    · intro r j h
      rcases h with h | ⟨b, base, size, cs, hb, _⟩
      · exact l.rel.stLt r j h
      · exact (l.rel.lt hb rfl).2

theorem PureFact.call {f : FuncId} {args : List CV} {v : CV} (h : PureFact P c f args v) (hg : GlobPure c) (ha : pureCs args = true) (hv : pureC v = true) (H : Heap) : CallFact P c (.fn f) args H .ret [v] H := by
  obtain ⟨hent, hC⟩ := h
  refine ⟨hent, fun N φ St w us R hgr hu => (hC St w us R.stLt (fun i v hi => (hgr i v hi).pure (fun _ _ h => h) (hg i v hi)) (hu.pure (fun _ _ h => h) ha)).mono ?_⟩
  rintro e w' ⟨u, St', rfl, f, hst, hvr⟩
  have hcase : ∀ r j, St' r j → St r j ∨ w.heap.size ≤ r := fun r j h => by
    rcases f.stNew r j h with h | h | ⟨b, e, hb, _⟩
    · exact .inl h
    · exact .inr h
    · simp [Phi0] at hb
  have hheap : ∀ r, r < w.heap.size → w'.heap[r]? = w.heap[r]? := fun r hr => f.keepBlk r hr (by simp [Phi0])
  have m : Mono φ St w φ St' w' := ⟨fun _ => .refl _, f.st, f.keep⟩
  refine ⟨φ, St', ⟨?_, ?_, Keep.refl _ _⟩, v, rfl, rfl, hvr.pure (fun _ _ h => h) hv⟩
  · refine ⟨R.dom, R.dead, ?_, ?_, ?_, R.inj, hst, ?_, ?_, Nat.le_trans R.start f.size, R.void⟩
    · intro b r base size hb
      obtain ⟨h1, cs, a, e, h2, h3, h4, h5, h6⟩ := R.own b r base size hb
      exact ⟨h1, cs, a, e, h2, by rw [hheap r (R.lt hb rfl).2]; exact h3, h4, h5, fun j c hc => let ⟨v, a, b⟩ := h6 j c hc; ⟨v, a, b.mono m⟩⟩
    · intro k r used u size hb
      obtain ⟨h1, h2, h3, a, e, h4, h5⟩ := R.tail k r used u size hb
      exact ⟨h1, h2, h3, a, e, by rw [hheap r (R.lt hb rfl).2]; exact h4, h5⟩
    · intro b r hb
      obtain ⟨h1, o, O, h2, h3, h4⟩ := R.obj b r hb
      exact ⟨h1, o, O, h2, by rw [hheap r (R.lt hb rfl).2]; exact h3, h4.mono m⟩
    · intro b r base size j hb hs
      rcases hcase r j hs with hs | hs
      · exact R.stOwn b r base size j hb hs
      · have := (R.lt hb rfl).2; omega
    · intro k r used u size j hb hs
      rcases hcase r j hs with hs | hs
      · exact R.stTail k r used u size j hb hs
      · have := (R.lt hb rfl).2; omega
  · exact { toMono := m, size := f.size, stNew := fun r j h => (hcase r j h).imp id .inl, blkNew := fun b e r hb he => .inl ⟨b, e, hb, he⟩, keepBlk := fun r hr _ => hheap r hr,
            idNew := fun _ _ h => h, os := f.os, output := f.output, tape := f.tape }
end
end Go.Eng
