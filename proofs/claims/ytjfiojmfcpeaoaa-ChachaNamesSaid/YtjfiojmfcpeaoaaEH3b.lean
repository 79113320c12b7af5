/- Regions in any order: plans, and slots. -/
import Derived.Test.YtjfiojmfcpeaoaaEH3a
import Derived.Orders
namespace Go.Eng
set_option linter.unusedVariables false

def Closed (ops : Array Oper) (D : Nat → Bool) : Prop := ∀ j, D j = true → ∀ e ∈ deps ops j, D e = true

theorem PlanOkW.anc_in {ops : Array Oper} {plan : List (Nat × List Nat)} {bs : Array Nat} (p : PlanOkW ops plan bs) {D : Nat → Bool} (hD : Closed ops D) (hlt : ∀ i, D i = true → i < ops.size) {j : Nat}
    (hj : ∀ e ∈ deps ops j, D e = true) {i : Nat} (h : anc bs i j = true) : D i = true := by
  have key : ∀ (n q j : Nat) (rs : List Nat), q < n → plan[q]? = some (j, rs) → D j = true → ∀ i, anc bs i j = true → D i = true := by
    intro n
    induction n with
    | zero => intro q j rs hq; omega
    | succ n ih =>
      intro q j rs hq hp hj i hi
      obtain ⟨e, he, hx⟩ := p.step i j hi
      have hde := hD j hj e he
      rcases hx with rfl | hx
      · exact hde
      · obtain ⟨q', rs', hq', hp'⟩ := p.lin q j rs hp e he
        exact ih q' e rs' (by omega) hp' hde i hx
  obtain ⟨e, he, hx⟩ := p.step i j h
  have hde := hj e he
  rcases hx with rfl | hx
  · exact hde
  · obtain ⟨q, rs, hq⟩ := p.mem e (hlt e hde)
    exact key (q + 1) q e rs (by omega) hq hde i hx

structure Rec where
  i : Nat
  rs : List Nat
  o : Oper
  val : CV
  live : Bool
  n : Nat
  new : Option HObj
  tmps : List CV

def Rec.key (r : Rec) : Nat × List Nat := (r.i, r.rs)

def fold (L : List Rec) (T : List CV) : List CV := L.foldl (fun T r => putC T r.o.dst r.val) T

theorem fold_append (A B : List Rec) (T : List CV) : fold (A ++ B) T = fold B (fold A T) := by simp [fold]
theorem fold_cons (r : Rec) (B : List Rec) (T : List CV) : fold (r :: B) T = fold B (putC T r.o.dst r.val) := rfl

theorem putC_other {T : List CV} {dst : Option Tmp} {v : CV} {t : Tmp} (h : dst ≠ some t) : (putC T dst v)[t]? = T[t]? := by
  cases dst with
  | none => rfl
  | some d => simp only [putC]; exact List.getElem?_set_ne (by intro e; subst e; exact h rfl)
theorem putC_congr {T T' : List CV} {dst : Option Tmp} {v : CV} {t : Tmp} (hl : T.length = T'.length) (h : T[t]? = T'[t]?) : (putC T dst v)[t]? = (putC T' dst v)[t]? := by
  cases dst with
  | none => exact h
  | some d => simp only [putC, List.getElem?_set, hl, h]
theorem putC_length (T : List CV) (dst : Option Tmp) (v : CV) : (putC T dst v).length = T.length := by cases dst <;> simp [putC]
theorem fold_length (L : List Rec) : ∀ T, (fold L T).length = T.length := by
  induction L with
  | nil => intro T; rfl
  | cons r L ih => intro T; rw [fold_cons, ih, putC_length]

theorem fold_none {t : Tmp} : ∀ (L : List Rec) (T : List CV), (∀ r ∈ L, r.o.dst ≠ some t) → (fold L T)[t]? = T[t]?
  | [], T, h => rfl
  | r :: L, T, h => by rw [fold_cons, fold_none L _ fun r' hr => h r' (by simp [hr]), putC_other (h r (by simp))]

theorem fold_congr {t : Tmp} : ∀ (L : List Rec) (T T' : List CV), T.length = T'.length → T[t]? = T'[t]? → (fold L T)[t]? = (fold L T')[t]?
  | [], T, T', _, h => h
  | r :: L, T, T', hl, h => by rw [fold_cons, fold_cons]; exact fold_congr L _ _ (by simp [putC_length, hl]) (putC_congr hl h)

theorem fold_filter {t : Tmp} (D : Rec → Bool) : ∀ (L : List Rec) (T : List CV), (∀ r ∈ L, r.o.dst = some t → D r = true) → (fold (L.filter D) T)[t]? = (fold L T)[t]?
  | [], T, h => rfl
  | r :: L, T, h => by
    have ih := @fold_filter t D L
    rw [List.filter_cons]
    split
    · rw [fold_cons, fold_cons]; exact ih _ fun r' hr => h r' (by simp [hr])
    · rename_i hD
      have hne : r.o.dst ≠ some t := fun e => hD (h r (by simp) e)
      rw [fold_cons, ih _ fun r' hr => h r' (by simp [hr])]
      exact fold_congr L _ _ (by simp [putC_length]) (putC_other hne).symm

theorem putC_comm {T : List CV} {d e : Option Tmp} {v u : CV} (h : ∀ t, d = some t → e ≠ some t) : putC (putC T d v) e u = putC (putC T e u) d v := by
  cases d with
  | none => rfl
  | some d =>
    cases e with
    | none => rfl
    | some e => simp only [putC]; exact List.set_comm _ _ (by intro x; subst x; exact h d rfl rfl)

theorem fold_put {d : Option Tmp} {v : CV} : ∀ (L : List Rec) (T : List CV), (∀ r ∈ L, ∀ t, d = some t → r.o.dst ≠ some t) → fold L (putC T d v) = putC (fold L T) d v
  | [], T, h => rfl
  | r :: L, T, h => by
    rw [fold_cons, fold_cons, putC_comm (h r (by simp)), fold_put L _ fun r' hr => h r' (by simp [hr])]

section
variable {ops : Array Oper} {plan : List (Nat × List Nat)} {bs : Array Nat} {old : List Rec} {l : List (Nat × List Nat)} {D : Nat → Bool}

theorem get_key (hp : plan = old.map Rec.key ++ l) {p : Nat} {r : Rec} (h : old[p]? = some r) : plan[p]? = some (r.i, r.rs) := by
  have hlt := (List.getElem?_eq_some_iff.1 h).1
  rw [hp, List.getElem?_append_left (by simpa using hlt)]
  simp [h, Rec.key]

/-- Slots that an operation at hand looks at are as they were in the plan's order. -/
theorem slot_agree (P : PlanOkW ops plan bs) (hp : plan = old.map Rec.key ++ l) (hop : ∀ r ∈ old, ops[r.i]? = some r.o) (hD : Closed ops D) (hlt : ∀ i, D i = true → i < ops.size) {T0 : List CV} {p : Nat} {r : Rec} (hr : old[p]? = some r)
    (hn : D r.i = false) (hd : ∀ e ∈ deps ops r.i, D e = true) {t : Tmp} (ht : t ∈ looks ops r.i) : (fold (old.filter (fun r => D r.i)) T0)[t]? = (fold (old.take p) T0)[t]? := by
  have hpl := (List.getElem?_eq_some_iff.1 hr).1
  have hget : ∀ {q : Nat} {r' : Rec}, old[q]? = some r' → dstOf ops r'.i = r'.o.dst := fun {q r'} h => by simp [dstOf, hop r' (List.mem_of_getElem? h)]
  have hsplit : old = old.take p ++ r :: old.drop (p + 1) := by
    have h1 := List.drop_eq_getElem_cons hpl
    rw [(List.getElem?_eq_some_iff.1 hr).2] at h1
    rw [← h1]
    exact (List.take_append_drop p old).symm
  conv => lhs; rw [hsplit]
  rw [List.filter_append, fold_append, fold_none]
  · apply fold_filter
    intro r' hr' hdst
    obtain ⟨q, hq⟩ := List.mem_iff_getElem?.1 hr'
    have hqp : q < p := by have := (List.getElem?_eq_some_iff.1 hq).1; simp at this; omega
    rw [List.getElem?_take_of_lt hqp] at hq
    exact P.anc_in hD hlt hd (P.slots q p r'.i r.i _ _ hqp (get_key hp hq) (get_key hp hr) ⟨t, .inl ⟨by rw [hget hq]; exact hdst, .inl ht⟩⟩)
  · intro r' hr' hdst
    rw [List.mem_filter] at hr'
    obtain ⟨hr', hDr⟩ := hr'
    rcases List.mem_cons.1 hr' with rfl | hr'
    · rw [hn] at hDr; simp at hDr
    · obtain ⟨q, hq⟩ := List.mem_iff_getElem?.1 hr'
      rw [List.getElem?_drop] at hq
      have := P.slots p (p + 1 + q) r.i r'.i _ _ (by omega) (get_key hp hr) (get_key hp hq) ⟨t, .inr ⟨by rw [hget hq]; exact hdst, ht⟩⟩
      have := P.anc_in hD hlt (hD r'.i hDr) this
      rw [hn] at this; simp at this

/-- Slots when one more operation is done. -/
theorem slot_put (P : PlanOkW ops plan bs) (hp : plan = old.map Rec.key ++ l) (hop : ∀ r ∈ old, ops[r.i]? = some r.o) (hD : Closed ops D) (hlt : ∀ i, D i = true → i < ops.size) {T0 : List CV} {p : Nat} {r : Rec} (hr : old[p]? = some r)
    (hn : D r.i = false) {D' : Nat → Bool} (hD' : ∀ j, D' j = (D j || j == r.i)) : fold (old.filter (fun r => D' r.i)) T0 = putC (fold (old.filter (fun r => D r.i)) T0) r.o.dst r.val := by
  have hpl := (List.getElem?_eq_some_iff.1 hr).1
  have hget : ∀ {q : Nat} {r' : Rec}, old[q]? = some r' → dstOf ops r'.i = r'.o.dst := fun {q r'} h => by simp [dstOf, hop r' (List.mem_of_getElem? h)]
  have hsplit : old = old.take p ++ r :: old.drop (p + 1) := by
    have h1 := List.drop_eq_getElem_cons hpl
    rw [(List.getElem?_eq_some_iff.1 hr).2] at h1
    rw [← h1]
    exact (List.take_append_drop p old).symm
  have hA : (old.take p).filter (fun r => D' r.i) = (old.take p).filter (fun r => D r.i) := by
    apply List.filter_congr
    intro r' hr'
    obtain ⟨q, hq⟩ := List.mem_iff_getElem?.1 hr'
    have hqp : q < p := by have := (List.getElem?_eq_some_iff.1 hq).1; simp at this; omega
    rw [List.getElem?_take_of_lt hqp] at hq
    have : r'.i ≠ r.i := fun e => by
      have h1 := get_key hp hq
      rw [e] at h1
      have := P.inj _ _ _ _ _ h1 (get_key hp hr); omega
    simp [hD', this]
  have hB : (old.drop (p + 1)).filter (fun r => D' r.i) = (old.drop (p + 1)).filter (fun r => D r.i) := by
    apply List.filter_congr
    intro r' hr'
    obtain ⟨q, hq⟩ := List.mem_iff_getElem?.1 hr'
    rw [List.getElem?_drop] at hq
    have : r'.i ≠ r.i := fun e => by
      have h1 := get_key hp hq
      rw [e] at h1
      have := P.inj _ _ _ _ _ h1 (get_key hp hr); omega
    simp [hD', this]
  have e1 : old.filter (fun r => D' r.i) = (old.take p).filter (fun r => D r.i) ++ r :: (old.drop (p + 1)).filter (fun r => D r.i) := by
    conv => lhs; rw [hsplit]
    rw [List.filter_append, List.filter_cons, hA, hB, if_pos (by simp [hD'])]
  have e2 : old.filter (fun r => D r.i) = (old.take p).filter (fun r => D r.i) ++ (old.drop (p + 1)).filter (fun r => D r.i) := by
    conv => lhs; rw [hsplit]
    rw [List.filter_append, List.filter_cons, if_neg (by simp [hn])]
  rw [e1, e2, fold_append, fold_append, fold_cons, fold_put]
  intro r' hr' t ht hdst
  rw [List.mem_filter] at hr'
  obtain ⟨hr', hDr⟩ := hr'
  obtain ⟨q, hq⟩ := List.mem_iff_getElem?.1 hr'
  rw [List.getElem?_drop] at hq
  have := P.slots p (p + 1 + q) r.i r'.i _ _ (by omega) (get_key hp hr) (get_key hp hq) ⟨t, .inl ⟨by rw [hget hr]; exact ht, .inr (by rw [hget hq]; exact hdst)⟩⟩
  have := P.anc_in hD hlt (hD r'.i hDr) this
  rw [hn] at this; simp at this
end
end Go.Eng
