/- Plans: how they are made, and how they are looked at. -/
import Derived.Test.YtjfiojmfcpeaoaaEH3b
namespace Go.Eng
set_option linter.unusedVariables false

def touchB (ops : Array Oper) (i j : Nat) : Bool :=
  (match dstOf ops i with
  | some d => (looks ops j).contains d || dstOf ops j == some d
  | none => false) ||
  (match dstOf ops j with
  | some d => (looks ops i).contains d
  | none => false)

theorem touchB_of {ops : Array Oper} {i j : Nat} (h : touch ops i j) : touchB ops i j = true := by
  obtain ⟨d, ⟨h1, h2⟩ | ⟨h1, h2⟩⟩ := h
  · unfold touchB; rw [h1]
    rcases h2 with h2 | h2
    · simp [h2]
    · simp [h2]
  · unfold touchB; rw [h1]; simp [h2]

def pairB {α : Type} (f : α → α → Bool) : List α → Bool
  | [] => true
  | x :: xs => xs.all (f x) && pairB f xs

theorem pairB_get {α : Type} {f : α → α → Bool} : ∀ {L : List α} {p q : Nat} {x y : α}, pairB f L = true → p < q → L[p]? = some x → L[q]? = some y → f x y = true
  | [], p, q, x, y, h, hpq, hx, hy => by simp at hx
  | a :: L, 0, q + 1, x, y, h, hpq, hx, hy => by
    simp only [pairB, Bool.and_eq_true, List.all_eq_true] at h
    simp at hx; subst hx
    exact h.1 y (List.mem_of_getElem? (by simpa using hy))
  | a :: L, p + 1, q + 1, x, y, h, hpq, hx, hy => by
    simp only [pairB, Bool.and_eq_true] at h
    exact pairB_get (p := p) (q := q) h.2 (by omega) (by simpa using hx) (by simpa using hy)

def linB (ops : Array Oper) (seen : List Nat) : List (Nat × List Nat) → Bool
  | [] => true
  | (j, _) :: l => (deps ops j).all seen.contains && linB ops (j :: seen) l

theorem linB_get {ops : Array Oper} : ∀ {L : List (Nat × List Nat)} {seen : List Nat} {p j : Nat} {rs : List Nat}, linB ops seen L = true → L[p]? = some (j, rs) → ∀ e ∈ deps ops j, e ∈ seen ∨ ∃ (q : Nat) (rs' : List Nat), q < p ∧ L[q]? = some (e, rs')
  | [], seen, p, j, rs, h, hp, e, he => by simp at hp
  | (k, rk) :: L, seen, 0, j, rs, h, hp, e, he => by
    simp only [linB, Bool.and_eq_true, List.all_eq_true] at h
    simp at hp; obtain ⟨rfl, rfl⟩ := hp
    exact .inl (by simpa using h.1 e he)
  | (k, rk) :: L, seen, p + 1, j, rs, h, hp, e, he => by
    simp only [linB, Bool.and_eq_true] at h
    rcases linB_get h.2 (by simpa using hp) e he with hx | ⟨q, rs', hq, hqe⟩
    · rcases List.mem_cons.1 hx with rfl | hx
      · exact .inr ⟨0, rk, by omega, by simp⟩
      · exact .inl hx
    · exact .inr ⟨q + 1, rs', by omega, by simpa using hqe⟩

def bitsOf (bs : Array Nat) (es : List Nat) : Nat := es.foldl (fun s e => s ||| (2 ^ e ||| bs.getD e 0)) 0

theorem testBit_fold (bs : Array Nat) (i : Nat) : ∀ (es : List Nat) (s : Nat), (es.foldl (fun s e => s ||| (2 ^ e ||| bs.getD e 0)) s).testBit i = true → s.testBit i = true ∨ ∃ e ∈ es, e = i ∨ (bs.getD e 0).testBit i = true
  | [], s, h => .inl h
  | e :: es, s, h => by
    rcases testBit_fold bs i es _ h with h | ⟨x, hx, hy⟩
    · rw [Nat.testBit_or, Nat.testBit_or, Bool.or_eq_true, Bool.or_eq_true] at h
      rcases h with h | h | h
      · exact .inl h
      · rw [Nat.testBit_two_pow] at h; exact .inr ⟨e, by simp, .inl (by simpa using h)⟩
      · exact .inr ⟨e, by simp, .inr h⟩
    · exact .inr ⟨x, by simp [hx], hy⟩

/-- No operation since i has written what i looks at, or its slot. -/
def sinceB (ops : Array Oper) (i : Nat) : List (Nat × List Nat) → Bool
  | [] => true
  | (w, _) :: pre => if w = i then (match dstOf ops i with
      | some d => !(looks ops i).contains d
      | none => true)
    else (match dstOf ops w with
      | some d => !(looks ops i).contains d && dstOf ops i != some d
      | none => true) && sinceB ops i pre

def againB (ops : Array Oper) (pre : List (Nat × List Nat)) : List (Nat × List Nat) → Bool
  | [] => true
  | (j, rs) :: l => rs.all (fun i => sinceB ops i pre) && againB ops ((j, rs) :: pre) l

def planB (ops : Array Oper) (plan : List (Nat × List Nat)) (bs : Array Nat) : Bool :=
  plan.length == ops.size && plan.all (fun p => decide (p.1 < ops.size)) && pairB (fun x y => x.1 != y.1) plan && (List.range ops.size).all (fun i => plan.any fun p => p.1 == i) && linB ops [] plan &&
  (bs.size == ops.size && (List.range ops.size).all fun j => bs.getD j 0 == bitsOf bs (deps ops j)) &&
  pairB (fun x y => !touchB ops x.1 y.1 || anc bs x.1 y.1) plan && pairB (fun x y => !loudAt ops x.1 || anc bs x.1 y.1) plan &&
  pairB (fun x y => !loudAt ops y.1 || (anc bs x.1 y.1 || stillAt ops x.1 || y.2.contains x.1)) plan && againB ops [] plan

theorem againB_get {ops : Array Oper} : ∀ {L pre : List (Nat × List Nat)} {q j i : Nat} {rs : List Nat}, againB ops pre L = true → L[q]? = some (j, rs) → i ∈ rs → sinceB ops i ((L.take q).reverse ++ pre) = true
  | [], pre, q, j, i, rs, h, hq, hi => by simp at hq
  | (k, rk) :: L, pre, 0, j, i, rs, h, hq, hi => by
    simp only [againB, Bool.and_eq_true, List.all_eq_true] at h
    simp at hq; obtain ⟨rfl, rfl⟩ := hq
    simpa using h.1 i hi
  | (k, rk) :: L, pre, q + 1, j, i, rs, h, hq, hi => by
    simp only [againB, Bool.and_eq_true] at h
    have := againB_get (q := q) h.2 (by simpa using hq) hi
    simpa using this

theorem sinceB_get {ops : Array Oper} {i : Nat} : ∀ {pre : List (Nat × List Nat)} {p : Nat} {rs : List Nat}, sinceB ops i pre = true → pre[p]? = some (i, rs) → (∀ (q : Nat) (x : Nat × List Nat), q < p → pre[q]? = some x → x.1 ≠ i) →
    (∀ t, dstOf ops i = some t → t ∉ looks ops i) ∧ ∀ (q w : Nat) (rs' : List Nat), q < p → pre[q]? = some (w, rs') → ∀ t, dstOf ops w = some t → t ∉ looks ops i ∧ dstOf ops i ≠ some t
  | [], p, rs, h, hp, hne => by simp at hp
  | (w, rw) :: pre, 0, rs, h, hp, hne => by
    simp at hp; obtain ⟨rfl, rfl⟩ := hp
    simp only [sinceB, if_true] at h
    refine ⟨fun t ht => ?_, fun q w rs' hq => by omega⟩
    rw [ht] at h; simpa using h
  | (w, rw) :: pre, p + 1, rs, h, hp, hne => by
    have hw : w ≠ i := hne 0 (w, rw) (by omega) (by simp)
    simp only [sinceB, if_neg hw, Bool.and_eq_true] at h
    obtain ⟨h1, h2⟩ := sinceB_get (p := p) h.2 (by simpa using hp) fun q x hq hx => hne (q + 1) x (by omega) (by simpa using hx)
    refine ⟨h1, fun q w' rs' hq hx t ht => ?_⟩
    cases q with
    | zero =>
      simp at hx; obtain ⟨rfl, rfl⟩ := hx
      have h3 := h.1
      rw [ht] at h3
      simpa using h3
    | succ q => exact h2 q w' rs' (by omega) (by simpa using hx) t ht

theorem planB_ok {ops : Array Oper} {plan : List (Nat × List Nat)} {bs : Array Nat} (h : planB ops plan bs = true) : PlanOkW ops plan bs := by
  simp only [planB, Bool.and_eq_true, List.all_eq_true, decide_eq_true_eq, beq_iff_eq, List.any_eq_true, List.mem_range] at h
  obtain ⟨⟨⟨⟨⟨⟨⟨⟨⟨hlen, hlt⟩, hinj⟩, hmem⟩, hlin⟩, hbs, hbits⟩, hslots⟩, hl1⟩, hl2⟩, hag⟩ := h
  have inj : ∀ (p q i : Nat) (rs rs' : List Nat), plan[p]? = some (i, rs) → plan[q]? = some (i, rs') → p = q := by
    intro p q i rs rs' hp hq
    rcases Nat.lt_trichotomy p q with hlt | rfl | hlt
    · have := pairB_get hinj hlt hp hq; simp at this
    · rfl
    · have := pairB_get hinj hlt hq hp; simp at this
  have since : ∀ (p q i j : Nat) (rs rs' : List Nat), p < q → plan[p]? = some (i, rs) → plan[q]? = some (j, rs') → i ∈ rs' →
      (∀ t, dstOf ops i = some t → t ∉ looks ops i) ∧ ∀ (k w : Nat) (rs'' : List Nat), p < k → k < q → plan[k]? = some (w, rs'') → ∀ t, dstOf ops w = some t → t ∉ looks ops i ∧ dstOf ops i ≠ some t := by
    intro p q i j rs rs' hpq hp hq hi
    have h1 := againB_get hag hq hi
    rw [List.append_nil] at h1
    have hql := (List.getElem?_eq_some_iff.1 hq).1
    have hrev : ∀ k, k < q → (plan.take q).reverse[q - 1 - k]? = plan[k]? := by
      intro k hk
      rw [List.getElem?_reverse (by simp; omega)]
      rw [List.getElem?_take_of_lt (by simp; omega)]
      congr 1; simp; omega
    obtain ⟨h2, h3⟩ := sinceB_get (p := q - 1 - p) h1 (by rw [hrev p hpq]; exact hp) (by
      intro k x hk hx e
      have hk' : k = q - 1 - (q - 1 - k) := by omega
      rw [hk', hrev (q - 1 - k) (by omega)] at hx
      have := inj _ _ i x.2 rs (by rw [hx, ← e]) hp
      omega)
    refine ⟨h2, fun k w rs'' hpk hkq hk t ht => h3 (q - 1 - k) w rs'' (by omega) (by rw [hrev k hkq]; exact hk) t ht⟩
  refine ⟨hlen, ?_, ?_, inj, ?_, ?_, ?_, ?_, ?_, ?_, ?_⟩
  · intro i hi
    obtain ⟨x, hx, hxi⟩ := hmem i hi
    obtain ⟨p, hp⟩ := List.mem_iff_getElem?.1 hx
    exact ⟨p, x.2, by rw [hp, ← hxi]⟩
  · intro p i rs hp; exact hlt _ (List.mem_of_getElem? hp)
  · intro p j rs hp e he
    rcases linB_get hlin hp e he with h1 | h1
    · simp at h1
    · exact h1
  · intro i j hij
    by_cases hj : j < ops.size
    · unfold anc at hij ⊢
      rw [hbits j hj] at hij
      rcases testBit_fold bs i (deps ops j) 0 hij with h1 | ⟨e, he, h1⟩
      · simp at h1
      · exact ⟨e, he, h1⟩
    · unfold anc at hij
      have : bs.getD j 0 = 0 := by simp [Array.getD, show ¬ j < bs.size by omega]
      rw [this] at hij; simp at hij
  · intro p q i j rs rs' hpq hp hq ht
    have := pairB_get hslots hpq hp hq
    simpa [touchB_of ht] using this
  · intro p q i j rs rs' hpq hp hq ht
    have := pairB_get hl1 hpq hp hq
    simpa [ht] using this
  · intro p q i j rs rs' hpq hp hq ht
    have := pairB_get hl2 hpq hp hq
    simp only [ht, Bool.not_true, Bool.false_or, Bool.or_eq_true] at this
    rcases this with (h1 | h1) | h1
    · exact .inl h1
    · exact .inr (.inl h1)
    · exact .inr (.inr (by simpa using h1))
  · intro p k q i w j rs rs'' rs' hpk hkq hp hk hq hi t ht
    exact (since p q i j rs rs' (by omega) hp hq hi).2 k w rs'' hpk hkq hk t ht
  · intro p q i j rs rs' hpq hp hq hi
    exact (since p q i j rs rs' hpq hp hq hi).1

def bitsTab (ops : Array Oper) : Array Nat := Region.before ops

def pickNext (ops : Array Oper) (seen : List Nat) (left : List Nat) : Option Nat :=
  let rs := left.filter fun i => (deps ops i).all seen.contains
  match rs.find? (fun i => !loudAt ops i) with
  | some i => some i
  | none => rs.head?

def planGo (ops : Array Oper) (bs : Array Nat) : Nat → List Nat → List Nat → List (Nat × List Nat)
  | 0, _, _ => []
  | n + 1, seen, left =>
    match pickNext ops seen left with
    | none => []
    | some i => (i, if loudAt ops i then seen.filter (fun k => !anc bs k i && !stillAt ops k) else []) :: planGo ops bs n (i :: seen) (left.filter (· != i))

def mkPlan (ops : Array Oper) : List (Nat × List Nat) := planGo ops (bitsTab ops) ops.size [] (List.range ops.size)
end Go.Eng
