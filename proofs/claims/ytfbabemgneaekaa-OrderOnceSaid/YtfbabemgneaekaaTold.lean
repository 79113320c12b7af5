/- Which cells are told. -/
import Derived.Test.YtfbabemgneaekaaStep
import Derived.Test.YtfbabemgneaekaaConftells
import Derived.Test.YtfbabemgneaekaaOrder
namespace Go.Proofs.Ytfbabemgneaekaa
open Go.Eng
set_option linter.unusedVariables false
set_option linter.unusedSimpArgs false

/-! ### A row that is filled from the left -/
def flG {α : Type} (d : α) (v : Nat → α) (n k : Nat) : List α := (List.range n).map fun i => if i < k then v i else d
theorem flG_len {α : Type} (d : α) (v : Nat → α) (n k : Nat) : (flG d v n k).length = n := by simp [flG]
theorem flG_zero {α : Type} (d : α) (v : Nat → α) (n : Nat) : flG d v n 0 = List.replicate n d := by
  apply List.ext_getElem?
  intro i
  simp only [flG, List.getElem?_map]
  by_cases h : i < n
  · rw [List.getElem?_range h]; simp [h]
  · rw [List.getElem?_eq_none (by simpa using h), List.getElem?_eq_none (by simpa using h)]; rfl
theorem flG_set {α : Type} (d : α) (v : Nat → α) (n k : Nat) (h : k < n) : (flG d v n k).set k (v k) = flG d v n (k + 1) := by
  apply List.ext_getElem?
  intro i
  rw [List.getElem?_set]
  simp only [flG, List.getElem?_map, List.length_map, List.length_range]
  by_cases hi : i < n
  · rw [List.getElem?_range hi]
    by_cases hk : k = i
    · subst hk; simp [h]
    · rw [if_neg hk]
      have : (i < k + 1) = (i < k) := by simp; omega
      simp [this]
  · have hn : (List.range n)[i]? = none := List.getElem?_eq_none (by simpa using hi)
    rw [hn]
    by_cases hk : k = i
    · omega
    · rw [if_neg hk]; rfl
theorem flG_full {α : Type} (d : α) (v : Nat → α) (n : Nat) : flG d v n n = (List.range n).map v := by
  simp only [flG]
  apply List.map_congr_left
  intro i hi
  simp at hi; simp [hi]

/-! ### Maps -/
theorem mfind_some {n : Int} : ∀ {es : List (Int × Int)} {i : Nat} {q : Nat × Int}, Dat.mfind n es i = some q → i ≤ q.1 ∧ ∃ p, es[q.1 - i]? = some p ∧ p.1 = n ∧ p.2 = q.2
  | [], i, q, h => by simp [Dat.mfind] at h
  | p :: es, i, q, h => by
    simp only [Dat.mfind] at h
    split at h
    · rename_i hp
      simp at h; subst h
      simp only [beq_iff_eq] at hp
      exact ⟨Nat.le_refl _, p, by simp, hp.symm, rfl⟩
    · obtain ⟨h1, p', h2, h3⟩ := mfind_some h
      exact ⟨by omega, p', by rw [show q.1 - i = (q.1 - (i + 1)) + 1 by omega]; simpa using h2, h3⟩
theorem mfind_append {n : Int} {p : Int × Int} : ∀ (es : List (Int × Int)) (i : Nat), Dat.mfind n (es ++ [p]) i = match Dat.mfind n es i with | some q => some q | none => if n == p.1 then some (i + es.length, p.2) else none
  | [], i => by simp [Dat.mfind]
  | x :: es, i => by
    have := mfind_append (n := n) (p := p) es (i + 1)
    simp only [List.cons_append, Dat.mfind]
    by_cases h : (n == x.1) = true
    · rw [if_pos h, if_pos h]
    · rw [if_neg h, if_neg h, this, List.length_cons, show i + 1 + es.length = i + (es.length + 1) by omega]
/-- What a key has, where it is there. -/
def mval (es : List (Int × Int)) (b : Int) : Option Int := (Dat.mfind b es 0).map (·.2)
theorem mget_eq (es : List (Int × Int)) (b : Int) : Dat.mget es b = (mval es b).getD 0 := rfl
theorem mhas_eq (es : List (Int × Int)) (b : Int) : Dat.mhas es b = (mval es b).isSome := by simp [Dat.mhas, mval]
theorem mfind_set {n v b : Int} : ∀ (es : List (Int × Int)) (i j : Nat) (w : Int), Dat.mfind n es i = some (j, w) → (Dat.mfind b (es.set (j - i) (n, v)) i).map (·.2) = if b = n then some v else (Dat.mfind b es i).map (·.2)
  | [], i, j, w, h => by simp [Dat.mfind] at h
  | x :: es, i, j, w, h => by
    simp only [Dat.mfind] at h
    split at h
    · rename_i hx
      simp only [Option.some.injEq, Prod.mk.injEq] at h
      obtain ⟨rfl, rfl⟩ := h
      simp only [beq_iff_eq] at hx
      rw [Nat.sub_self, List.set_cons_zero]
      simp only [Dat.mfind]
      by_cases hb : b = n
      · subst hb; simp
      · rw [if_neg (by simpa using hb), if_neg hb, if_neg (by simpa [← hx] using hb)]
    · rename_i hx
      have hle := (mfind_some h).1
      have ih := mfind_set (b := b) (v := v) es (i + 1) j w h
      rw [show j - i = (j - (i + 1)) + 1 by simp at hle; omega, List.set_cons_succ]
      simp only [Dat.mfind]
      by_cases hbx : (b == x.1) = true
      · rw [if_pos hbx, if_pos hbx]
        simp only [beq_iff_eq] at hbx hx
        rw [if_neg (fun e : b = n => hx (e.symm.trans hbx))]
      · rw [if_neg hbx, if_neg hbx, ih]
theorem mval_put (es : List (Int × Int)) (n v b : Int) : mval (Dat.mput es n v) b = if b = n then some v else mval es b := by
  unfold mval Dat.mput
  cases h : Dat.mfind n es 0 with
  | some q =>
    have := mfind_set (b := b) (v := v) es 0 q.1 q.2 h
    simpa using this
  | none =>
    simp only [mfind_append]
    by_cases hb : b = n
    · subst hb; rw [h]; simp
    · rw [if_neg hb]
      cases hx : Dat.mfind b es 0 with
      | some q => rfl
      | none => simp [hb]

/-! ### Units -/
abbrev UnT := Int × (Int × (Int × (List Int × Unit)))
def unitOk (c : CfgT) (u : UnT) : Bool := decide ((u.1 = 0 ∧ u.2.1 = 0 ∧ u.2.2.2.1.length = 0) ∨ (u.1 = 1 ∧ 0 ≤ u.2.1 ∧ u.2.1 < c.1 ∧ u.2.2.2.1.length = 0) ∨ (u.1 = 2 ∧ 0 ≤ u.2.1 ∧ u.2.1 < c.1 ∧ (u.2.2.2.1.length : Int) = c.2.1))
theorem bool_of {b : Bool} {p : Prop} [Decidable p] (h : b = true ↔ p) : (some b : Option Bool) = some (decide p) := by
  congr 1; rw [Bool.eq_iff_iff, h, decide_eq_true_iff]

theorem order_mayBe_spec (c : CfgT) (u : UnT) : order_mayBe (c, u) = some (unitOk c u) := by
  obtain ⟨k, p, f, d, ⟨⟩⟩ := u
  unfold order_mayBe unitOk
  simp only [Dat.pickB, if_true, Dat.ofN, Dat.len, Dat.ieq, Dat.ige, Dat.ilt]
  by_cases h0 : k = 0
  · subst h0
    simp only [beq_self_eq_true, cond_true]
    by_cases h1 : p ≥ 0
    · rw [decide_eq_true h1, cond_true]
      by_cases h2 : p < 1
      · rw [decide_eq_true h2, cond_true]
        refine bool_of ?_
        simp; omega
      · rw [decide_eq_false h2, cond_false]; congr 1; simp; omega
    · rw [decide_eq_false h1, cond_false]; congr 1; simp; omega
  · rw [show (k == 0) = false by simpa using h0, cond_false]
    by_cases h1 : k = 1
    · subst h1
      simp only [beq_self_eq_true, cond_true]
      by_cases h1 : p ≥ 0
      · rw [decide_eq_true h1, cond_true]
        by_cases h2 : p < c.1
        · rw [decide_eq_true h2, cond_true]
          refine bool_of ?_
          simp [h1, h2]
        · rw [decide_eq_false h2, cond_false]; congr 1; simp [h2]
      · rw [decide_eq_false h1, cond_false]; congr 1; simp; omega
    · rw [show (k == 1) = false by simpa using h1, cond_false]
      by_cases h2 : k = 2
      · subst h2
        simp only [beq_self_eq_true, cond_true]
        by_cases h1 : p ≥ 0
        · rw [decide_eq_true h1, cond_true]
          by_cases h2 : p < c.1
          · rw [decide_eq_true h2, cond_true]
            refine bool_of ?_
            simp [h1, h2]
          · rw [decide_eq_false h2, cond_false]; congr 1; simp [h2]
        · rw [decide_eq_false h1, cond_false]; congr 1; simp; omega
      · rw [show (k == 2) = false by simpa using h2, cond_false]; congr 1; simp; omega

theorem ref20_MayUnit_spec (c : CfgT) (u : UnT) : ref20_MayUnit (c, u) = some (unitOk c u) := by
  obtain ⟨k, p, f, d, ⟨⟩⟩ := u
  unfold ref20_MayUnit unitOk
  simp only [Dat.pickB, if_true, Dat.ofN, Dat.len, Dat.ieq, Dat.ige, Dat.ilt]
  by_cases h0 : k = 0
  · subst h0
    simp only [beq_self_eq_true, cond_true]
    by_cases h1 : p = 0
    · rw [show (p == 0) = true by simpa using h1, cond_true]
      refine bool_of ?_
      simp; omega
    · rw [show (p == 0) = false by simpa using h1, cond_false]; congr 1; simp; omega
  · rw [show (k == 0) = false by simpa using h0, cond_false]
    by_cases h1 : k = 1
    · subst h1
      simp only [beq_self_eq_true, cond_true]
      by_cases h1 : p ≥ 0
      · rw [decide_eq_true h1, cond_true]
        by_cases h2 : p < c.1
        · rw [decide_eq_true h2, cond_true]
          refine bool_of ?_
          simp [h1, h2]
        · rw [decide_eq_false h2, cond_false]; congr 1; simp [h2]
      · rw [decide_eq_false h1, cond_false]; congr 1; simp; omega
    · rw [show (k == 1) = false by simpa using h1, cond_false]
      by_cases h2 : k = 2
      · subst h2
        simp only [beq_self_eq_true, cond_true]
        by_cases h1 : p ≥ 0
        · rw [decide_eq_true h1, cond_true]
          by_cases h2 : p < c.1
          · rw [decide_eq_true h2, cond_true]
            refine bool_of ?_
            simp [h1, h2]
          · rw [decide_eq_false h2, cond_false]; congr 1; simp [h2]
        · rw [decide_eq_false h1, cond_false]; congr 1; simp; omega
      · rw [show (k == 2) = false by simpa using h2, cond_false]; congr 1; simp; omega

/-- The error of a config and units. -/
noncomputable def askS (c : CfgT) (l : List UnT) : Int := if mayB c then (if l.length > 512 then 4 else if l.all (unitOk c) then 0 else 2) else 8
noncomputable def nLev (c : CfgT) : Nat := (LV c c.1 c.2.1).length

theorem ask_loop {β : Type} (c : CfgT) (l : List UnT) (A B : Option β) (r : β) (hA : l.all (unitOk c) = true → A = some r) (hB : l.all (unitOk c) = false → B = some r) (hl : l.length < 4611686018427387904)
    (f : CfgT × UnT → Option Bool) (hf : ∀ u, f (c, u) = some (unitOk c u)) :
    Dat.loop (fun (s2 : Int) (k3 : Int → Option β) => (bif (Dat.ilt s2 (Dat.ofN (Dat.len l))) then if (Dat.Ix s2 (Dat.len l)) then Dat.bnd (Dat.get l (Dat.toN s2) (0, (0, (0, (([] : List (Int)), ()))))) fun (x6 : UnT) =>
      Dat.bind (f (c, (x6.1, (x6.2.1, (x6.2.2.1, (x6.2.2.2.1, ())))))) fun (x7 : Bool) =>
      (bif (Dat.bnot x7) then B
      else Dat.bnd (Dat.wrap .i64 (Dat.add s2 1)) fun (x8 : Int) => k3 x8)
      else none
      else A)) 0 = some r := by
  refine loop_inv (fun s => ∃ i : Nat, i ≤ l.length ∧ s = (i : Int) ∧ (l.take i).all (unitOk c) = true) (fun s => l.length - s.toNat) ?_ ⟨0, by omega, rfl, by simp⟩ (mu_lt l.length _ (by omega))
  rintro s k ⟨i, hi, rfl, hall⟩ hk
  by_cases h : i < l.length
  · refine cond_t (decide_eq_true (by simp only [Dat.ofN, Dat.len]; omega)) ?_
    refine ite_some ⟨by omega, by simp only [Dat.len]; omega⟩ ?_
    refine bnd_to (y := l[i]) (by simp [Dat.get, Dat.toN, List.getD, h]) ?_
    refine bind_to (hf l[i]) ?_
    cases hu : unitOk c l[i] with
    | false =>
      refine cond_t rfl (hB ?_)
      rw [List.all_eq_false]
      exact ⟨l[i], List.getElem_mem h, by simp [hu]⟩
    | true =>
      refine cond_f rfl ?_
      refine bnd_to (wrapI (by simp only [Dat.add]; omega)) ?_
      refine hk _ ⟨i + 1, by omega, rfl, ?_⟩ (by show l.length - ((i : Int) + 1).toNat < l.length - ((i : Int)).toNat; omega)
      rw [List.take_succ_eq_append_getElem h, List.all_append, hall]
      simp [hu]
  · refine cond_f (decide_eq_false (by simp only [Dat.ofN, Dat.len]; omega)) (hA ?_)
    rw [List.take_of_length_le (by omega)] at hall
    exact hall

theorem allS_n (c : CfgT) : (allS c).length = nLev c := by simp [allS, nLev]

theorem order_asked_spec (c : CfgT) (l : List UnT) : order_asked (c, l) = some (if askS c l = 0 then ((nLev c : Int), 0) else (0, askS c l)) := by
  unfold order_asked askS
  simp only [eta c]
  refine bind_to (conf_Levels_spec c) ?_
  cases hm : mayB c with
  | false => exact cond_t rfl rfl
  | true =>
    refine cond_f rfl ?_
    simp only [if_true]
    by_cases hl : l.length > 512
    · refine cond_t (by simp [Dat.igt]; omega) ?_
      rw [if_pos hl]; rfl
    · refine cond_f (by simp [Dat.igt]; omega) ?_
      rw [if_neg hl]
      refine ask_loop c l _ _ _ (fun h => ?_) (fun h => ?_) (by omega) order_mayBe (order_mayBe_spec c)
      · rw [h, if_pos rfl, if_pos rfl]
        simp only [Dat.ofN, Dat.len, allS_n]
      · rw [h]; rfl

theorem ref21_asked_spec (c : CfgT) (l : List UnT) : ref21_asked (c, l) = some (askS c l) := by
  unfold ref21_asked askS
  simp only [eta c]
  refine bind_to (ref08_May_spec c) ?_
  cases hm : mayB c with
  | false => exact cond_t rfl rfl
  | true =>
    refine cond_f rfl ?_
    simp only [if_true]
    by_cases hl : l.length > 512
    · refine cond_t (by simp [Dat.igt]; omega) ?_
      rw [if_pos hl]
    · refine cond_f (by simp [Dat.igt]; omega) ?_
      rw [if_neg hl]
      refine ask_loop c l _ _ _ (fun h => ?_) (fun h => ?_) (by omega) ref20_MayUnit (ref20_MayUnit_spec c)
      · rw [h]; rfl
      · rw [h]; rfl
end Go.Proofs.Ytfbabemgneaekaa
