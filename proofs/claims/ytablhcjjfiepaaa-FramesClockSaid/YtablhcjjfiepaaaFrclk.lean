/- The clock, on lists. -/
import Derived.Test.YtablhcjjfiepaaaFrames
namespace Go.Proofs.Ytablhcjjfiepaaa
open Go.Eng
set_option linter.unusedVariables false
set_option linter.unusedSimpArgs false

def noF : FrT := (0, 0, [], [], false, false, ())
def clr (x : FrT) : FrT := (x.1, x.2.1, x.2.2.1, x.2.2.2.1, false, x.2.2.2.2.2.1, ())
def skipB (x : FrT) : Bool := decide (x.1 = 1) || pinB x.2.2.2.1
theorem skip_clr (x : FrT) : skipB (clr x) = skipB x := rfl
def clk (n h : Nat) : Nat → Nat → List FrT → List FrT × Option Nat
  | 0, _, L => (L, none)
  | m + 1, i, L => if skipB (L.getD ((h + i) % n) noF) = true then clk n h m (i + 1) L
    else if (L.getD ((h + i) % n) noF).2.2.2.2.1 = true then clk n h m (i + 1) (L.set ((h + i) % n) (clr (L.getD ((h + i) % n) noF)))
    else (L, some ((h + i) % n))

theorem pos_surj {n h j : Nat} (hj : j < n) : ∃ k, k < n ∧ (h + k) % n = j := by
  have hn : 0 < n := by omega
  have hr : h % n < n := Nat.mod_lt _ hn
  by_cases c : h % n ≤ j
  · refine ⟨j - h % n, by omega, ?_⟩
    rw [Nat.add_mod, Nat.mod_eq_of_lt (show j - h % n < n by omega), show h % n + (j - h % n) = j by omega]
    exact Nat.mod_eq_of_lt hj
  · refine ⟨j + n - h % n, by omega, ?_⟩
    rw [Nat.add_mod, Nat.mod_eq_of_lt (show j + n - h % n < n by omega), show h % n + (j + n - h % n) = j + n by omega, Nat.add_mod_right]
    exact Nat.mod_eq_of_lt hj
theorem pos_back {n h i k : Nat} (hk : k < i) (he : (h + k) % n = (h + i) % n) : n ≤ i := by
  have h1 : (h + i - (h + k)) % n = 0 := Nat.sub_mod_eq_zero_of_mod_eq he.symm
  rw [show h + i - (h + k) = i - k by omega] at h1
  have := Nat.le_of_dvd (by omega) (Nat.dvd_of_mod_eq_zero h1)
  omega
theorem pos_turn {n h i : Nat} (hi : n ≤ i) : (h + (i - n)) % n = (h + i) % n := by
  have : h + i = h + (i - n) + n := by omega
  rw [this, Nat.add_mod_right]

/-- What a run of the clock leaves. -/
structure ClkR (l : List FrT) (r : List FrT × Option Nat) : Prop where
  none : r.2 = none → ∀ j, j < l.length → skipB (l.getD j noF) = true
  some : ∀ p, r.2 = some p → p < l.length ∧ skipB (l.getD p noF) = false ∧ r.1.length = l.length ∧ (r.1.getD p noF).2.2.2.2.1 = false ∧
    (∀ j, j < l.length → r.1.getD j noF = l.getD j noF ∨ (r.1.getD j noF = clr (l.getD j noF) ∧ skipB (l.getD j noF) = false)) ∧
    ((l.getD p noF).2.2.2.2.1 = true → ∀ j, j < l.length → skipB (l.getD j noF) = false → (l.getD j noF).2.2.2.2.1 = true)

theorem getD_set (L : List FrT) (p j : Nat) (x : FrT) (hp : p < L.length) : (L.set p x).getD j noF = if j = p then x else L.getD j noF := by
  by_cases h : j = p
  · subst h; simp [List.getD, hp]
  · rw [if_neg h]; simp [List.getD, List.getElem?_set_ne (Ne.symm h)]

theorem clk_run {l : List FrT} {h : Nat} (hn : 0 < l.length) : ∀ (m i : Nat) (L : List FrT), i + m = 2 * l.length → L.length = l.length →
    (∀ j, j < l.length → L.getD j noF = l.getD j noF ∨ (L.getD j noF = clr (l.getD j noF) ∧ skipB (l.getD j noF) = false)) →
    (∀ k, k < i → skipB (l.getD ((h + k) % l.length) noF) = false → (l.getD ((h + k) % l.length) noF).2.2.2.2.1 = true ∧ k < l.length) →
    (∀ j, j < l.length → (∀ k, k < i → (h + k) % l.length ≠ j) → L.getD j noF = l.getD j noF) →
    (∀ k, k < i → skipB (l.getD ((h + k) % l.length) noF) = false → L.getD ((h + k) % l.length) noF = clr (l.getD ((h + k) % l.length) noF)) →
    ClkR l (clk l.length h m i L) := by
  intro m
  induction m with
  | zero =>
    intro i L him hL hB hC hD hE
    refine ⟨fun _ j hj => ?_, fun p hp => by simp [clk] at hp⟩
    obtain ⟨k, hk, hkj⟩ := pos_surj (h := h) hj
    cases hs : skipB (l.getD j noF) with
    | true => rfl
    | false =>
      have e : (h + (k + l.length)) % l.length = j := by rw [← Nat.add_assoc, Nat.add_mod_right]; exact hkj
      have := hC (k + l.length) (by omega) (by rw [e]; exact hs)
      omega
  | succ m ih =>
    intro i L him hL hB hC hD hE
    have hp : (h + i) % l.length < l.length := Nat.mod_lt _ hn
    have hsk : skipB (L.getD ((h + i) % l.length) noF) = skipB (l.getD ((h + i) % l.length) noF) := by
      rcases hB _ hp with e | ⟨e, _⟩
      · rw [e]
      · rw [e, skip_clr]
    simp only [clk]
    cases hs : skipB (l.getD ((h + i) % l.length) noF) with
    | true =>
      rw [hsk, hs, if_pos rfl]
      refine ih (i + 1) L (by omega) hL hB ?_ ?_ ?_
      · intro k hk hf
        by_cases e : k = i
        · subst e; rw [hs] at hf; cases hf
        · exact hC k (by omega) hf
      · exact fun j hj hv => hD j hj fun k hk => hv k (by omega)
      · intro k hk hf
        by_cases e : k = i
        · subst e; rw [hs] at hf; cases hf
        · exact hE k (by omega) hf
    | false =>
      rw [hsk, hs, if_neg (by simp)]
      cases hr : (L.getD ((h + i) % l.length) noF).2.2.2.2.1 with
      | true =>
        rw [if_pos rfl]
        have hnv : ∀ k, k < i → (h + k) % l.length ≠ (h + i) % l.length := by
          intro k hk e
          have := hE k hk (by rw [e]; exact hs)
          rw [e] at this
          rw [this] at hr
          simp [clr] at hr
        have hLl := hD _ hp hnv
        have hin : i < l.length := by
          rcases Nat.lt_or_ge i l.length with h1 | h1
          · exact h1
          · exact absurd (pos_turn h1) (hnv (i - l.length) (by omega))
        refine ih (i + 1) _ (by omega) (by simpa using hL) ?_ ?_ ?_ ?_
        · intro j hj
          rw [getD_set _ _ _ _ (by omega)]
          split
          · rename_i e; subst e; exact .inr ⟨by rw [hLl], hs⟩
          · exact hB j hj
        · intro k hk hf
          by_cases e : k = i
          · subst e; exact ⟨by rw [← hLl]; exact hr, hin⟩
          · exact hC k (by omega) hf
        · intro j hj hv
          rw [getD_set _ _ _ _ (by omega), if_neg (fun e => hv i (by omega) e.symm)]
          exact hD j hj fun k hk => hv k (by omega)
        · intro k hk hf
          rw [getD_set _ _ _ _ (by omega)]
          by_cases e : k = i
          · subst e; rw [if_pos rfl, hLl]
          · rw [if_neg (hnv k (by omega))]; exact hE k (by omega) hf
      | false =>
        rw [if_neg (by simp)]
        refine ⟨fun hx => by simp at hx, fun p hpp => ?_⟩
        simp only [Option.some.injEq] at hpp
        subst hpp
        refine ⟨hp, hs, hL, hr, hB, fun hlr j hj hf => ?_⟩
        have hvis : ∃ k, k < i ∧ (h + k) % l.length = (h + i) % l.length := by
          refine Classical.byContradiction fun hno => ?_
          have := hD _ hp fun k hk e => hno ⟨k, hk, e⟩
          rw [this, hlr] at hr; cases hr
        obtain ⟨k, hk, hke⟩ := hvis
        have hni := pos_back hk hke
        obtain ⟨q, hq, hqj⟩ := pos_surj (h := h) hj
        have := (hC q (by omega) (by rw [hqj]; exact hf)).1
        rw [hqj] at this; exact this

theorem clk_all {l : List FrT} {h : Nat} (hn : 0 < l.length) : ClkR l (clk l.length h (2 * l.length) 0 l) :=
  clk_run hn _ _ _ (by omega) rfl (fun _ _ => .inl rfl) (fun k hk => by omega) (fun _ _ _ => rfl) (fun k hk => by omega)
end Go.Proofs.Ytablhcjjfiepaaa
