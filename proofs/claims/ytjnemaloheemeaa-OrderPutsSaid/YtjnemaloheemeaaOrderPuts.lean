/- OrderPuts answers true. -/
import Derived.Test.YtjnemaloheemeaaOrder
import Derived.Test.YtjnemaloheemeaaSpoil
import Derived.Test.YtjnemaloheemeaaSameInts
namespace Go.Proofs.Ytjnemaloheemeaa
open Go.Eng
set_option linter.unusedVariables false
set_option linter.unusedSimpArgs false

theorem orderPuts_any (p c : List Int) : law21_OrderPuts (p, c) = some true := by
  unfold law21_OrderPuts
  simp only
  have p1 : Dat.pickB true true false = true := rfl
  have p0 : Dat.pickB false true false = false := rfl
  have p2 : Dat.pickB true false false = false := rfl
  have p3 : Dat.pickB false true true = true := rfl
  have q0 : ∀ x : Int, Dat.ieq x x = true := fun x => by simp [Dat.ieq]
  have cN : Dat.Le (Dat.addN 0 0) (Dat.len ([] : List Int)) := Nat.le_refl _
  have ea : ∀ l : List Int, Dat.app (Dat.seg ([] : List Int) 0 0) l = l := fun l => rfl
  have big8 : ∀ {l : List Int}, l.length ≤ 1030 → ¬ Dat.Big (Dat.len (Dat.seg ([] : List Int) 0 0)) (Dat.len l) 8 := fun {l} h => by show ¬ (2 ^ 44 < (0 + l.length) * (8 + 1)); omega
  have big4 : ∀ {l : List Int}, l.length ≤ 1030 → ¬ Dat.Big (Dat.len (Dat.seg ([] : List Int) 0 0)) (Dat.len l) 4 := fun {l} h => by show ¬ (2 ^ 44 < (0 + l.length) * (4 + 1)); omega
  have i1 : ∀ {l : List Int}, l.length > 1030 → Dat.igt (Dat.ofN (Dat.len l)) 1030 = true := fun {l} h => igt_len (n := 1030) h
  have i0 : ∀ {l : List Int}, ¬ l.length > 1030 → Dat.igt (Dat.ofN (Dat.len l)) 1030 = false := fun {l} h => igt_len0 (n := 1030) h
  have hA : (applyS p c).1.length < 4611686018427387904 := by
    unfold applyS; split
    · rename_i h; have := ord_ok h; rw [appL_len]; omega
    · exact Nat.zero_lt_succ _
  have hU : (undoS p c).1.length < 9223372036854775807 := by
    unfold undoS; split
    · rename_i h; have := ord_ok h; rw [undoN_len]; omega
    · exact Nat.zero_lt_succ _
  by_cases h100 : p.length > 100
  · rw [igt_len (n := 100) h100 |> (fun h => (h : Dat.igt (Dat.ofN (Dat.len p)) 100 = true)), cond_true]
    by_cases h1025 : p.length < 1025
    · have : Dat.ilt (Dat.ofN (Dat.len p)) 1025 = true := by simp [Dat.ilt]; omega
      rw [this, p1, cond_true]
    · have : Dat.ilt (Dat.ofN (Dat.len p)) 1025 = false := by simp [Dat.ilt]; omega
      rw [this, p2, cond_false]
      by_cases hp : p.length > 1030
      · rw [i1 hp, p3, cond_true]
      · rw [i0 hp, p0, cond_false]
        by_cases hc : c.length > 1030
        · rw [i1 hc, p3, cond_true]
        · rw [i0 hc, p0, cond_false, if_pos cN, if_neg (big8 (by omega)), ea, Dat.bnd_eq, if_pos cN, if_neg (big4 (by omega)), ea, Dat.bnd_eq, order_Apply_spec, Dat.bind_some]
          rw [ref21_Apply_spec, order_Undo_spec, ref21_Undo_spec]
          generalize applyS p c = r at *
          generalize undoS p c = u at *
          obtain ⟨r1, r2⟩ := r
          obtain ⟨u1, u2⟩ := u
          simp only at hA hU ⊢
          have sp := ref01_SameInts_self p (by omega)
          have sc := ref21_SameCells_self c (by omega)
          have sr := ref21_SameCells_self r1 (by omega)
          have su := ref21_SameCells_self u1 (by omega)
          have cle : Dat.Le (Dat.addN 0 (Dat.len r1)) (Dat.len r1) := by show 0 + r1.length ≤ r1.length; omega
          by_cases hz : Dat.EqN (Dat.len r1) 0
          · rw [if_pos hz, Dat.bind_some, Dat.bind_some, Dat.bind_some, sr, Dat.bind_some, cond_true, q0, p1, cond_true, su, Dat.bind_some, p1, cond_true, q0, p1, cond_true, sp, Dat.bind_some, p1, cond_true, sc, Dat.bind_some, p1]
            exact spoil_nil r1 hz true _ rfl _
          · rw [if_neg hz, Dat.bind_some, Dat.bind_some, Dat.bind_some, if_pos cle, seg_all _ (Nat.le_refl _), sr, Dat.bind_some, cond_true, q0, p1, cond_true, su, Dat.bind_some, p1, cond_true, q0, p1, cond_true, sp, Dat.bind_some, p1, cond_true, sc, Dat.bind_some, p1]
            exact spoil_ok .u32 r1.length r1 rfl hA true _ rfl
  · rw [igt_len0 (n := 100) h100 |> (fun h => (h : Dat.igt (Dat.ofN (Dat.len p)) 100 = false)), cond_false]
    by_cases hp : p.length > 1030
    · rw [i1 hp, p3, cond_true]
    · rw [i0 hp, p0, cond_false]
      by_cases hc : c.length > 1030
      · rw [i1 hc, p3, cond_true]
      · rw [i0 hc, p0, cond_false, if_pos cN, if_neg (big8 (by omega)), ea, Dat.bnd_eq, if_pos cN, if_neg (big4 (by omega)), ea, Dat.bnd_eq, order_Apply_spec, Dat.bind_some]
        rw [ref21_Apply_spec, order_Undo_spec, ref21_Undo_spec]
        generalize applyS p c = r at *
        generalize undoS p c = u at *
        obtain ⟨r1, r2⟩ := r
        obtain ⟨u1, u2⟩ := u
        simp only at hA hU ⊢
        have sp := ref01_SameInts_self p (by omega)
        have sc := ref21_SameCells_self c (by omega)
        have sr := ref21_SameCells_self r1 (by omega)
        have su := ref21_SameCells_self u1 (by omega)
        have cle : Dat.Le (Dat.addN 0 (Dat.len r1)) (Dat.len r1) := by show 0 + r1.length ≤ r1.length; omega
        by_cases hz : Dat.EqN (Dat.len r1) 0
        · rw [if_pos hz, Dat.bind_some, Dat.bind_some, Dat.bind_some, sr, Dat.bind_some, cond_true, q0, p1, cond_true, su, Dat.bind_some, p1, cond_true, q0, p1, cond_true, sp, Dat.bind_some, p1, cond_true, sc, Dat.bind_some, p1]
          exact spoil_nil r1 hz true _ rfl _
        · rw [if_neg hz, Dat.bind_some, Dat.bind_some, Dat.bind_some, if_pos cle, seg_all _ (Nat.le_refl _), sr, Dat.bind_some, cond_true, q0, p1, cond_true, su, Dat.bind_some, p1, cond_true, q0, p1, cond_true, sp, Dat.bind_some, p1, cond_true, sc, Dat.bind_some, p1]
          exact spoil_ok .u32 r1.length r1 rfl hA true _ rfl

theorem law21_OrderPuts_true (d : Els p_law21_OrderPuts.args) (hf : Fits p_law21_OrderPuts.args d) : law21_OrderPuts d = some true := orderPuts_any d.1 d.2
end Go.Proofs.Ytjnemaloheemeaa
