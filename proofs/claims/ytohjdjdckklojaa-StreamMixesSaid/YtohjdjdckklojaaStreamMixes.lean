/- StreamMixes answers true. -/
import Derived.Test.YtohjdjdckklojaaXor
import Derived.Test.YtohjdjdckklojaaSpoil
import Derived.Test.YtohjdjdckklojaaSame
namespace Go.Proofs.Ytohjdjdckklojaa
open Go.Eng
set_option linter.unusedVariables false
set_option linter.unusedSimpArgs false

theorem own_app (b : List Int) : Dat.app (Dat.seg ([] : List Int) 0 0) b = b := rfl
theorem own_big {b : List Int} (h : b.length < 1000000) : ¬ Dat.Big (Dat.len (Dat.seg ([] : List Int) 0 0)) (Dat.len b) 1 := by show ¬ (2 ^ 44 < (0 + b.length) * (1 + 1)); omega

theorem streamMixes_any (a b : List Int) : law04_StreamMixes (a, b) = some true := by
  unfold law04_StreamMixes
  simp only
  by_cases ha : a.length > 3000
  · have : Dat.igt (Dat.ofN (Dat.len a)) 3000 = true := by simp [Dat.igt]; omega
    rw [this, cond_true]
  · have e0 : Dat.igt (Dat.ofN (Dat.len a)) 3000 = false := by simp [Dat.igt]; omega
    rw [e0, cond_false]
    by_cases hb : b.length > 3000
    · have : Dat.igt (Dat.ofN (Dat.len b)) 3000 = true := by simp [Dat.igt]; omega
      rw [this]; rfl
    · have e1 : Dat.igt (Dat.ofN (Dat.len b)) 3000 = false := by simp [Dat.igt]; omega
      have p0 : Dat.pickB false true false = false := rfl
      have cN : Dat.Le (Dat.addN 0 0) (Dat.len ([] : List Int)) := Nat.le_refl _
      rw [e1, p0, cond_false, if_pos cN, if_neg (own_big (by omega)), own_app, Dat.bnd_eq, if_pos cN, if_neg (own_big (by omega)), own_app, Dat.bnd_eq, stream_Xor_spec a b (by omega), Dat.bind_some, ref04_Xor_spec a b (by omega), Dat.bind_some]
      have hL : (xorS a b).1.length < 1000000 := by
        unfold xorS; split
        · rw [xorL_len]; omega
        · exact Nat.zero_lt_succ _
      generalize xorS a b = r at *
      obtain ⟨r1, r2⟩ := r
      simp only at hL ⊢
      have q0 : ∀ x : Int, Dat.ieq x x = true := fun x => by simp [Dat.ieq]
      have p1 : Dat.pickB true true false = true := rfl
      have same : ∀ l : List Int, ref01_Same (l, l) = some true := fun l => by rw [ref01_Same_spec, decide_eq_true rfl]
      have cle : Dat.Le (Dat.addN 0 (Dat.len r1)) (Dat.len r1) := by show 0 + r1.length ≤ r1.length; omega
      by_cases hz : Dat.EqN (Dat.len r1) 0
      · rw [if_pos hz, same, Dat.bind_some, cond_true, q0, p1, cond_true, same, Dat.bind_some, p1, cond_true, same, Dat.bind_some, p1]
        exact spoil_nil r1 hz true _ rfl _
      · rw [if_neg hz, Dat.bind_some, if_pos cle, seg_all _ (Nat.le_refl _), same, Dat.bind_some, cond_true, q0, p1, cond_true, same, Dat.bind_some, p1, cond_true, same, Dat.bind_some, p1]
        exact spoil_ok .u8 r1.length r1 rfl (by omega) true _ rfl

theorem law04_StreamMixes_true (d : Els p_law04_StreamMixes.args) (hf : Fits p_law04_StreamMixes.args d) : law04_StreamMixes d = some true := streamMixes_any d.1 d.2
end Go.Proofs.Ytohjdjdckklojaa
