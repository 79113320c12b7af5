/- LaneTakes answers true. -/
import Derived.Test.YtnfiamgpebkhfaaLane
import Derived.Test.YtnfiamgpebkhfaaSpoil
namespace Go.Proofs.Ytnfiamgpebkhfaa
open Go.Eng
set_option linter.unusedVariables false
set_option linter.unusedSimpArgs false

theorem ref05_Two_spec (l : List Int) (a : Int) : ref05_Two (l, a, ()) = some (twoS l a) := by
  unfold ref05_Two twoS
  simp only
  rw [ref05_May_spec, Dat.bind_some]
  by_cases h : laneOk l a = true
  · have b1 : Dat.bnot true = false := rfl
    rw [h, b1, cond_false, if_pos rfl, ref05_Left_spec, Dat.bind_some]
    by_cases h2 : leftS l a < 2
    · rw [show Dat.ilt (leftS l a) 2 = true by simp [Dat.ilt, h2], cond_true, if_pos h2]
    · obtain ⟨A, rfl, hA, hl⟩ := two_in h h2
      have i0 : Dat.Ix (A : Int) (Dat.len l) := (Dat.Ix_nat _ _).2 (by show A < l.length; omega)
      have i1 : Dat.Ix ((A + 1 : Nat) : Int) (Dat.len l) := (Dat.Ix_nat _ _).2 (by show A + 1 < l.length; omega)
      have w1 : Dat.wrap .i64 (Dat.add (A : Int) 1) = ((A + 1 : Nat) : Int) := Dat.succ_i64 (by omega)
      have w2 : Dat.wrap .i64 (Dat.add (A : Int) 2) = (A : Int) + 2 := Dat.wrap_i64 (by show _ ≤ (A : Int) + 2; omega) (by show (A : Int) + 2 ≤ _; omega)
      have g0 : Dat.get l (Dat.toN (A : Int)) 0 = l.getD (A : Int).toNat 0 := rfl
      have g1 : Dat.get l (Dat.toN ((A + 1 : Nat) : Int)) 0 = l.getD ((A : Int).toNat + 1) 0 := by show l.getD ((A + 1 : Nat) : Int).toNat 0 = _; congr 1
      rw [show Dat.ilt (leftS l (A : Int)) 2 = false by simp [Dat.ilt]; omega, cond_false, if_neg h2, ref05_Twin_spec _ _ (by omega), Dat.bind_some, w2, Dat.bnd_eq, if_pos i0, g0, Dat.bnd_eq, w1, Dat.bnd_eq, if_pos i1, g1, Dat.bnd_eq]
  · have : laneOk l a = false := by simpa using h
    rw [this, if_neg (by simp)]; rfl

theorem twoS_len (l : List Int) (a : Int) (h : l.length ≤ 5000) : (twoS l a).1.1.length ≤ 5000 := by
  unfold twoS
  split
  · split
    · exact Nat.zero_le _
    · exact h
  · exact Nat.zero_le _

theorem laneTakes_any (l : List Int) (a : Int) : law05_LaneTakes (l, a, ()) = some true := by
  unfold law05_LaneTakes
  simp only
  have p1 : Dat.pickB true true false = true := rfl
  have p0 : Dat.pickB false true false = false := rfl
  have p2 : Dat.pickB true false false = false := rfl
  have p3 : Dat.pickB false true true = true := rfl
  have q0 : ∀ x : Int, Dat.ieq x x = true := fun x => by simp [Dat.ieq]
  by_cases h100 : l.length > 100
  · rw [show Dat.igt (Dat.ofN (Dat.len l)) 100 = true by simp [Dat.igt]; omega, cond_true]
    by_cases h4 : l.length < 4096
    · rw [show Dat.ilt (Dat.ofN (Dat.len l)) 4096 = true by simp [Dat.ilt]; omega, p1, cond_true]
    · rw [show Dat.ilt (Dat.ofN (Dat.len l)) 4096 = false by simp [Dat.ilt]; omega, p2, cond_false]
      by_cases h5 : l.length > 4100
      · rw [show Dat.igt (Dat.ofN (Dat.len l)) 4100 = true by simp [Dat.igt]; omega, p3, cond_true]
      · rw [show Dat.igt (Dat.ofN (Dat.len l)) 4100 = false by simp [Dat.igt]; omega, p0, cond_false, ref05_Twin_spec _ _ (by omega), Dat.bind_some]
        simp only
        rw [lane_Two_spec, Dat.bind_some, ref05_Two_spec, lane_Check_spec, ref05_Check_spec, lane_Left_spec, ref05_Left_spec]
        have hL := twoS_len l a (by omega)
        have sl := ref05_Same_self l a (by omega)
        generalize twoS l a = t at *
        generalize leftS l a = lf at *
        generalize (if laneOk l a = true then (0 : Int) else 8) = ck at *
        obtain ⟨⟨r, ra, ⟨⟩⟩, b, c, e⟩ := t
        simp only at hL ⊢
        have sr := ref05_Same_self r ra hL
        have cle : Dat.Le (Dat.addN 0 (Dat.len r)) (Dat.len r) := by show 0 + r.length ≤ r.length; omega
        by_cases hz : Dat.EqN (Dat.len r) 0
        · rw [if_pos hz, Dat.bind_some, sr, Dat.bind_some, cond_true, q0, p1, cond_true, q0, p1, cond_true, q0, p1, cond_true, Dat.bind_some, Dat.bind_some, q0, p1, cond_true, Dat.bind_some, Dat.bind_some, q0, p1, cond_true, sl, Dat.bind_some, p1]
          exact spoil_nil r hz true _ rfl _
        · rw [if_neg hz, Dat.bind_some, if_pos cle, seg_all _ (Nat.le_refl _), sr, Dat.bind_some, cond_true, q0, p1, cond_true, q0, p1, cond_true, q0, p1, cond_true, Dat.bind_some, Dat.bind_some, q0, p1, cond_true, Dat.bind_some, Dat.bind_some, q0, p1, cond_true, sl, Dat.bind_some, p1]
          exact spoil_ok .u32 r.length r rfl (by omega) true _ rfl
  · rw [show Dat.igt (Dat.ofN (Dat.len l)) 100 = false by simp [Dat.igt]; omega, cond_false]
    rw [show Dat.igt (Dat.ofN (Dat.len l)) 4100 = false by simp [Dat.igt]; omega, p0, cond_false, ref05_Twin_spec _ _ (by omega), Dat.bind_some]
    simp only
    rw [lane_Two_spec, Dat.bind_some, ref05_Two_spec, lane_Check_spec, ref05_Check_spec, lane_Left_spec, ref05_Left_spec]
    have hL := twoS_len l a (by omega)
    have sl := ref05_Same_self l a (by omega)
    generalize twoS l a = t at *
    generalize leftS l a = lf at *
    generalize (if laneOk l a = true then (0 : Int) else 8) = ck at *
    obtain ⟨⟨r, ra, ⟨⟩⟩, b, c, e⟩ := t
    simp only at hL ⊢
    have sr := ref05_Same_self r ra hL
    have cle : Dat.Le (Dat.addN 0 (Dat.len r)) (Dat.len r) := by show 0 + r.length ≤ r.length; omega
    by_cases hz : Dat.EqN (Dat.len r) 0
    · rw [if_pos hz, Dat.bind_some, sr, Dat.bind_some, cond_true, q0, p1, cond_true, q0, p1, cond_true, q0, p1, cond_true, Dat.bind_some, Dat.bind_some, q0, p1, cond_true, Dat.bind_some, Dat.bind_some, q0, p1, cond_true, sl, Dat.bind_some, p1]
      exact spoil_nil r hz true _ rfl _
    · rw [if_neg hz, Dat.bind_some, if_pos cle, seg_all _ (Nat.le_refl _), sr, Dat.bind_some, cond_true, q0, p1, cond_true, q0, p1, cond_true, q0, p1, cond_true, Dat.bind_some, Dat.bind_some, q0, p1, cond_true, Dat.bind_some, Dat.bind_some, q0, p1, cond_true, sl, Dat.bind_some, p1]
      exact spoil_ok .u32 r.length r rfl (by omega) true _ rfl

theorem law05_LaneTakes_true (d : Els p_law05_LaneTakes.args) (hf : Fits p_law05_LaneTakes.args d) : law05_LaneTakes d = some true := by
  obtain ⟨l, a, ⟨⟩⟩ := d
  exact laneTakes_any l a
end Go.Proofs.Ytnfiamgpebkhfaa
