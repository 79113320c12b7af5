/- Package lane: lanes. -/
import Derived.Test.YtnfiamgpebkhfaaMid
import Derived.Test.YtnfiamgpebkhfaaFns
namespace Go.Proofs.Ytnfiamgpebkhfaa
open Go.Eng
set_option linter.unusedVariables false
set_option linter.unusedSimpArgs false

def laneOk (l : List Int) (a : Int) : Bool := decide (l.length ≤ 4096 ∧ 0 ≤ a ∧ a ≤ l.length)
theorem lane_iff {l : List Int} {a : Int} : laneOk l a = true ↔ l.length ≤ 4096 ∧ 0 ≤ a ∧ a ≤ l.length := by unfold laneOk; exact decide_eq_true_iff
theorem lane_Check_spec (l : List Int) (a : Int) : lane_Check (l, a, ()) = some (if laneOk l a = true then 0 else 8) := by
  unfold lane_Check
  simp only
  have pf : ∀ b : Bool, Dat.pickB false true b = b := fun b => by simp [Dat.pickB]
  by_cases h1 : l.length > 4096
  · rw [show Dat.igt (Dat.ofN (Dat.len l)) 4096 = true by simp [Dat.igt]; omega, cond_true, if_neg (fun h => by have := lane_iff.1 h; omega)]
  rw [show Dat.igt (Dat.ofN (Dat.len l)) 4096 = false by simp [Dat.igt]; omega, cond_false, pf, pf]
  by_cases h2 : a < 0
  · rw [show Dat.ilt a 0 = true by simp [Dat.ilt, h2], cond_true, if_neg (fun h => by have := lane_iff.1 h; omega)]
  rw [show Dat.ilt a 0 = false by simp [Dat.ilt, h2], cond_false]
  by_cases h3 : a > l.length
  · rw [show Dat.igt a (Dat.ofN (Dat.len l)) = true by simp [Dat.igt, h3], cond_true, if_neg (fun h => by have := lane_iff.1 h; omega)]
  · rw [show Dat.igt a (Dat.ofN (Dat.len l)) = false by simp [Dat.igt]; omega, cond_false, if_pos (lane_iff.2 ⟨by omega, by omega, by omega⟩)]
theorem ref05_May_spec (l : List Int) (a : Int) : ref05_May (l, a, ()) = some (laneOk l a) := by
  unfold ref05_May
  simp only
  have pf : ∀ b : Bool, Dat.pickB true b false = b := fun b => by simp [Dat.pickB]
  have no : ¬ (l.length ≤ 4096 ∧ 0 ≤ a ∧ a ≤ l.length) → laneOk l a = false := fun h => decide_eq_false h
  rw [pf, pf]
  by_cases h1 : l.length > 4096
  · rw [show Dat.ile (Dat.ofN (Dat.len l)) 4096 = false by simp [Dat.ile]; omega, cond_false, no (by omega)]
  rw [show Dat.ile (Dat.ofN (Dat.len l)) 4096 = true by simp [Dat.ile]; omega, cond_true]
  by_cases h2 : a < 0
  · rw [show Dat.ige a 0 = false by simp [Dat.ige]; omega, cond_false, no (by omega)]
  rw [show Dat.ige a 0 = true by simp [Dat.ige]; omega, cond_true]
  by_cases h3 : a > l.length
  · rw [show Dat.ile a (Dat.ofN (Dat.len l)) = false by simp [Dat.ile, h3], no (by omega)]
  · rw [show Dat.ile a (Dat.ofN (Dat.len l)) = true by simp [Dat.ile]; omega, lane_iff.2 ⟨by omega, by omega, by omega⟩]
theorem ref05_Check_spec (l : List Int) (a : Int) : ref05_Check (l, a, ()) = some (if laneOk l a = true then 0 else 8) := by
  unfold ref05_Check
  simp only
  rw [ref05_May_spec, Dat.bind_some]
  cases laneOk l a <;> rfl
def leftS (l : List Int) (a : Int) : Int := if laneOk l a = true then l.length - a else 0
theorem lane_Left_spec (l : List Int) (a : Int) : lane_Left (l, a, ()) = some (leftS l a) := by
  unfold lane_Left leftS
  simp only
  rw [lane_Check_spec, Dat.bind_some]
  by_cases h : laneOk l a = true
  · have hh := lane_iff.1 h
    have z0 : Dat.ine 0 0 = false := rfl
    have w : Dat.wrap .i64 (Dat.sub (Dat.ofN (Dat.len l)) a) = l.length - a := Dat.wrap_i64 (by show _ ≤ (l.length : Int) - a; omega) (by show (l.length : Int) - a ≤ _; omega)
    rw [if_pos h, if_pos h, z0, cond_false, w, Dat.bnd_eq]
  · rw [if_neg h, if_neg h]; rfl
theorem ref05_Left_spec (l : List Int) (a : Int) : ref05_Left (l, a, ()) = some (leftS l a) := by
  unfold ref05_Left leftS
  simp only
  rw [ref05_May_spec, Dat.bind_some]
  by_cases h : laneOk l a = true
  · have hh := lane_iff.1 h
    have b1 : Dat.bnot true = false := rfl
    have w : Dat.wrap .i64 (Dat.sub (Dat.ofN (Dat.len l)) a) = l.length - a := Dat.wrap_i64 (by show _ ≤ (l.length : Int) - a; omega) (by show (l.length : Int) - a ≤ _; omega)
    rw [h, b1, cond_false, w, Dat.bnd_eq, if_pos rfl]
  · have : laneOk l a = false := by simpa using h
    rw [this]; rfl
theorem ref05_Twin_spec (l : List Int) (a : Int) (h : l.length ≤ 5000) : ref05_Twin (l, a, ()) = some (l, a, ()) := by
  unfold ref05_Twin
  have hbig : ¬ Dat.Big (Dat.len (Dat.seg ([] : List Int) 0 0)) (Dat.len l) 4 := by show ¬ (2 ^ 44 < (0 + l.length) * (4 + 1)); omega
  simp only
  rw [if_pos (show Dat.Le (Dat.addN 0 0) (Dat.len ([] : List Int)) from Nat.le_refl _), if_neg hbig]
  rfl

abbrev TwoT : Type := (List Int × (Int × Unit)) × (Int × (Int × Int))
def twoS (l : List Int) (a : Int) : TwoT :=
  if laneOk l a = true then (if leftS l a < 2 then (([], 0, ()), 0, 0, 50) else ((l, a + 2, ()), l.getD a.toNat 0, l.getD (a.toNat + 1) 0, 0)) else (([], 0, ()), 0, 0, 8)

theorem two_in {l : List Int} {a : Int} (h : laneOk l a = true) (h2 : ¬ leftS l a < 2) : ∃ A : Nat, a = (A : Int) ∧ A + 2 ≤ l.length ∧ l.length ≤ 4096 := by
  have hh := lane_iff.1 h
  unfold leftS at h2
  rw [if_pos h] at h2
  obtain ⟨A, rfl⟩ := Int.eq_ofNat_of_zero_le hh.2.1
  exact ⟨A, rfl, by omega, hh.1⟩

theorem lane_Two_spec (l : List Int) (a : Int) : lane_Two (l, a, ()) = some (twoS l a) := by
  unfold lane_Two twoS
  simp only
  rw [lane_Check_spec, Dat.bind_some]
  by_cases h : laneOk l a = true
  · have z0 : Dat.ine 0 0 = false := rfl
    rw [if_pos h, if_pos h, z0, cond_false, lane_Left_spec, Dat.bind_some]
    by_cases h2 : leftS l a < 2
    · rw [show Dat.ilt (leftS l a) 2 = true by simp [Dat.ilt, h2], cond_true, if_pos h2]
    · obtain ⟨A, rfl, hA, hl⟩ := two_in h h2
      have c0 : ¬ Dat.EqN (Dat.len l) 0 := by show ¬ (l.length = 0); omega
      have cN : Dat.Le (Dat.addN 0 0) (Dat.len ([] : List Int)) := Nat.le_refl _
      have hbig : ¬ Dat.Big (Dat.len (Dat.seg ([] : List Int) 0 0)) (Dat.len l) 4 := by show ¬ (2 ^ 44 < (0 + l.length) * (4 + 1)); omega
      have ea : Dat.app (Dat.seg ([] : List Int) 0 0) l = l := rfl
      have i0 : Dat.In (A : Int) (Dat.len l) := ⟨by omega, by show (A : Int) < l.length; omega⟩
      have i1 : Dat.In ((A + 1 : Nat) : Int) (Dat.len l) := ⟨by omega, by show ((A + 1 : Nat) : Int) < l.length; omega⟩
      have t0 : Dat.Lt (Dat.addN 0 (Dat.toN (A : Int))) (Dat.len l) := by show 0 + (A : Int).toNat < l.length; omega
      have t1 : Dat.Lt (Dat.addN 0 (Dat.toN ((A + 1 : Nat) : Int))) (Dat.len l) := by show 0 + ((A + 1 : Nat) : Int).toNat < l.length; omega
      have w1 : Dat.wrap .i64 (Dat.add (A : Int) 1) = ((A + 1 : Nat) : Int) := Dat.succ_i64 (by omega)
      have w2 : Dat.wrap .i64 (Dat.add ((A + 1 : Nat) : Int) 1) = ((A + 1 + 1 : Nat) : Int) := Dat.succ_i64 (by omega)
      have g0 : Dat.get l (Dat.addN 0 (Dat.toN (A : Int))) 0 = l.getD (A : Int).toNat 0 := by show l.getD (0 + (A : Int).toNat) 0 = _; rw [Nat.zero_add]
      have g1 : Dat.get l (Dat.addN 0 (Dat.toN ((A + 1 : Nat) : Int))) 0 = l.getD ((A : Int).toNat + 1) 0 := by show l.getD (0 + ((A + 1 : Nat) : Int).toNat) 0 = _; congr 1; omega
      have cle : Dat.Le (Dat.addN 0 (Dat.len l)) (Dat.len l) := by show 0 + l.length ≤ l.length; omega
      have e2 : ((A + 1 + 1 : Nat) : Int) = (A : Int) + 2 := by omega
      rw [show Dat.ilt (leftS l (A : Int)) 2 = false by simp [Dat.ilt]; omega, cond_false, if_neg h2, if_neg c0, if_neg c0, if_pos cN, if_neg c0, if_neg hbig, ea, Dat.bnd_eq, if_pos i0, if_pos t0, g0, Dat.bnd_eq, w1, Dat.bnd_eq, if_pos i1, if_pos t1, g1, Dat.bnd_eq, w2, Dat.bnd_eq, if_pos cle, seg_all _ (Nat.le_refl _), e2]
  · rw [if_neg h, if_neg h]; rfl

theorem ref05_Same_self (l : List Int) (a : Int) (h : l.length ≤ 5000) : ref05_Same ((l, a, ()), (l, a, ())) = some true := by
  unfold ref05_Same
  simp only [Dat.ine, bne_self_eq_false, cond_false]
  refine loop_inv (fun (s : Int) => ∃ i : Nat, s = i ∧ i ≤ l.length) (fun s => l.length - s.toNat) ?_ ⟨0, rfl, Nat.zero_le _⟩ (by show l.length - (0 : Int).toNat < _; omega)
  rintro d k ⟨i, rfl, hi⟩ hk
  simp only [Dat.ofN_eq, Dat.len_eq, Dat.ilt_nat]
  by_cases h1 : i < l.length
  · simp only [h1, decide_true, cond_true, if_pos ((Dat.Ix_nat i l.length).2 h1), Dat.bnd_eq, Dat.ine, bne_self_eq_false, cond_false]
    rw [Dat.succ_i64 (by omega)]
    exact hk _ ⟨i + 1, rfl, h1⟩ (by show l.length - ((i + 1 : Nat) : Int).toNat < l.length - (i : Int).toNat; omega)
  · simp [h1, Dat.ieq]
end Go.Proofs.Ytnfiamgpebkhfaa
