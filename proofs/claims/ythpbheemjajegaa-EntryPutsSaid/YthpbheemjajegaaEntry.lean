/- Package entry, and the document's answer: cells' leaves, positions, their bytes. -/
import Derived.Test.YthpbheemjajegaaGeo
import Derived.Test.YthpbheemjajegaaNumput
namespace Go.Proofs.Ythpbheemjajegaa
open Go.Eng
set_option linter.unusedVariables false
set_option linter.unusedSimpArgs false

def chkS (h n : Int) : Int := if may h then (if 0 ≤ n ∧ n ≤ 2 ^ h.toNat then 0 else 8) else 2

theorem entry_Check_spec (h n : Int) (h0 : -9223372036854775808 ≤ n) (h1 : n ≤ 9223372036854775807) : entry_Check (h, n) = some (chkS h n) := by
  unfold entry_Check chkS
  rw [geo_Leaves_spec, Dat.bind_some]
  cases hm : may h with
  | false => simp [Dat.ine]
  | true =>
    have e2 : Dat.wrap .i64 (Dat.add 1 (2 ^ h.toNat)) = 1 + 2 ^ h.toNat := by rcases may_cases hm with rfl | rfl | rfl | rfl | rfl | rfl <;> rfl
    have e3 : Dat.wrap .u64 (1 + 2 ^ h.toNat) = 1 + 2 ^ h.toNat := by rcases may_cases hm with rfl | rfl | rfl | rfl | rfl | rfl <;> rfl
    have hp : (0 : Int) < 2 ^ h.toNat ∧ (2 : Int) ^ h.toNat ≤ 64 := by rcases may_cases hm with rfl | rfl | rfl | rfl | rfl | rfl <;> decide
    simp only [if_true, Dat.ine, bne_self_eq_false, cond_false, Dat.bnd_eq, e2, e3]
    by_cases hn : 0 ≤ n
    · have e4 : Dat.wrap .u64 n = n := by rw [Dat.wrap_u64]; omega
      rw [e4]
      by_cases hz : n = 0
      · subst hz
        have : (0 : Int) ≤ 0 ∧ (0 : Int) ≤ 2 ^ h.toNat := by omega
        simp [Dat.ieq, this]
      · simp only [Dat.ieq, Dat.ilt, Dat.pick_ft]
        have e5 : (n == (0 : Int)) = false := by simp [hz]
        simp only [e5, cond_false]
        by_cases hlt : n < 1 + 2 ^ h.toNat
        · have : 0 ≤ n ∧ n ≤ 2 ^ h.toNat := by omega
          simp [hlt, this]
        · have : ¬ (0 ≤ n ∧ n ≤ 2 ^ h.toNat) := by omega
          rw [if_neg this]; simp [hlt]
    · have e4 : Dat.wrap .u64 n = n + 18446744073709551616 := by
        show n % 18446744073709551616 = _
        omega
      rw [e4]
      have : ¬ (0 ≤ n ∧ n ≤ 2 ^ h.toNat) := by omega
      rw [if_neg this]
      have e5 : (n + 18446744073709551616 == (0 : Int)) = false := by simp; omega
      have e6 : decide (n + 18446744073709551616 < 1 + 2 ^ h.toNat) = false := by simp; omega
      simp only [Dat.ieq, Dat.ilt, Dat.pick_ft, e5, e6, cond_false]
      rfl

theorem ref19_May_spec (h n : Int) (hm : may h = true) : ref19_May (h, n) = some (decide (0 ≤ n ∧ n ≤ 2 ^ h.toNat)) := by
  unfold ref19_May
  have hm' := may_iff.1 hm
  by_cases hn : 0 ≤ n
  · have : Dat.ige n 0 = true := by simp [Dat.ige, hn]
    simp only [this, cond_true]
    rw [ref07_Many_spec h (by omega) (by omega), Dat.bind_some]
    simp [Dat.ile, hn]
  · simp [Dat.ige, hn]

theorem chk_ok {h n : Int} (hc : chkS h n = 0) : 0 ≤ n ∧ n ≤ 64 := by
  unfold chkS at hc
  cases hm : may h with
  | false => simp [hm] at hc
  | true =>
    simp only [hm, if_true] at hc
    have hp : (2 : Int) ^ h.toNat ≤ 64 := by rcases may_cases hm with rfl | rfl | rfl | rfl | rfl | rfl <;> decide
    by_cases hb : 0 ≤ n ∧ n ≤ 2 ^ h.toNat
    · omega
    · simp [hb] at hc

def wrS (h n : Int) : List Int × Int := if chkS h n = 0 then (digs n 4, 0) else ([], chkS h n)

theorem entry_Write_spec (h n : Int) (h0 : -9223372036854775808 ≤ n) (h1 : n ≤ 9223372036854775807) : entry_Write (h, n) = some (wrS h n) := by
  unfold entry_Write wrS
  simp only
  rw [entry_Check_spec h n h0 h1, Dat.bind_some]
  by_cases hc : chkS h n = 0
  · obtain ⟨g1, g2⟩ := chk_ok hc
    have e4 : Dat.wrap .u64 n = n := by rw [Dat.wrap_u64]; omega
    simp only [hc, Dat.ine, bne_self_eq_false, cond_false, Dat.bnd_eq, e4, if_true]
    rw [if_pos (show Dat.Le (Dat.addN 0 1) (Dat.len (n :: ([] : List Int))) from Nat.le_refl _), if_pos (show Dat.Le (Dat.addN 0 1) (Dat.len ((4 : Int) :: ([] : List Int))) from Nat.le_refl _)]
    have es : Dat.seg (n :: ([] : List Int)) 0 1 = [n] := rfl
    have es2 : Dat.seg ((4 : Int) :: ([] : List Int)) 0 1 = [4] := rfl
    rw [es, es2, num_Put_spec [n] [4] (by simp) (by simp) (fun m hm => by simp at hm; omega), Dat.bind_some]
    have ek : okS 1 8 [4] = true := by decide
    have ef : fitsAll [(n, 4)] = true := by
      simp only [fitsAll, List.all_cons, List.all_nil, Bool.and_true, decide_eq_true_eq]
      show n / 256 ^ 4 = 0
      omega
    simp [putS, ek, ef, putB]
  · have e5 : (chkS h n != 0) = true := by simp [hc]
    simp only [Dat.ine, e5, cond_true, hc, if_false]

theorem ref19_Bytes_spec (n : Int) (h0 : 0 ≤ n) (h1 : n ≤ 64) : ref19_Bytes n = some (digs n 4) := by
  unfold ref19_Bytes
  have e4 : Dat.wrap .u64 n = n := by rw [Dat.wrap_u64]; omega
  simp only [Dat.bnd_eq, e4]
  rw [ref01_Digits_spec n 4 h0 (by omega) (by omega) (by omega), Dat.bind_some]
  rfl

end Go.Proofs.Ythpbheemjajegaa
