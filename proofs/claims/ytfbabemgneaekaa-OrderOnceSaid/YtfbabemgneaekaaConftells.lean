/- Levels, widths and counts, as program and document count them. -/
import Derived.Test.YtfbabemgneaekaaConfall
namespace Go.Proofs.Ytfbabemgneaekaa
open Go.Eng
set_option linter.unusedVariables false
set_option linter.unusedSimpArgs false

theorem conf_Levels_spec (c : CfgT) : conf_Levels c = some (if mayB c then (allS c, 0) else ([], 8)) := by
  unfold conf_Levels
  show Dat.bind (conf_Check c) _ = _
  rw [conf_Check_spec, Dat.bind_some]
  cases hm : mayB c with
  | false => rfl
  | true =>
    obtain ⟨N, hL4⟩ := mayB_nums hm
    have p2 := N.p2
    have s1 := N.s1
    have e0 : Dat.ine (if true = true then 0 else 8) 0 = false := rfl
    have m0 : Dat.MkOk 0 4 32 := Dat.MkOk_iff.2 ⟨by decide, by decide, by decide, by decide⟩
    rw [e0, cond_false, if_pos m0]
    show Dat.bind (conf_level (c, c.1, c.2.1)) _ = _
    rw [conf_level_spec N p2 (by omega) N.s2, Dat.bind_some, if_pos (show Dat.EqN (Dat.toN 0) 0 from Dat.toN_zero), if_pos (show Dat.EqN 0 (Dat.len ([] : List LvlT)) from rfl), if_pos rfl]
    refine loop_inv (fun (s : (Int × (Int × (Int × Int))) × List LvlT) => ∃ (n z : Int), atL c s.1 n z ∧ s.2 ++ (LV c n z).map (lvlS c) = allS c) (fun s => s.1.1.toNat) ?_ ⟨c.1, c.2.1, ⟨N.p1, p2, by omega, N.s2, rfl⟩, rfl⟩ (by show c.1.toNat < _; omega)
    rintro ⟨sl, acc⟩ k ⟨n, z, ⟨n1, n2, z1, z2, hl⟩, hT⟩ hk
    replace hl : sl = _ := hl
    subst hl
    replace hT : acc ++ (LV c n z).map (lvlS c) = allS c := hT
    have hlen : acc.length ≤ 64 := by
      have h1 := congrArg List.length hT
      have h2 := allS_len c
      rw [List.length_append] at h1; omega
    have hLV := LV_eq N n1 n2 (s := z)
    show (if Dat.Le (Dat.addN 0 1) (Dat.len (lvlS c (n, z) :: ([] : List LvlT))) then (if Dat.Big (Dat.len acc) (Dat.len (Dat.seg (lvlS c (n, z) :: ([] : List LvlT)) 0 1)) 32 then none else if Dat.EqN (Dat.len acc) (Dat.len acc) then Dat.bnd (Dat.app acc (Dat.seg (lvlS c (n, z) :: ([] : List LvlT)) 0 1)) fun x17 => Dat.bind (some (decide (n ≤ c.2.2.2.2.2.2.2.2.1))) _ else none) else none) = _
    rw [if_pos (le1 _), if_neg (small (by omega) _ (by omega)), if_pos (Dat.EqN_self _), seg1, Dat.app_eq, Dat.bnd_eq, Dat.bind_some]
    by_cases ht : n ≤ c.2.2.2.2.2.2.2.2.1
    · have e2 : Dat.pickB true (Dat.bnot (decide (n ≤ c.2.2.2.2.2.2.2.2.1))) false = false := by simp [ht]
      rw [hLV, if_pos ht] at hT
      rw [e2, cond_false, ← hT]; rfl
    · obtain ⟨g1, g2, g3, g4, g5, g6, g7⟩ := step_i64 N n1 n2 ht
      have e2 : Dat.pickB true (Dat.bnot (decide (n ≤ c.2.2.2.2.2.2.2.2.1))) false = true := by simp [ht]
      rw [hLV, if_neg ht] at hT
      rw [e2, cond_true]
      show Dat.bnd (Dat.wrap .i64 (Dat.add n c.2.2.1)) _ = _
      rw [g1, Dat.bnd_eq, g2, Dat.bnd_eq, if_neg g3, g4, Dat.bnd_eq, g5, Dat.bnd_eq]
      show Dat.bind (conf_level (c, nxt c.2.2.1 n, 4 * c.2.2.1)) _ = _
      rw [conf_level_spec N (by omega) (by have := N.f1; omega) (by have := N.f2; omega), Dat.bind_some, if_pos (Dat.EqN_self _)]
      refine hk (_, _) ⟨nxt c.2.2.1 n, 4 * c.2.2.1, ⟨g6, by omega, by have := N.f1; omega, by have := N.f2; omega, rfl⟩, ?_⟩ (by show (nxt c.2.2.1 n).toNat < n.toNat; omega)
      rw [← hT]; simp

/-! ### Width -/
def wid : List LvlT → Int → Int
  | [], m => m
  | l :: ls, m => wid ls (Dat.imax true m l.2.2.2.1)
noncomputable def widS (c : CfgT) : Int × Int := if mayB c then (wid (allS c) 0, 0) else (0, 8)

theorem get_lvl {l : List LvlT} {i : Nat} (hi : i < l.length) (d : LvlT) : Dat.get l (Dat.toN (i : Int)) d = l[i] := by
  rw [Dat.toN_nat, Dat.get_lt l d hi]

end Go.Proofs.Ytfbabemgneaekaa
