/- Levels, widths and counts, as program and document count them. -/
import Derived.Test.YtjbgbpcjgkjdcaaConfall
namespace Go.Proofs.Ytjbgbpcjgkjdcaa
open Go.Eng
set_option linter.unusedVariables false
set_option linter.unusedSimpArgs false

theorem conf_Levels_spec (c : CfgT) : conf_Levels c = some (if mayB c then (allS c, 0) else ([], 8)) := by
  unfold conf_Levels
  show Dat.bind (conf_Check c) _ = _
  rw [conf_Check_spec, Dat.bind_some]
  cases hm : mayB c with
  | false => rfl
  | true =>
    obtain ⟨N, hL4⟩ := mayB_nums hm
    have p2 := N.p2
    have s1 := N.s1
    have e0 : Dat.ine (if true = true then 0 else 8) 0 = false := rfl
    have m0 : Dat.MkOk 0 4 32 := ⟨by decide, by decide, by decide, by decide⟩
    rw [e0, cond_false, if_pos m0]
    show Dat.bind (conf_level (c, c.1, c.2.1)) _ = _
    rw [conf_level_spec N p2 (by omega) N.s2, Dat.bind_some, if_pos (show Dat.EqN (Dat.toN 0) 0 from Dat.toN_zero), if_pos (show Dat.EqN 0 (Dat.len ([] : List LvlT)) from rfl), if_pos rfl]
    refine loop_inv (fun (s : (Int × (Int × (Int × Int))) × List LvlT) => ∃ (n z : Int), atL c s.1 n z ∧ s.2 ++ (LV c n z).map (lvlS c) = allS c) (fun s => s.1.1.toNat) ?_ ⟨c.1, c.2.1, ⟨N.p1, p2, by omega, N.s2, rfl⟩, rfl⟩ (by show c.1.toNat < _; omega)
    rintro ⟨sl, acc⟩ k ⟨n, z, ⟨n1, n2, z1, z2, hl⟩, hT⟩ hk
    replace hl : sl = _ := hl
    subst hl
    replace hT : acc ++ (LV c n z).map (lvlS c) = allS c := hT
    have hlen : acc.length ≤ 64 := by
      have h1 := congrArg List.length hT
      have h2 := allS_len c
      rw [List.length_append] at h1; omega
    have hLV := LV_eq N n1 n2 (s := z)
    show (if Dat.Le (Dat.addN 0 1) (Dat.len (lvlS c (n, z) :: ([] : List LvlT))) then (if Dat.Big (Dat.len acc) (Dat.len (Dat.seg (lvlS c (n, z) :: ([] : List LvlT)) 0 1)) 32 then none else if Dat.EqN (Dat.len acc) (Dat.len acc) then Dat.bnd (Dat.app acc (Dat.seg (lvlS c (n, z) :: ([] : List LvlT)) 0 1)) fun x17 => Dat.bind (some (decide (n ≤ c.2.2.2.2.2.2.2.2.1))) _ else none) else none) = _
    rw [if_pos (le1 _), if_neg (small (by omega) _ (by omega)), if_pos (Dat.EqN_self _), seg1, Dat.app_eq, Dat.bnd_eq, Dat.bind_some]
    by_cases ht : n ≤ c.2.2.2.2.2.2.2.2.1
    · have e2 : Dat.pickB true (Dat.bnot (decide (n ≤ c.2.2.2.2.2.2.2.2.1))) false = false := by simp [ht]
      rw [hLV, if_pos ht] at hT
      rw [e2, cond_false, ← hT]; rfl
    · obtain ⟨g1, g2, g3, g4, g5, g6, g7⟩ := step_i64 N n1 n2 ht
      have e2 : Dat.pickB true (Dat.bnot (decide (n ≤ c.2.2.2.2.2.2.2.2.1))) false = true := by simp [ht]
      rw [hLV, if_neg ht] at hT
      rw [e2, cond_true]
      show Dat.bnd (Dat.wrap .i64 (Dat.add n c.2.2.1)) _ = _
      rw [g1, Dat.bnd_eq, g2, Dat.bnd_eq, if_neg g3, g4, Dat.bnd_eq, g5, Dat.bnd_eq]
      show Dat.bind (conf_level (c, nxt c.2.2.1 n, 4 * c.2.2.1)) _ = _
      rw [conf_level_spec N (by omega) (by have := N.f1; omega) (by have := N.f2; omega), Dat.bind_some, if_pos (Dat.EqN_self _)]
      refine hk (_, _) ⟨nxt c.2.2.1 n, 4 * c.2.2.1, ⟨g6, by omega, by have := N.f1; omega, by have := N.f2; omega, rfl⟩, ?_⟩ (by show (nxt c.2.2.1 n).toNat < n.toNat; omega)
      rw [← hT]; simp

theorem ref08_Levels_spec (c : CfgT) : ref08_Levels c = some (if mayB c then (allS c, 0) else ([], 8)) := by
  unfold ref08_Levels
  show Dat.bind (ref08_May c) (fun x1 => bif Dat.bnot x1 then _ else Dat.bind (ref08_All c) _) = _
  rw [ref08_May_spec, Dat.bind_some]
  cases hm : mayB c with
  | false => rfl
  | true =>
    obtain ⟨N, hL4⟩ := mayB_nums hm
    have e0 : Dat.bnot true = false := rfl
    rw [e0, cond_false, ref08_All_spec N, Dat.bind_some]; rfl

theorem ref08_Check_spec (c : CfgT) : ref08_Check c = some (if mayB c then 0 else 8) := by
  unfold ref08_Check
  show Dat.bind (ref08_May c) _ = _
  rw [ref08_May_spec, Dat.bind_some]
  cases mayB c <;> rfl

/-! ### Width -/
def wid : List LvlT → Int → Int
  | [], m => m
  | l :: ls, m => wid ls (Dat.imax true m l.2.2.2.1)
noncomputable def widS (c : CfgT) : Int × Int := if mayB c then (wid (allS c) 0, 0) else (0, 8)

theorem conf_Width_spec (c : CfgT) : conf_Width c = some (widS c) := by
  unfold conf_Width widS
  show Dat.bind (conf_Check c) _ = _
  rw [conf_Check_spec, Dat.bind_some]
  cases hm : mayB c with
  | false => rfl
  | true =>
    obtain ⟨N, hL4⟩ := mayB_nums hm
    have p2 := N.p2
    have s1 := N.s1
    have e0 : Dat.ine (if true = true then 0 else 8) 0 = false := rfl
    rw [e0, cond_false]
    show Dat.bind (conf_level (c, c.1, c.2.1)) _ = _
    rw [conf_level_spec N p2 (by omega) N.s2, Dat.bind_some, if_pos rfl]
    refine loop_inv (fun (s : (Int × (Int × (Int × Int))) × Int) => ∃ (n z : Int), atL c s.1 n z ∧ wid ((LV c n z).map (lvlS c)) s.2 = wid (allS c) 0) (fun s => s.1.1.toNat) ?_ ⟨c.1, c.2.1, ⟨N.p1, p2, by omega, N.s2, rfl⟩, rfl⟩ (by show c.1.toNat < _; omega)
    rintro ⟨sl, sm⟩ k ⟨n, z, ⟨n1, n2, z1, z2, hl⟩, hT⟩ hk
    replace hl : sl = _ := hl
    subst hl
    replace hT : wid ((LV c n z).map (lvlS c)) sm = wid (allS c) 0 := hT
    have hLV := LV_eq N n1 n2 (s := z)
    show Dat.bind (some (decide (n ≤ c.2.2.2.2.2.2.2.2.1))) _ = _
    rw [Dat.bind_some]
    by_cases ht : n ≤ c.2.2.2.2.2.2.2.2.1
    · have e2 : Dat.pickB true (Dat.bnot (decide (n ≤ c.2.2.2.2.2.2.2.2.1))) false = false := by simp [ht]
      rw [hLV, if_pos ht] at hT
      rw [e2, cond_false, ← hT]; rfl
    · obtain ⟨g1, g2, g3, g4, g5, g6, g7⟩ := step_i64 N n1 n2 ht
      have e2 : Dat.pickB true (Dat.bnot (decide (n ≤ c.2.2.2.2.2.2.2.2.1))) false = true := by simp [ht]
      rw [hLV, if_neg ht] at hT
      rw [e2, cond_true]
      show Dat.bnd (Dat.wrap .i64 (Dat.add n c.2.2.1)) _ = _
      rw [g1, Dat.bnd_eq, g2, Dat.bnd_eq, if_neg g3, g4, Dat.bnd_eq, g5, Dat.bnd_eq]
      show Dat.bind (conf_level (c, nxt c.2.2.1 n, 4 * c.2.2.1)) _ = _
      rw [conf_level_spec N (by omega) (by have := N.f1; omega) (by have := N.f2; omega), Dat.bind_some]
      exact hk (_, _) ⟨nxt c.2.2.1 n, 4 * c.2.2.1, ⟨g6, by omega, by have := N.f1; omega, by have := N.f2; omega, rfl⟩, hT⟩ (by show (nxt c.2.2.1 n).toNat < n.toNat; omega)

theorem get_lvl {l : List LvlT} {i : Nat} (hi : i < l.length) (d : LvlT) : Dat.get l (Dat.toN (i : Int)) d = l[i] := by
  rw [Dat.toN_nat, Dat.get_lt l d hi]

theorem ref08_Widest_spec {c : CfgT} (N : Nums c) : ref08_Widest c = some (wid (allS c) 0) := by
  unfold ref08_Widest
  show Dat.bind (ref08_All c) _ = _
  have hlen := allS_len c
  rw [ref08_All_spec N, Dat.bind_some]
  generalize allS c = L at *
  refine loop_inv (fun (s : Int × Int) => ∃ i : Nat, s.2 = (i : Int) ∧ i ≤ L.length ∧ wid (L.drop i) s.1 = wid L 0) (fun s => L.length - s.2.toNat) ?_ ⟨0, rfl, by omega, rfl⟩ (by show L.length - (0 : Int).toNat < _; omega)
  rintro ⟨sm, si⟩ k ⟨i, rfl, hi, hT⟩ hk
  replace hT : wid (L.drop i) sm = wid L 0 := hT
  show (bif Dat.ilt (i : Int) (Dat.ofN (Dat.len L)) then _ else _) = _
  by_cases hlt : i < L.length
  · have e1 : Dat.ilt (i : Int) (Dat.ofN (Dat.len L)) = true := by simp [hlt]
    have c1 : Dat.Ix (i : Int) (Dat.len L) := (Dat.Ix_nat _ _).2 hlt
    rw [List.drop_eq_getElem_cons hlt] at hT
    rw [e1, cond_true]
    show (if Dat.Ix (i : Int) (Dat.len L) then _ else none) = _
    rw [if_pos c1]
    show Dat.bnd (Dat.get L (Dat.toN (i : Int)) _) _ = _
    rw [get_lvl hlt, Dat.bnd_eq]
    show Dat.bnd (Dat.wrap .i64 (Dat.add (i : Int) 1)) _ = _
    rw [Dat.succ_i64 (by omega), Dat.bnd_eq]
    exact hk (_, _) ⟨i + 1, rfl, hlt, hT⟩ (by show L.length - ((i + 1 : Nat) : Int).toNat < L.length - (i : Int).toNat; omega)
  · have e1 : Dat.ilt (i : Int) (Dat.ofN (Dat.len L)) = false := by simp [hlt]
    rw [List.drop_of_length_le (by omega)] at hT
    rw [e1, cond_false, ← hT]; rfl

theorem ref08_Width_spec (c : CfgT) : ref08_Width c = some (widS c) := by
  unfold ref08_Width widS
  show Dat.bind (ref08_May c) (fun x1 => bif Dat.bnot x1 then _ else Dat.bind (ref08_Widest c) _) = _
  rw [ref08_May_spec, Dat.bind_some]
  cases hm : mayB c with
  | false => rfl
  | true =>
    obtain ⟨N, hL4⟩ := mayB_nums hm
    have e0 : Dat.bnot true = false := rfl
    rw [e0, cond_false, ref08_Widest_spec N, Dat.bind_some]; rfl

theorem SameLevels_self {l : List LvlT} (h : l.length ≤ 64) : ref08_SameLevels (l, l) = some true := by
  unfold ref08_SameLevels
  have e0 : Dat.ine (Dat.ofN (Dat.len l)) (Dat.ofN (Dat.len l)) = false := by simp [Dat.ine]
  show (bif Dat.ine (Dat.ofN (Dat.len l)) (Dat.ofN (Dat.len l)) then _ else _) = _
  rw [e0, cond_false]
  refine loop_inv (fun (s : Int) => ∃ i : Nat, s = (i : Int) ∧ i ≤ l.length) (fun s => l.length - s.toNat) ?_ ⟨0, rfl, by omega⟩ (by show l.length - (0 : Int).toNat < _; omega)
  rintro si k ⟨i, rfl, hi⟩ hk
  show (bif Dat.ilt (i : Int) (Dat.ofN (Dat.len l)) then _ else _) = _
  by_cases hlt : i < l.length
  · have e1 : Dat.ilt (i : Int) (Dat.ofN (Dat.len l)) = true := by simp [hlt]
    have c1 : Dat.Ix (i : Int) (Dat.len l) := (Dat.Ix_nat _ _).2 hlt
    rw [e1, cond_true]
    show (if Dat.Ix (i : Int) (Dat.len l) then _ else none) = _
    rw [if_pos c1]
    show Dat.bnd (Dat.get l (Dat.toN (i : Int)) _) _ = _
    rw [get_lvl hlt, Dat.bnd_eq]
    show (if Dat.Ix (i : Int) (Dat.len l) then _ else none) = _
    rw [if_pos c1, Dat.bnd_eq]
    have e2 : (Dat.bnot (Dat.andB (Dat.ieq l[i].1 l[i].1) (Dat.andB (Dat.ieq l[i].2.1 l[i].2.1) (Dat.andB (Dat.ieq l[i].2.2.1 l[i].2.2.1) (Dat.andB (Dat.ieq l[i].2.2.2.1 l[i].2.2.2.1) true))))) = false := by simp [Dat.ieq, Dat.andB]
    rw [e2, cond_false, Dat.succ_i64 (by omega), Dat.bnd_eq]
    exact hk ((i + 1 : Nat) : Int) ⟨i + 1, rfl, hlt⟩ (by show l.length - ((i + 1 : Nat) : Int).toNat < l.length - (i : Int).toNat; omega)
  · have e1 : Dat.ilt (i : Int) (Dat.ofN (Dat.len l)) = false := by simp [hlt]
    rw [e1, cond_false]
end Go.Proofs.Ytjbgbpcjgkjdcaa
