/- ConfRoad answers true. -/
import Derived.Test.YtjbgbpcjgkjdcaaConfFits
namespace Go.Proofs.Ytjbgbpcjgkjdcaa
open Go.Eng
set_option linter.unusedVariables false
set_option linter.unusedSimpArgs false

def bi (F b : Int) : Nat → Int
  | 0 => b
  | i + 1 => bi F b i / F
theorem bi_shift (F b : Int) : ∀ i, bi F (b / F) i = bi F b (i + 1)
  | 0 => rfl
  | i + 1 => by simp only [bi]; rw [bi_shift F b i]; rfl
theorem rb_get {F : Int} : ∀ (m : Nat) (b : Int) (i : Nat), i < m → (rb F m b)[i]? = some (bi F b i)
  | m + 1, b, 0, _ => rfl
  | m + 1, b, i + 1, h => by
    simp only [rb, List.getElem?_cons_succ]
    rw [rb_get m (b / F) i (by omega), bi_shift]
theorem rp_get {F : Int} : ∀ (m : Nat) (b : Int) (i : Nat), i + 1 < m → (rp F m b)[i]? = some (bi F b i % F)
  | 0, b, i, h => by omega
  | 1, b, i, h => by omega
  | m + 2, b, 0, _ => rfl
  | m + 2, b, i + 1, h => by
    simp only [rp, List.getElem?_cons_succ]
    rw [rp_get (m + 1) (b / F) i (by omega), bi_shift]
theorem rp_last {F : Int} : ∀ (m : Nat) (b : Int), (rp F (m + 1) b)[m]? = some (bi F b m)
  | 0, b => rfl
  | m + 1, b => by
    simp only [rp, List.getElem?_cons_succ]
    rw [rp_last m (b / F), bi_shift]

theorem bi_low {F n b : Int} (h2 : 2 ≤ F) (h8 : F ≤ 8) (h0 : 0 ≤ b) (hn : b < n) : 0 ≤ b / F ∧ b / F < nxt F n := by
  have : F = 2 ∨ F = 3 ∨ F = 4 ∨ F = 5 ∨ F = 6 ∨ F = 7 ∨ F = 8 := by omega
  unfold nxt
  rcases this with rfl | rfl | rfl | rfl | rfl | rfl | rfl <;> omega
theorem mod_F {F b : Int} (h2 : 2 ≤ F) (h8 : F ≤ 8) (h0 : 0 ≤ b) (h64 : b < 64) : 0 ≤ b % F ∧ b % F < F ∧ b / F * F + b % F = b ∧ 0 ≤ b / F * F ∧ b / F * F ≤ 64 := by
  have : F = 2 ∨ F = 3 ∨ F = 4 ∨ F = 5 ∨ F = 6 ∨ F = 7 ∨ F = 8 := by omega
  rcases this with rfl | rfl | rfl | rfl | rfl | rfl | rfl <;> omega

theorem bi_fits {c : CfgT} (N : Nums c) {p : Int} (h0 : 0 ≤ p) (hp : p < c.1) : ∀ (i : Nat) (q : Int × Int), (LV c c.1 c.2.1)[i]? = some q → 0 ≤ bi c.2.2.1 p i ∧ bi c.2.2.1 p i < q.1
  | 0, q, hq => by
    rw [LV_eq N N.p1 N.p2] at hq
    simp at hq; subst hq; exact ⟨h0, hp⟩
  | i + 1, q, hq => by
    have hlt := (List.getElem?_eq_some_iff.1 hq).1
    obtain ⟨m, hm⟩ : ∃ m, (LV c c.1 c.2.1)[i]? = some m := ⟨(LV c c.1 c.2.1)[i], List.getElem?_eq_getElem (by omega)⟩
    obtain ⟨a, b⟩ := bi_fits N h0 hp i m hm
    have s1 := N.s1
    obtain ⟨_, _, g3⟩ := chain N 64 c.1 c.2.1 (by have := N.p2; omega) N.p1 N.p2 (by omega) N.s2 i m hm
    have := g3 q hq
    subst this
    exact bi_low N.f1 N.f2 a b

theorem get_of {l : List Int} {i : Nat} {v : Int} (h : l[i]? = some v) : Dat.get l (Dat.toN (i : Int)) 0 = v := by
  rw [Dat.toN_nat, Dat.get_lt l 0 (List.getElem?_eq_some_iff.1 h).1]
  exact (List.getElem?_eq_some_iff.1 h).2

theorem confRoad_good {c : CfgT} {p o : Int} (hm : mayB c = true) (h0 : 0 ≤ p) (h1 : p < c.1) : law08_ConfRoad (c, p, o) = some true := by
  obtain ⟨N, hL4⟩ := mayB_nums hm
  have f1 := N.f1
  have f2 := N.f2
  have p2 := N.p2
  have s1 := N.s1
  unfold law08_ConfRoad
  have ha : law08_alive () = some true := rfl
  show Dat.bind (law08_alive ()) (fun x1 => Dat.bind (conf_Levels c) (fun x2 => Dat.bind (conf_Road (c, p)) (fun x3 => Dat.bind (conf_Road (c, o)) _))) = _
  rw [ha, Dat.bind_some, conf_Levels_spec, hm, Dat.bind_some, conf_Road_spec, Dat.bind_some, conf_Road_spec, Dat.bind_some, if_pos rfl]
  have hr : roadS c p = (rb c.2.2.1 (LV c c.1 c.2.1).length p, rp c.2.2.1 (LV c c.1 c.2.1).length p, 0) := by unfold roadS; rw [hm, if_pos rfl, if_pos ⟨h0, h1⟩]
  have hro : (roadS c o = (rb c.2.2.1 (LV c c.1 c.2.1).length o, rp c.2.2.1 (LV c c.1 c.2.1).length o, 0) ∧ 0 ≤ o ∧ o < c.1) ∨ (roadS c o).2.2 = 261 := by
    unfold roadS
    rw [hm, if_pos rfl]
    by_cases h : 0 ≤ o ∧ o < c.1
    · left; rw [if_pos h]; exact ⟨rfl, h.1, h.2⟩
    · right; rw [if_neg h]
  rw [hr]
  have hlen : (allS c).length = (LV c c.1 c.2.1).length := by simp [allS]
  have hpos := LV_pos N N.p1 N.p2 (z := c.2.1)
  have hfit := bi_fits N h0 h1
  have ch := chain N 64 c.1 c.2.1 (by omega) N.p1 N.p2 (by omega) N.s2
  have hat : ∀ (i : Nat) (p : Int × Int), (LV c c.1 c.2.1)[i]? = some p → ∀ d, Dat.get (allS c) (Dat.toN (i : Int)) d = lvlS c p := by
    intro i p hp d
    have hi := (List.getElem?_eq_some_iff.1 hp).1
    rw [get_lvl (by omega)]
    simp only [allS, List.getElem_map]
    rw [(List.getElem?_eq_some_iff.1 hp).2]
  generalize hX : roadS c o = X at *
  have z0 : Dat.ine 0 0 = false := rfl
  have hofA : Dat.ofN (Dat.len (allS c)) = (((LV c c.1 c.2.1).length : Nat) : Int) := by rw [Dat.ofN_eq, Dat.len_eq, hlen]
  have hlA : Dat.len (allS c) = (LV c c.1 c.2.1).length := by rw [Dat.len_eq, hlen]
  have hex : ∀ i, i < (LV c c.1 c.2.1).length → ∃ q, (LV c c.1 c.2.1)[i]? = some q := fun i hi => ⟨(LV c c.1 c.2.1)[i], List.getElem?_eq_getElem hi⟩
  generalize hl : (LV c c.1 c.2.1).length = l at *
  have hlB : Dat.len (rb c.2.2.1 l p) = l := rb_len _ _ _
  have hlP : Dat.len (rp c.2.2.1 l p) = l := rp_len _ _ _
  have e1 : Dat.ine (l : Int) (l : Int) = false := by simp [Dat.ine]
  have e2 : Dat.ieq (l : Int) 0 = false := by simp [Dat.ieq]; omega
  have w1 : Dat.wrap .i64 (Dat.sub (l : Int) 1) = ((l - 1 : Nat) : Int) := by rw [Dat.wrap_i64] <;> simp only [Dat.sub_eq] <;> omega
  have hIx : ∀ i : Nat, i < l → Dat.Ix (i : Int) l := fun i hi => (Dat.Ix_nat _ _).2 hi
  have hB : ∀ i : Nat, i < l → Dat.get (rb c.2.2.1 l p) (Dat.toN (i : Int)) 0 = bi c.2.2.1 p i := fun i hi => get_of (rb_get l p i hi)
  have hP : ∀ i : Nat, i + 1 < l → Dat.get (rp c.2.2.1 l p) (Dat.toN (i : Int)) 0 = bi c.2.2.1 p i % c.2.2.1 := fun i hi => get_of (rp_get l p i hi)
  have hPl : Dat.get (rp c.2.2.1 l p) (Dat.toN ((l - 1 : Nat) : Int)) 0 = bi c.2.2.1 p (l - 1) := by
    obtain ⟨m, rfl⟩ : ∃ m, l = m + 1 := ⟨l - 1, by omega⟩
    exact get_of (rp_last m p)
  have c0 := hIx (l - 1) (by omega)
  simp only [z0, cond_false, Dat.pick_ft, hofA, hlA, hlB, hlP, Dat.ofN_eq, e1, e2, w1, if_pos c0, hPl, Dat.bnd_eq]
  refine loop_inv (fun (s : Int × Int) => ∃ j : Nat, j ≤ l ∧ s.2 = (j : Int) - 1 ∧ ((j = l ∧ s.1 = bi c.2.2.1 p (l - 1)) ∨ (j < l ∧ s.1 = bi c.2.2.1 p j))) (fun s => (s.2 + 1).toNat) ?_ ⟨l, Nat.le_refl _, by show ((l - 1 : Nat) : Int) = _; omega, .inl ⟨rfl, rfl⟩⟩ (by show (((l - 1 : Nat) : Int) + 1).toNat < _; omega)
  rintro ⟨sn, si⟩ k ⟨j, hj, rfl, hs⟩ hk
  by_cases hz : 0 < j
  · obtain ⟨i, rfl⟩ : ∃ i, j = i + 1 := ⟨j - 1, by omega⟩
    have ei : ((i + 1 : Nat) : Int) - 1 = (i : Int) := by omega
    obtain ⟨q, hq⟩ := hex i (by omega)
    obtain ⟨b0, b1⟩ := hfit i q hq
    obtain ⟨⟨q1, q2, _, _⟩, _, _⟩ := ch i q hq
    have cI := hIx i (by omega)
    have g1 := hat i q hq (0, (0, (0, (0, ()))))
    have j1 : (lvlS c q).1 = q.1 := rfl
    have e3 : Dat.ige (i : Int) 0 = true := by simp [Dat.ige]
    have e4 : Dat.ine (bi c.2.2.1 p i) (bi c.2.2.1 p i) = false := by simp [Dat.ine]
    have e5 : Dat.ilt (bi c.2.2.1 p i) 0 = false := by simp [Dat.ilt]; omega
    have e6 : Dat.ige (bi c.2.2.1 p i) q.1 = false := by simp only [Dat.ige, decide_eq_false_iff_not]; omega
    have w2 : Dat.wrap .i64 (Dat.sub (i : Int) 1) = (i : Int) - 1 := by rw [Dat.wrap_i64] <;> simp only [Dat.sub_eq] <;> omega
    have hend : k (bi c.2.2.1 p i, (i : Int) - 1) = some true := hk _ ⟨i, by omega, rfl, .inr ⟨by omega, rfl⟩⟩ (by show ((i : Int) - 1 + 1).toNat < (((i + 1 : Nat) : Int) - 1 + 1).toNat; omega)
    by_cases hlast : i + 1 = l
    · have e7 : Dat.ilt (i : Int) ((l - 1 : Nat) : Int) = false := by rw [Dat.ilt_nat]; simp; omega
      have hsn : sn = bi c.2.2.1 p i := by
        rcases hs with ⟨_, h⟩ | ⟨h, _⟩
        · rw [show i = l - 1 by omega]; exact h
        · omega
      subst hsn
      simp only [ei, e3, cond_true, e7, cond_false, if_pos cI, hB i (by omega), Dat.bnd_eq, e4, e5, Dat.pick_ft, g1, j1, e6, w2]
      exact hend
    · have e7 : Dat.ilt (i : Int) ((l - 1 : Nat) : Int) = true := by rw [Dat.ilt_nat]; simp; omega
      have hsn : sn = bi c.2.2.1 p i / c.2.2.1 := by
        rcases hs with ⟨h, _⟩ | ⟨_, h⟩
        · omega
        · exact h
      subst hsn
      obtain ⟨m1, m2, m3, m4, m5⟩ := mod_F f1 f2 b0 (by omega : bi c.2.2.1 p i < 64)
      have w3 : Dat.wrap .i64 (Dat.mul (bi c.2.2.1 p i / c.2.2.1) c.2.2.1) = bi c.2.2.1 p i / c.2.2.1 * c.2.2.1 := by rw [Dat.wrap_i64] <;> simp only [Dat.mul_eq] <;> omega
      have w4 : Dat.wrap .i64 (Dat.add (bi c.2.2.1 p i / c.2.2.1 * c.2.2.1) (bi c.2.2.1 p i % c.2.2.1)) = bi c.2.2.1 p i := by
        have : Dat.add (bi c.2.2.1 p i / c.2.2.1 * c.2.2.1) (bi c.2.2.1 p i % c.2.2.1) = bi c.2.2.1 p i := m3
        rw [this, Dat.wrap_i64] <;> omega
      have e8 : Dat.ilt (bi c.2.2.1 p i % c.2.2.1) 0 = false := by simp only [Dat.ilt, decide_eq_false_iff_not]; omega
      have e9 : Dat.ige (bi c.2.2.1 p i % c.2.2.1) c.2.2.1 = false := by simp only [Dat.ige, decide_eq_false_iff_not]; omega
      simp only [ei, e3, cond_true, e7, w3, Dat.bnd_eq, if_pos cI, hP i (by omega), w4, hB i (by omega), e4, e5, cond_false, Dat.pick_ft, g1, j1, e6, e8, e9, Dat.pick_tf, w2]
      exact hend
  · have hj0 : j = 0 := by omega
    subst hj0
    have hsn : sn = p := by
      rcases hs with ⟨h, _⟩ | ⟨_, h⟩
      · omega
      · exact h
    subst hsn
    have e3 : Dat.ige (((0 : Nat) : Int) - 1) 0 = false := rfl
    have e4 : Dat.ine sn sn = false := by simp [Dat.ine]
    rcases hro with ⟨rfl, o0, o1⟩ | hbad
    · have q0 : Dat.ieq 0 0 = true := rfl
      have hlO : Dat.len (rb c.2.2.1 l o) = l := rb_len _ _ _
      have hO : ∀ i : Nat, i < l → Dat.get (rb c.2.2.1 l o) (Dat.toN (i : Int)) 0 = bi c.2.2.1 o i := fun i hi => get_of (rb_get l o i hi)
      simp only [e3, cond_false, e4, q0, cond_true, hlO, Dat.ofN_eq, e1, Dat.pick_tf, Dat.pick_ft]
      refine loop_inv (fun (s : Int) => ∃ i : Nat, s = (i : Int) ∧ 1 ≤ i ∧ i ≤ l) (fun s => l - s.toNat) ?_ ⟨1, rfl, by omega, hpos⟩ (by show l - (1 : Int).toNat < _; omega)
      rintro si k2 ⟨i, rfl, i1, i2⟩ hk2
      by_cases hlt : i < l
      · have e5 : Dat.ilt (i : Int) (l : Int) = true := by simp [hlt]
        have w2 : Dat.wrap .i64 (Dat.sub (i : Int) 1) = ((i - 1 : Nat) : Int) := by rw [Dat.wrap_i64] <;> simp only [Dat.sub_eq] <;> omega
        have w3 : Dat.wrap .i64 (Dat.add (i : Int) 1) = ((i + 1 : Nat) : Int) := Dat.succ_i64 (by omega)
        have hend : k2 ((i + 1 : Nat) : Int) = some true := hk2 _ ⟨i + 1, rfl, by omega, hlt⟩ (by omega)
        have s1 : bi c.2.2.1 sn i = bi c.2.2.1 sn (i - 1) / c.2.2.1 := by
          obtain ⟨m, rfl⟩ : ∃ m, i = m + 1 := ⟨i - 1, by omega⟩
          rfl
        have s2 : bi c.2.2.1 o i = bi c.2.2.1 o (i - 1) / c.2.2.1 := by
          obtain ⟨m, rfl⟩ : ∃ m, i = m + 1 := ⟨i - 1, by omega⟩
          rfl
        simp only [e5, cond_true, w2, Dat.bnd_eq, if_pos (hIx (i - 1) (by omega)), hB (i - 1) (by omega), hO (i - 1) (by omega), if_pos (hIx i hlt), hB i hlt, hO i hlt, w3]
        by_cases he : bi c.2.2.1 sn (i - 1) = bi c.2.2.1 o (i - 1)
        · have e6 : Dat.ieq (bi c.2.2.1 sn (i - 1)) (bi c.2.2.1 o (i - 1)) = true := by simp [Dat.ieq, he]
          have e7 : Dat.ine (bi c.2.2.1 sn i) (bi c.2.2.1 o i) = false := by simp [Dat.ine, s1, s2, he]
          rw [e6, cond_true, e7, cond_false]; exact hend
        · have e6 : Dat.ieq (bi c.2.2.1 sn (i - 1)) (bi c.2.2.1 o (i - 1)) = false := by simp [Dat.ieq, he]
          rw [e6, cond_false]; exact hend
      · have e5 : Dat.ilt (i : Int) (l : Int) = false := by simp [hlt]
        simp only [e5, cond_false]
    · have q0 : Dat.ieq 261 0 = false := rfl
      simp only [e3, cond_false, e4, hbad, q0, cond_true, Dat.pick_tf, Dat.pick_ft]
      refine loop_inv (fun (s : Int) => ∃ i : Nat, s = (i : Int)) (fun s => l - s.toNat) ?_ ⟨1, rfl⟩ (by show l - (1 : Int).toNat < _; omega)
      rintro si k2 ⟨i, rfl⟩ hk2
      by_cases hlt : i < l
      · have e5 : Dat.ilt (i : Int) (l : Int) = true := by simp [hlt]
        simp only [e5, cond_true]
      · have e5 : Dat.ilt (i : Int) (l : Int) = false := by simp [hlt]
        simp only [e5, cond_false]

theorem confRoad_any (c : CfgT) (p o : Int) : law08_ConfRoad (c, p, o) = some true := by
  cases hm : mayB c with
  | true =>
    by_cases h : 0 ≤ p ∧ p < c.1
    · exact confRoad_good hm h.1 h.2
    · unfold law08_ConfRoad
      have ha : law08_alive () = some true := rfl
      show Dat.bind (law08_alive ()) (fun x1 => Dat.bind (conf_Levels c) (fun x2 => Dat.bind (conf_Road (c, p)) (fun x3 => Dat.bind (conf_Road (c, o)) _))) = _
      have hr : roadS c p = ([], [], 261) := by unfold roadS; rw [hm, if_pos rfl, if_neg h]
      rw [ha, Dat.bind_some, conf_Levels_spec, hm, Dat.bind_some, conf_Road_spec, hr, Dat.bind_some, conf_Road_spec, Dat.bind_some]
      rfl
  | false =>
    unfold law08_ConfRoad
    have ha : law08_alive () = some true := rfl
    show Dat.bind (law08_alive ()) (fun x1 => Dat.bind (conf_Levels c) (fun x2 => Dat.bind (conf_Road (c, p)) (fun x3 => Dat.bind (conf_Road (c, o)) _))) = _
    have hr : roadS c p = ([], [], 8) := by unfold roadS; rw [hm]; rfl
    rw [ha, Dat.bind_some, conf_Levels_spec, hm, Dat.bind_some, conf_Road_spec, hr, Dat.bind_some, conf_Road_spec, Dat.bind_some]
    rfl

theorem law08_ConfRoad_true (d : Els p_law08_ConfRoad.args) (hf : Fits p_law08_ConfRoad.args d) : law08_ConfRoad d = some true := confRoad_any d.1 d.2.1 d.2.2
end Go.Proofs.Ytjbgbpcjgkjdcaa
