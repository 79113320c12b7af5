/- ConfFits answers true. -/
import Derived.Test.YtjbgbpcjgkjdcaaConftells
namespace Go.Proofs.Ytjbgbpcjgkjdcaa
open Go.Eng
set_option linter.unusedVariables false
set_option linter.unusedSimpArgs false

theorem chain {c : CfgT} (N : Nums c) : ∀ (k : Nat) (n z : Int), n.toNat ≤ k → 1 ≤ n → n ≤ 64 → 0 ≤ z → z ≤ 32 → ∀ (i : Nat) (p : Int × Int), (LV c n z)[i]? = some p →
    (1 ≤ p.1 ∧ p.1 ≤ 64 ∧ 0 ≤ p.2 ∧ p.2 ≤ 32) ∧ (p.1 ≤ c.2.2.2.2.2.2.2.2.1 ↔ i + 1 = (LV c n z).length) ∧ ∀ q, (LV c n z)[i + 1]? = some q → q = (nxt c.2.2.1 p.1, 4 * c.2.2.1)
  | 0, n, z, hk, h1, _, _, _ => by omega
  | k + 1, n, z, hk, h1, h64, z0, z32 => by
    intro i p hp
    have f1 := N.f1
    have f2 := N.f2
    have t1 := N.t1
    have hLV := LV_eq N h1 h64 (s := z)
    by_cases ht : n ≤ c.2.2.2.2.2.2.2.2.1
    · rw [if_pos ht] at hLV
      rw [hLV] at hp ⊢
      cases i with
      | zero =>
        simp at hp; subst hp
        exact ⟨⟨h1, h64, z0, z32⟩, by simp [ht], by simp⟩
      | succ i => simp at hp
    · rw [if_neg ht] at hLV
      obtain ⟨a, b⟩ := nxt_lt f1 f2 (show 2 ≤ n by omega)
      have hpos := LV_pos N a (by omega : nxt c.2.2.1 n ≤ 64) (z := 4 * c.2.2.1)
      have hrest := LV_eq N a (by omega : nxt c.2.2.1 n ≤ 64) (s := 4 * c.2.2.1)
      rw [hLV] at hp ⊢
      cases i with
      | zero =>
        simp at hp; subst hp
        refine ⟨⟨h1, h64, z0, z32⟩, ?_, ?_⟩
        · simp only [List.length_cons]
          constructor
          · intro h; exact absurd h ht
          · intro h; omega
        · intro q hq
          rw [hrest] at hq
          simp at hq; exact hq.symm
      | succ i =>
        have hp' : (LV c (nxt c.2.2.1 n) (4 * c.2.2.1))[i]? = some p := by simpa using hp
        obtain ⟨g1, g2, g3⟩ := chain N k (nxt c.2.2.1 n) (4 * c.2.2.1) (by omega) a (by omega) (by omega) (by omega) i p hp'
        refine ⟨g1, ?_, ?_⟩
        · rw [g2, List.length_cons]; omega
        · intro q hq
          exact g3 q (by simpa using hq)

theorem highN_may' (n : Int) : may (highN n) = true := by
  rw [may_iff]; unfold highN; (repeat' split) <;> omega
theorem high_fits {n : Int} (h1 : 1 ≤ n) (h64 : n ≤ 64) : n ≤ 2 ^ (highN n).toNat ∧ (1 < highN n → (2 : Int) ^ (highN n).toNat / 2 < n) := by
  unfold highN
  (repeat' split) <;> refine ⟨?_, ?_⟩ <;> simp <;> omega
theorem nxt_fits {F n : Int} (h2 : 2 ≤ F) (h8 : F ≤ 8) (hn : 1 ≤ n) : n ≤ nxt F n * F ∧ (nxt F n - 1) * F < n := by
  have : F = 2 ∨ F = 3 ∨ F = 4 ∨ F = 5 ∨ F = 6 ∨ F = 7 ∨ F = 8 := by omega
  unfold nxt
  rcases this with rfl | rfl | rfl | rfl | rfl | rfl | rfl <;> omega
theorem nxt_i64 {F n : Int} (h2 : 2 ≤ F) (h8 : F ≤ 8) (hn : 1 ≤ n) (h64 : n ≤ 64) : Dat.wrap .i64 (Dat.mul n F) = n * F ∧ Dat.wrap .i64 (Dat.sub n 1) = n - 1 ∧ Dat.wrap .i64 (Dat.mul (n - 1) F) = (n - 1) * F := by
  have : F = 2 ∨ F = 3 ∨ F = 4 ∨ F = 5 ∨ F = 6 ∨ F = 7 ∨ F = 8 := by omega
  refine ⟨?_, ?_, ?_⟩
  · rcases this with rfl | rfl | rfl | rfl | rfl | rfl | rfl <;> (rw [Dat.wrap_i64] <;> simp only [Dat.mul_eq] <;> omega)
  · rw [Dat.wrap_i64] <;> simp only [Dat.sub_eq] <;> omega
  · rcases this with rfl | rfl | rfl | rfl | rfl | rfl | rfl <;> (rw [Dat.wrap_i64] <;> simp only [Dat.mul_eq] <;> omega)

theorem confFits_any (c : CfgT) : law08_ConfFits c = some true := by
  unfold law08_ConfFits
  have ha : law08_alive () = some true := rfl
  rw [ha, Dat.bind_some, eta, conf_Levels_spec, Dat.bind_some]
  cases hm : mayB c with
  | false =>
    rw [conf_Check_spec, hm]
    rfl
  | true =>
    obtain ⟨N, hL4⟩ := mayB_nums hm
    have f1 := N.f1
    have f2 := N.f2
    have p1 := N.p1
    have s1 := N.s1
    have s2 := N.s2
    rw [if_pos rfl]
    have z0 : Dat.ine 0 0 = false := rfl
    have hlen : (allS c).length = (LV c c.1 c.2.1).length := by simp [allS]
    have hpos := LV_pos N N.p1 N.p2 (z := c.2.1)
    have ch := chain N 64 c.1 c.2.1 (by have := N.p2; omega) N.p1 N.p2 (by omega) N.s2
    have hat : ∀ (i : Nat) (p : Int × Int), (LV c c.1 c.2.1)[i]? = some p → ∀ d, Dat.get (allS c) (Dat.toN (i : Int)) d = lvlS c p := by
      intro i p hp d
      have hi := (List.getElem?_eq_some_iff.1 hp).1
      rw [get_lvl (by omega)]
      simp only [allS, List.getElem_map]
      rw [(List.getElem?_eq_some_iff.1 hp).2]
    have hIx : ∀ i : Nat, i < (LV c c.1 c.2.1).length → Dat.Ix (i : Int) (Dat.len (allS c)) := fun i hi => (Dat.Ix_nat _ _).2 (by rw [Dat.len_eq]; omega)
    have hofN : Dat.ofN (Dat.len (allS c)) = (((LV c c.1 c.2.1).length : Nat) : Int) := by rw [Dat.ofN_eq, Dat.len_eq, hlen]
    simp only [z0, cond_false, hofN]
    generalize hl : (LV c c.1 c.2.1).length = l at *
    refine loop_inv (fun (s : Int) => ∃ i : Nat, s = (i : Int) ∧ i ≤ l) (fun s => l - s.toNat) ?_ ⟨0, rfl, by omega⟩ (by show l - (0 : Int).toNat < _; omega)
    rintro si k ⟨i, rfl, hi⟩ hk
    by_cases hlt : i < l
    · obtain ⟨p, hp⟩ : ∃ p, (LV c c.1 c.2.1)[i]? = some p := ⟨(LV c c.1 c.2.1)[i], List.getElem?_eq_getElem (by omega)⟩
      obtain ⟨⟨q1, q2, q3, q4⟩, g2, g3⟩ := ch i p hp
      have e1 : Dat.ilt (i : Int) (l : Int) = true := by simp [hlt]
      have hmay := highN_may' p.1
      obtain ⟨w1, w2, w3⟩ := width_i64 N q3 q4
      obtain ⟨r1, r2⟩ := high_fits q1 q2
      have hmm := may_iff.1 hmay
      have hpw := pow_i (i := (highN p.1).toNat) (by omega) (by omega)
      have hleaves : geo_Leaves (highN p.1) = some (2 ^ (highN p.1).toNat, 0) := by rw [geo_Leaves_spec, hmay]; rfl
      have a1 : Dat.ilt ((2 : Int) ^ (highN p.1).toNat) p.1 = false := by simp only [Dat.ilt, decide_eq_false_iff_not]; omega
      have n2 : ¬ Dat.IsZ 2 := by show ¬ ((2 : Int) = 0); omega
      have a2 : Dat.wrap .i64 (Dat.tdiv ((2 : Int) ^ (highN p.1).toNat) 2) = 2 ^ (highN p.1).toNat / 2 := by
        have : Dat.tdiv ((2 : Int) ^ (highN p.1).toNat) 2 = 2 ^ (highN p.1).toNat / 2 := Int.tdiv_eq_ediv_of_nonneg (by omega)
        rw [this, Dat.wrap_i64] <;> omega
      have a3 : Dat.wrap .i64 (Dat.sub (l : Int) 1) = ((l - 1 : Nat) : Int) := by rw [Dat.wrap_i64] <;> simp only [Dat.sub_eq] <;> omega
      have a4 : Dat.beq (Dat.ile p.1 c.2.2.2.2.2.2.2.2.1) (Dat.ieq (i : Int) ((l - 1 : Nat) : Int)) = true := by
        by_cases ht : p.1 ≤ c.2.2.2.2.2.2.2.2.1
        · have : i = l - 1 := by have := g2.1 ht; omega
          simp [Dat.beq, Dat.ile, Dat.ieq, ht, this]
        · have : ¬ i = l - 1 := fun h => ht (g2.2 (by omega))
          simp [Dat.beq, Dat.ile, Dat.ieq, ht]; omega
      have a5 : Dat.ine (c.2.2.2.1 * (8 + p.2) + 64) (c.2.2.2.1 * (8 + p.2) + 64) = false := by simp [Dat.ine]
      have bt : Dat.bnot true = false := rfl
      have hend : k ((i + 1 : Nat) : Int) = some true := hk _ ⟨i + 1, rfl, hlt⟩ (by omega)
      have a6 : Dat.wrap .i64 (Dat.add (i : Int) 1) = ((i + 1 : Nat) : Int) := Dat.succ_i64 (by omega)
      have tail : (bif Dat.igt (i : Int) 0 then (if Dat.Ix (i : Int) (Dat.len (allS c)) then Dat.bnd (Dat.get (allS c) (Dat.toN (i : Int)) (0, (0, (0, (0, ()))))) fun x37 =>
          Dat.bnd (Dat.wrap .i64 (Dat.mul x37.1 c.2.2.1)) fun x38 => Dat.bnd (Dat.wrap .i64 (Dat.sub (i : Int) 1)) fun x39 =>
          if Dat.Ix x39 (Dat.len (allS c)) then Dat.bnd (Dat.get (allS c) (Dat.toN x39) (0, (0, (0, (0, ()))))) fun x42 =>
          (bif Dat.ilt x38 x42.1 then some false else if Dat.Ix (i : Int) (Dat.len (allS c)) then Dat.bnd (Dat.get (allS c) (Dat.toN (i : Int)) (0, (0, (0, (0, ()))))) fun x45 =>
          Dat.bnd (Dat.wrap .i64 (Dat.sub x45.1 1)) fun x46 => Dat.bnd (Dat.wrap .i64 (Dat.mul x46 c.2.2.1)) fun x47 => Dat.bnd (Dat.wrap .i64 (Dat.sub (i : Int) 1)) fun x48 =>
          if Dat.Ix x48 (Dat.len (allS c)) then Dat.bnd (Dat.get (allS c) (Dat.toN x48) (0, (0, (0, (0, ()))))) fun x51 =>
          (bif Dat.pickB false true (Dat.ige x47 x51.1) then some false else if Dat.Ix (i : Int) (Dat.len (allS c)) then Dat.bnd (Dat.get (allS c) (Dat.toN (i : Int)) (0, (0, (0, (0, ()))))) fun x54 =>
          Dat.bnd (Dat.wrap .i64 (Dat.mul 4 c.2.2.1)) fun x55 => (bif Dat.pickB true (Dat.pickB false true (Dat.ine x54.2.1 x55)) false then some false else Dat.bnd (Dat.wrap .i64 (Dat.add (i : Int) 1)) fun x56 => k x56)
          else none) else none else none) else none else none) else Dat.bnd (Dat.wrap .i64 (Dat.add (i : Int) 1)) fun x57 => k x57) = some true := by
        by_cases h0 : i = 0
        · have e0 : Dat.igt (i : Int) 0 = false := by simp [Dat.igt, h0]
          rw [e0, cond_false, a6, Dat.bnd_eq]; exact hend
        · have e0 : Dat.igt (i : Int) 0 = true := by simp [Dat.igt]; omega
          obtain ⟨m, hm2⟩ : ∃ m, (LV c c.1 c.2.1)[i - 1]? = some m := ⟨(LV c c.1 c.2.1)[i - 1], List.getElem?_eq_getElem (by omega)⟩
          obtain ⟨⟨m1, m2, m3, m4⟩, _, mg⟩ := ch (i - 1) m hm2
          have ei : i - 1 + 1 = i := by omega
          have hpm := mg p (by rw [ei]; exact hp)
          have hp1 : p.1 = nxt c.2.2.1 m.1 := by rw [hpm]
          have hp2 : p.2 = 4 * c.2.2.1 := by rw [hpm]
          obtain ⟨u1, u2⟩ := nxt_fits f1 f2 m1
          obtain ⟨v1, v2, v3⟩ := nxt_i64 f1 f2 q1 q2
          have b1 : Dat.wrap .i64 (Dat.sub (i : Int) 1) = ((i - 1 : Nat) : Int) := by rw [Dat.wrap_i64] <;> simp only [Dat.sub_eq] <;> omega
          have b2 : Dat.ilt (p.1 * c.2.2.1) m.1 = false := by simp only [Dat.ilt, decide_eq_false_iff_not]; rw [hp1]; omega
          have b3 : Dat.ige ((p.1 - 1) * c.2.2.1) m.1 = false := by simp only [Dat.ige, decide_eq_false_iff_not]; rw [hp1]; omega
          have b4 : Dat.wrap .i64 (Dat.mul 4 c.2.2.1) = 4 * c.2.2.1 := by rw [Dat.wrap_i64] <;> simp only [Dat.mul_eq] <;> omega
          have b5 : Dat.ine p.2 (4 * c.2.2.1) = false := by simp [Dat.ine, hp2]
          have j1 : (lvlS c p).1 = p.1 := rfl
          have j2 : (lvlS c p).2.1 = p.2 := rfl
          have j3 : (lvlS c m).1 = m.1 := rfl
          rw [e0, cond_true, if_pos (hIx i (by omega)), hat i p hp, Dat.bnd_eq, j1, v1, Dat.bnd_eq, b1, Dat.bnd_eq, if_pos (hIx (i - 1) (by omega)), hat (i - 1) m hm2, Dat.bnd_eq, j3, b2, cond_false, if_pos (hIx i (by omega)), Dat.bnd_eq, j1, v2, Dat.bnd_eq, v3, Dat.bnd_eq, Dat.bnd_eq, if_pos (hIx (i - 1) (by omega)), Dat.bnd_eq, hat (i - 1) m hm2, j3, b3, Dat.pick_ft, cond_false,
            if_pos (hIx i (by omega)), Dat.bnd_eq, b4, Dat.bnd_eq, j2, b5, Dat.pick_ft, Dat.pick_tf, cond_false, a6, Dat.bnd_eq]
          exact hend
      have j1 : (lvlS c p).1 = p.1 := rfl
      have j2 : (lvlS c p).2.1 = p.2 := rfl
      have j3 : (lvlS c p).2.2.1 = highN p.1 := rfl
      have j4 : (lvlS c p).2.2.2.1 = c.2.2.2.1 * (8 + p.2) + 64 := rfl
      have hg := hat i p hp
      have cI := hIx i (by omega)
      rw [e1, cond_true, if_pos cI]
      by_cases hh : 1 < highN p.1
      · have a7 : Dat.igt (highN p.1) 1 = true := by simp [Dat.igt, hh]
        have a8 : Dat.ige ((2 : Int) ^ (highN p.1).toNat / 2) p.1 = false := by have := r2 hh; simp only [Dat.ige, decide_eq_false_iff_not]; omega
        rw [hg, Dat.bnd_eq, j3, hleaves, Dat.bind_some, z0, cond_false, if_pos cI, Dat.bnd_eq, j1, a1, Dat.pick_ft, cond_false, if_pos cI, Dat.bnd_eq, j3, a7, cond_true, if_neg n2, a2, Dat.bnd_eq, if_pos cI, Dat.bnd_eq, j1, a8, Dat.pick_tf, Dat.pick_ft, cond_false, if_pos cI, Dat.bnd_eq, a3, Dat.bnd_eq, j1, a4, bt, Dat.pick_ft, cond_false, if_pos cI, Dat.bnd_eq, if_pos cI, Dat.bnd_eq, j2, w1, Dat.bnd_eq, w2, Dat.bnd_eq, w3, Dat.bnd_eq, j4, a5, Dat.pick_ft, cond_false]
        rw [hg] at tail
        exact tail
      · have a7 : Dat.igt (highN p.1) 1 = false := by simp [Dat.igt]; omega
        rw [hg, Dat.bnd_eq, j3, hleaves, Dat.bind_some, z0, cond_false, if_pos cI, Dat.bnd_eq, j1, a1, Dat.pick_ft, cond_false, if_pos cI, Dat.bnd_eq, j3, a7, cond_false, if_pos cI, Dat.bnd_eq, a3, Dat.bnd_eq, j1, a4, bt, Dat.pick_ft, cond_false, if_pos cI, Dat.bnd_eq, if_pos cI, Dat.bnd_eq, j2, w1, Dat.bnd_eq, w2, Dat.bnd_eq, w3, Dat.bnd_eq, j4, a5, Dat.pick_ft, cond_false]
        rw [hg] at tail
        exact tail
    · have e1 : Dat.ilt (i : Int) (l : Int) = false := by simp [hlt]
      have hp : (LV c c.1 c.2.1)[0]? = some (c.1, c.2.1) := by rw [LV_eq N N.p1 N.p2]; rfl
      have hg := hat 0 _ hp
      have cI := hIx 0 (by omega)
      have b1 : Dat.ige (l : Int) 1 = true := by simp [Dat.ige]; omega
      have b2 : Dat.ile (l : Int) 4 = true := by simp [Dat.ile]; omega
      have cI' : Dat.Ix 0 (Dat.len (allS c)) := cI
      have hg' : ∀ d, Dat.get (allS c) (Dat.toN 0) d = lvlS c (c.1, c.2.1) := hg
      have j1 : (lvlS c (c.1, c.2.1)).1 = c.1 := rfl
      have j2 : (lvlS c (c.1, c.2.1)).2.1 = c.2.1 := rfl
      rw [e1, cond_false, cond_true, b1, Dat.pick_tf, cond_true, b2, Dat.pick_tf, cond_true, if_pos cI', hg', Dat.bnd_eq, j1]
      have q : ∀ x : Int, Dat.ieq x x = true := fun x => by simp [Dat.ieq]
      rw [q, Dat.pick_tf, cond_true, if_pos cI', Dat.bnd_eq, j2, q, Dat.pick_tf]

theorem law08_ConfFits_true (d : Els p_law08_ConfFits.args) (hf : Fits p_law08_ConfFits.args d) : law08_ConfFits d = some true := confFits_any d
end Go.Proofs.Ytjbgbpcjgkjdcaa
