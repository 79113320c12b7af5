/- All levels, and roads, as program and document count them. -/
import Derived.Test.YtfbabemgneaekaaConf
import Derived.Test.YtfbabemgneaekaaSameInts
namespace Go.Proofs.Ytfbabemgneaekaa
open Go.Eng
set_option linter.unusedVariables false
set_option linter.unusedSimpArgs false

theorem seg1 {α : Type} (x : α) : Dat.seg (x :: ([] : List α)) 0 1 = [x] := rfl
theorem le1 {α : Type} (x : α) : Dat.Le (Dat.addN 0 1) (Dat.len (x :: ([] : List α))) := Nat.le_refl _
theorem small {α : Type} {l : List α} (h : l.length ≤ 200) (x : α) {b : Nat} (hb : b ≤ 64) : ¬ Dat.Big (Dat.len l) (Dat.len (Dat.seg (x :: ([] : List α)) 0 1)) b := by
  show ¬ (2 ^ 44 < (l.length + 1) * (b + 1))
  have : (l.length + 1) * (b + 1) ≤ 201 * 65 := Nat.mul_le_mul (by omega) (by omega)
  omega

noncomputable def allS (c : CfgT) : List LvlT := (LV c c.1 c.2.1).map (lvlS c)
theorem allS_len (c : CfgT) : (allS c).length ≤ 64 := by
  unfold allS
  rw [List.length_map]
  exact lv_len _ _ 64 _ _
theorem LV_pos {c : CfgT} (N : Nums c) {n z : Int} (n1 : 1 ≤ n) (n2 : n ≤ 64) : 1 ≤ (LV c n z).length := by rw [LV_eq N n1 n2]; simp

theorem ref08_All_spec {c : CfgT} (N : Nums c) : ref08_All c = some (allS c) := by
  unfold ref08_All
  have p1 := N.p1
  have p2 := N.p2
  have s1 := N.s1
  have s2 := N.s2
  rw [if_pos (show Dat.EqN 0 (Dat.len ([] : List LvlT)) from rfl)]
  refine loop_inv (fun (s : List LvlT × (Int × Int)) => ∃ n z : Int, (1 ≤ n ∧ n ≤ 64 ∧ 0 ≤ z ∧ z ≤ 32) ∧ s.2 = (n, z) ∧ s.1 ++ (LV c n z).map (lvlS c) = allS c) (fun s => s.2.1.toNat) ?_ ⟨c.1, c.2.1, ⟨p1, p2, by omega, s2⟩, rfl, rfl⟩ (by show c.1.toNat < _; omega)
  rintro ⟨acc, sn⟩ k ⟨n, z, ⟨n1, n2, z1, z2⟩, rfl, hT⟩ hk
  replace hT : acc ++ (LV c n z).map (lvlS c) = allS c := hT
  have hlen : acc.length ≤ 64 := by
    have h1 := congrArg List.length hT
    have h2 := allS_len c
    rw [List.length_append] at h1; omega
  have hLV := LV_eq N n1 n2 (s := z)
  obtain ⟨w1, w2, w3⟩ := width_i64 N z1 z2
  simp only
  rw [w1, Dat.bnd_eq, w2, Dat.bnd_eq, w3, Dat.bnd_eq, ref08_high_spec n n2, Dat.bind_some, if_pos (le1 _), if_neg (small (by omega) _ (by omega)), if_pos True.intro, seg1, Dat.app_eq, Dat.bnd_eq]
  by_cases ht : n ≤ c.2.2.2.2.2.2.2.2.1
  · have e2 : Dat.ile n c.2.2.2.2.2.2.2.2.1 = true := by simp [Dat.ile, ht]
    rw [hLV, if_pos ht] at hT
    rw [e2, cond_true, ← hT]; rfl
  · obtain ⟨g1, g2, g3, g4, g5, g6, g7⟩ := step_i64 N n1 n2 ht
    have e2 : Dat.ile n c.2.2.2.2.2.2.2.2.1 = false := by simp [Dat.ile]; omega
    rw [hLV, if_neg ht] at hT
    rw [e2, cond_false, g1, Dat.bnd_eq, g2, Dat.bnd_eq, if_neg g3, g4, Dat.bnd_eq, g5, Dat.bnd_eq, if_pos True.intro]
    refine hk (_, (_, _)) ⟨nxt c.2.2.1 n, 4 * c.2.2.1, ⟨g6, by omega, by have := N.f1; omega, by have := N.f2; omega⟩, rfl, ?_⟩ (by show (nxt c.2.2.1 n).toNat < n.toNat; omega)
    rw [← hT]
    simp [lvlS]

theorem ref08_May_spec (c : CfgT) : ref08_May c = some (mayB c) := by
  unfold ref08_May
  rw [eta, ref08_numbers_spec, Dat.bind_some]
  unfold mayB
  cases hn : numsB c with
  | false => rfl
  | true =>
    rw [cond_true, ref08_All_spec (nums_of hn), Dat.bind_some]
    have : (allS c).length = (LV c c.1 c.2.1).length := by simp [allS]
    simp only [Dat.pick_tf, Dat.ile, Dat.ofN_eq, Dat.len_eq, this, Bool.true_and]
    congr 1
    rw [decide_eq_decide]; omega

theorem mayB_nums {c : CfgT} (h : mayB c = true) : Nums c ∧ (LV c c.1 c.2.1).length ≤ 4 := by
  simp only [mayB, Bool.and_eq_true, decide_eq_true_eq] at h
  exact ⟨nums_of h.1, h.2⟩

/-! ### Roads -/
def rb (F : Int) : Nat → Int → List Int
  | 0, _ => []
  | m + 1, b => b :: rb F m (b / F)
def rp (F : Int) : Nat → Int → List Int
  | 0, _ => []
  | 1, b => [b]
  | m + 2, b => (b % F) :: rp F (m + 1) (b / F)
theorem rb_len (F : Int) : ∀ m b, (rb F m b).length = m
  | 0, _ => rfl
  | m + 1, b => by simp [rb, rb_len F m]
theorem rp_len (F : Int) : ∀ m b, (rp F m b).length = m
  | 0, _ => rfl
  | 1, _ => rfl
  | m + 2, b => by simp [rp, rp_len F (m + 1)]

noncomputable def roadS (c : CfgT) (p : Int) : List Int × (List Int × Int) :=
  if mayB c then (if 0 ≤ p ∧ p < c.1 then (rb c.2.2.1 (LV c c.1 c.2.1).length p, rp c.2.2.1 (LV c c.1 c.2.1).length p, 0) else ([], [], 261)) else ([], [], 8)

theorem div_le {F b : Int} (h2 : 2 ≤ F) (h8 : F ≤ 8) (h0 : 0 ≤ b) : 0 ≤ b / F ∧ b / F ≤ b := by
  have : F = 2 ∨ F = 3 ∨ F = 4 ∨ F = 5 ∨ F = 6 ∨ F = 7 ∨ F = 8 := by omega
  rcases this with rfl | rfl | rfl | rfl | rfl | rfl | rfl <;> omega

theorem page_i64 {c : CfgT} (N : Nums c) {b : Int} (h0 : 0 ≤ b) (h64 : b ≤ 64) : ¬ Dat.IsZ c.2.2.1 ∧ Dat.tmod b c.2.2.1 = b % c.2.2.1 ∧ Dat.wrap .i64 (Dat.tdiv b c.2.2.1) = b / c.2.2.1 ∧ 0 ≤ b / c.2.2.1 ∧ b / c.2.2.1 ≤ 64 := by
  have f1 := N.f1
  obtain ⟨a1, a2⟩ := div_le N.f1 N.f2 h0
  have e : Dat.tdiv b c.2.2.1 = b / c.2.2.1 := Int.tdiv_eq_ediv_of_nonneg h0
  refine ⟨by show ¬ (c.2.2.1 = 0); omega, Int.tmod_eq_emod_of_nonneg h0, ?_, a1, by omega⟩
  rw [e, Dat.wrap_i64] <;> omega

theorem conf_Road_spec (c : CfgT) (p : Int) : conf_Road (c, p) = some (roadS c p) := by
  unfold conf_Road roadS
  show Dat.bind (conf_Check c) _ = _
  rw [conf_Check_spec, Dat.bind_some]
  cases hm : mayB c with
  | false => rfl
  | true =>
    obtain ⟨N, hL4⟩ := mayB_nums hm
    have p1 := N.p1
    have p2 := N.p2
    have s1 := N.s1
    have e0 : Dat.ine (if true = true then 0 else 8) 0 = false := rfl
    rw [e0, cond_false, if_pos rfl]
    by_cases h0 : p < 0
    · have e1 : Dat.ilt p 0 = true := by simp [Dat.ilt, h0]
      show (bif Dat.ilt p 0 then _ else _) = _
      rw [e1, cond_true, if_neg (by omega)]
    · have e1 : Dat.ilt p 0 = false := by simp [Dat.ilt]; omega
      show (bif Dat.ilt p 0 then _ else (bif Dat.pickB false true (Dat.ige p c.1) then _ else _)) = _
      rw [e1, cond_false, Dat.pick_ft]
      by_cases h1 : p < c.1
      · have e2 : Dat.ige p c.1 = false := by simp only [Dat.ige, decide_eq_false_iff_not]; omega
        rw [e2, cond_false, if_pos ⟨by omega, h1⟩]
        show Dat.bind (conf_level (c, c.1, c.2.1)) _ = _
        rw [conf_level_spec N p2 (by omega) N.s2, Dat.bind_some, if_pos (show Dat.EqN 0 (Dat.len ([] : List Int)) from rfl), if_pos (show Dat.EqN 0 (Dat.len ([] : List Int)) from rfl)]
        refine loop_inv (fun (s : (Int × (Int × (Int × Int))) × (List Int × (List Int × Int))) => ∃ (n z b : Int), atL c s.1 n z ∧ s.2.2.2 = b ∧ (0 ≤ b ∧ b ≤ 64) ∧ s.2.2.1 ++ rb c.2.2.1 (LV c n z).length b = rb c.2.2.1 (LV c c.1 c.2.1).length p ∧ s.2.1 ++ rp c.2.2.1 (LV c n z).length b = rp c.2.2.1 (LV c c.1 c.2.1).length p) (fun s => s.1.1.toNat) ?_ ⟨c.1, c.2.1, p, ⟨p1, p2, by omega, N.s2, rfl⟩, rfl, ⟨by omega, by omega⟩, rfl, rfl⟩ (by show c.1.toNat < _; omega)
        rintro ⟨sl, spl, sbl, sb⟩ k ⟨n, z, b, ⟨n1, n2, z1, z2, hl⟩, rfl, ⟨b0, b64⟩, hB, hP⟩ hk
        replace hl : sl = _ := hl
        subst hl
        replace hB : sbl ++ rb c.2.2.1 (LV c n z).length sb = rb c.2.2.1 (LV c c.1 c.2.1).length p := hB
        replace hP : spl ++ rp c.2.2.1 (LV c n z).length sb = rp c.2.2.1 (LV c c.1 c.2.1).length p := hP
        have hbl : sbl.length ≤ 64 := by
          have h1 := congrArg List.length hB
          rw [List.length_append, rb_len, rb_len] at h1; omega
        have hpl : spl.length ≤ 64 := by
          have h1 := congrArg List.length hP
          rw [List.length_append, rp_len, rp_len] at h1; omega
        have hLV := LV_eq N n1 n2 (s := z)
        have last : conf_isLast (c, lvlS c (n, z)) = some (decide (n ≤ c.2.2.2.2.2.2.2.2.1)) := rfl
        show (if Dat.Le (Dat.addN 0 1) (Dat.len (sb :: ([] : List Int))) then (if Dat.Big (Dat.len sbl) (Dat.len (Dat.seg (sb :: ([] : List Int)) 0 1)) 8 then none else if Dat.EqN (Dat.len sbl) (Dat.len sbl) then Dat.bnd (Dat.app sbl (Dat.seg (sb :: ([] : List Int)) 0 1)) fun x15 => Dat.bind (conf_isLast (c, lvlS c (n, z))) _ else none) else none) = _
        rw [if_pos (le1 _), if_neg (small (by omega) _ (by omega)), if_pos (Dat.EqN_self _), seg1, Dat.app_eq, Dat.bnd_eq, last, Dat.bind_some]
        by_cases ht : n ≤ c.2.2.2.2.2.2.2.2.1
        · rw [hLV, if_pos ht] at hB hP
          have e3 : decide (n ≤ c.2.2.2.2.2.2.2.2.1) = true := by simp [ht]
          rw [e3, cond_true]
          show (if Dat.Le (Dat.addN 0 1) (Dat.len (sb :: ([] : List Int))) then (if Dat.Big (Dat.len spl) (Dat.len [sb]) 8 then none else if Dat.EqN (Dat.len spl) (Dat.len spl) then Dat.bnd (Dat.app spl [sb]) fun x23 => Dat.bind (some true) _ else none) else none) = _
          rw [if_pos (le1 _), if_neg (show ¬ Dat.Big (Dat.len spl) (Dat.len [sb]) 8 from small (b := 8) (by omega) sb (by omega)), if_pos (Dat.EqN_self _), Dat.app_eq, Dat.bnd_eq, Dat.bind_some]
          have e4 : Dat.pickB true (Dat.bnot true) false = false := rfl
          rw [e4, cond_false, ← hB, ← hP]
          rfl
        · rw [hLV, if_neg ht] at hB hP
          obtain ⟨g1, g2, g3, g4, g5, g6, g7⟩ := step_i64 N n1 n2 ht
          obtain ⟨q1, q2, q3, q4, q5⟩ := page_i64 N b0 b64
          have e3 : decide (n ≤ c.2.2.2.2.2.2.2.2.1) = false := by simp; omega
          have hpos := LV_pos N g6 (by omega : nxt c.2.2.1 n ≤ 64) (z := 4 * c.2.2.1)
          rw [e3, cond_false]
          show (if Dat.IsZ c.2.2.1 then none else Dat.bnd (Dat.tmod sb c.2.2.1) fun x38 => if Dat.Le (Dat.addN 0 1) (Dat.len (x38 :: ([] : List Int))) then (if Dat.Big (Dat.len spl) (Dat.len (Dat.seg (x38 :: ([] : List Int)) 0 1)) 8 then none else if Dat.EqN (Dat.len spl) (Dat.len spl) then Dat.bnd (Dat.app spl (Dat.seg (x38 :: ([] : List Int)) 0 1)) fun x45 => if Dat.IsZ c.2.2.1 then none else Dat.bnd (Dat.wrap .i64 (Dat.tdiv sb c.2.2.1)) fun x48 => Dat.bind (some false) _ else none) else none) = _
          rw [if_neg q1, q2, Dat.bnd_eq, if_pos (le1 _), if_neg (small (by omega) _ (by omega)), if_pos (Dat.EqN_self _), seg1, Dat.app_eq, Dat.bnd_eq, if_neg q1, q3, Dat.bnd_eq, Dat.bind_some]
          have e4 : Dat.pickB true (Dat.bnot false) false = true := rfl
          rw [e4, cond_true]
          show Dat.bnd (Dat.wrap .i64 (Dat.add n c.2.2.1)) _ = _
          rw [g1, Dat.bnd_eq, g2, Dat.bnd_eq, if_neg g3, g4, Dat.bnd_eq, g5, Dat.bnd_eq]
          show Dat.bind (conf_level (c, nxt c.2.2.1 n, 4 * c.2.2.1)) _ = _
          rw [conf_level_spec N (by omega) (by have := N.f1; omega) (by have := N.f2; omega), Dat.bind_some, if_pos (Dat.EqN_self _), if_pos (Dat.EqN_self _)]
          refine hk (_, (_, (_, _))) ⟨nxt c.2.2.1 n, 4 * c.2.2.1, sb / c.2.2.1, ⟨g6, by omega, by have := N.f1; omega, by have := N.f2; omega, rfl⟩, rfl, ⟨q4, q5⟩, ?_, ?_⟩ (by show (nxt c.2.2.1 n).toNat < n.toNat; omega)
          · rw [← hB]; simp [rb]
          · rw [← hP]
            obtain ⟨m, hm⟩ : ∃ m, (LV c (nxt c.2.2.1 n) (4 * c.2.2.1)).length = m + 1 := ⟨(LV c (nxt c.2.2.1 n) (4 * c.2.2.1)).length - 1, by omega⟩
            simp [hm, rp]
      · have e2 : Dat.ige p c.1 = true := by simp only [Dat.ige, decide_eq_true_eq]; omega
        rw [e2, cond_true, if_neg (by omega)]

theorem ref08_Way_spec {c : CfgT} (N : Nums c) {p : Int} (h0 : 0 ≤ p) (h64 : p ≤ 64) : ref08_Way (c, p) = some (rb c.2.2.1 (LV c c.1 c.2.1).length p, rp c.2.2.1 (LV c c.1 c.2.1).length p) := by
  unfold ref08_Way
  show Dat.bind (ref08_All c) _ = _
  have hlen : (allS c).length = (LV c c.1 c.2.1).length := by simp [allS]
  have hpos := LV_pos N N.p1 N.p2 (z := c.2.1)
  have hle := lv_len c.2.2.2.2.2.2.2.2.1 c.2.2.1 64 c.1 c.2.1
  have hle' : (LV c c.1 c.2.1).length ≤ 64 := hle
  rw [ref08_All_spec N, Dat.bind_some, if_pos (show Dat.EqN 0 (Dat.len ([] : List Int)) from rfl), if_pos (show Dat.EqN 0 (Dat.len ([] : List Int)) from rfl)]
  rw [Dat.len_eq, hlen, Dat.ofN_eq]
  generalize (LV c c.1 c.2.1).length = L at *
  refine loop_inv (fun (s : List Int × (List Int × (Int × Int))) => ∃ (i : Nat) (b : Int), s.2.2 = (b, (i : Int)) ∧ i ≤ L ∧ (0 ≤ b ∧ b ≤ 64) ∧ s.1 ++ rb c.2.2.1 (L - i) b = rb c.2.2.1 L p ∧ s.2.1 ++ rp c.2.2.1 (L - i) b = rp c.2.2.1 L p) (fun s => L - s.2.2.2.toNat) ?_ ⟨0, p, rfl, by omega, ⟨h0, h64⟩, rfl, rfl⟩ (by show L - (0 : Int).toNat < _; omega)
  rintro ⟨sbl, spl, sbi⟩ k ⟨i, b, rfl, hi, ⟨b0, b64⟩, hB, hP⟩ hk
  replace hB : sbl ++ rb c.2.2.1 (L - i) b = rb c.2.2.1 L p := hB
  replace hP : spl ++ rp c.2.2.1 (L - i) b = rp c.2.2.1 L p := hP
  have hbl : sbl.length ≤ 64 := by
    have h1 := congrArg List.length hB
    rw [List.length_append, rb_len, rb_len] at h1; omega
  have hpl : spl.length ≤ 64 := by
    have h1 := congrArg List.length hP
    rw [List.length_append, rp_len, rp_len] at h1; omega
  obtain ⟨q1, q2, q3, q4, q5⟩ := page_i64 N b0 b64
  simp only
  by_cases hlt : i < L
  · obtain ⟨m, hm⟩ : ∃ m, L - i = m + 1 := ⟨L - i - 1, by omega⟩
    have hm' : L - (i + 1) = m := by omega
    have e1 : Dat.ilt (i : Int) (L : Int) = true := by simp [hlt]
    have w1 : Dat.wrap .i64 (Dat.sub (L : Int) 1) = ((L - 1 : Nat) : Int) := by rw [Dat.wrap_i64] <;> simp only [Dat.sub_eq] <;> omega
    rw [e1, cond_true, if_pos (le1 _), if_neg (small (by omega) _ (by omega)), if_pos True.intro, seg1, Dat.app_eq, Dat.bnd_eq, w1, Dat.bnd_eq]
    have hB' : (sbl ++ [b]) ++ rb c.2.2.1 (L - (i + 1)) (b / c.2.2.1) = rb c.2.2.1 L p := by rw [← hB, hm, hm']; simp [rb]
    by_cases hlast : i = L - 1
    · have e2 : Dat.ieq (i : Int) ((L - 1 : Nat) : Int) = true := by simp [Dat.ieq]; omega
      have hm0 : m = 0 := by omega
      have hP' : (spl ++ [b]) ++ rp c.2.2.1 (L - (i + 1)) (b / c.2.2.1) = rp c.2.2.1 L p := by rw [← hP, hm, hm', hm0]; simp [rp]
      rw [e2, cond_true, if_pos (le1 _), if_neg (show ¬ Dat.Big (Dat.len spl) (Dat.len [b]) 8 from small (b := 8) (by omega) b (by omega)), if_pos True.intro, Dat.app_eq, Dat.bnd_eq, if_neg q1, q3, Dat.bnd_eq, Dat.succ_i64 (by omega), Dat.bnd_eq, if_pos True.intro, if_pos True.intro]
      exact hk (_, (_, (_, _))) ⟨i + 1, b / c.2.2.1, rfl, hlt, ⟨q4, q5⟩, hB', hP'⟩ (by show L - ((i + 1 : Nat) : Int).toNat < L - (i : Int).toNat; omega)
    · have e2 : Dat.ieq (i : Int) ((L - 1 : Nat) : Int) = false := by simp [Dat.ieq]; omega
      obtain ⟨m2, hm2⟩ : ∃ m2, m = m2 + 1 := ⟨m - 1, by omega⟩
      have hP' : (spl ++ [b % c.2.2.1]) ++ rp c.2.2.1 (L - (i + 1)) (b / c.2.2.1) = rp c.2.2.1 L p := by rw [← hP, hm, hm', hm2]; simp [rp]
      rw [e2, cond_false, if_neg q1, q2, Dat.bnd_eq, if_pos (le1 _), if_neg (small (by omega) _ (by omega)), if_pos True.intro, seg1, Dat.app_eq, Dat.bnd_eq, if_neg q1, q3, Dat.bnd_eq, Dat.succ_i64 (by omega), Dat.bnd_eq, if_pos True.intro, if_pos True.intro]
      exact hk (_, (_, (_, _))) ⟨i + 1, b / c.2.2.1, rfl, hlt, ⟨q4, q5⟩, hB', hP'⟩ (by show L - ((i + 1 : Nat) : Int).toNat < L - (i : Int).toNat; omega)
  · have e1 : Dat.ilt (i : Int) (L : Int) = false := by simp [hlt]
    have : L - i = 0 := by omega
    rw [this] at hB hP
    simp only [rb, rp, List.append_nil] at hB hP
    rw [e1, cond_false, hB, hP]

end Go.Proofs.Ytfbabemgneaekaa
