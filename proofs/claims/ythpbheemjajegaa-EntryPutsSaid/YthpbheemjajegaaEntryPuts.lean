/- EntryPuts answers true. -/
import Derived.Test.YthpbheemjajegaaEntryBack
import Derived.Test.YthpbheemjajegaaNumber
import Derived.Test.YthpbheemjajegaaSpoil
import Derived.Test.YthpbheemjajegaaSame
namespace Go.Proofs.Ythpbheemjajegaa
open Go.Eng
set_option linter.unusedVariables false
set_option linter.unusedSimpArgs false

theorem asked_ok (h : Int) (b : List Int) (p : Int) (hb : b.length < 1000) : ref19_asked (h, b, p) = some (may h && plB b p) := by
  unfold ref19_asked plB
  simp only
  rw [ref07_May_spec, Dat.bind_some]
  cases hm : may h with
  | false => rfl
  | true =>
    have z4 : ¬ Dat.IsZ 4 := by show ¬ ((4 : Int) = 0); omega
    have d1 : Dat.wrap .i64 (Dat.tdiv (Dat.ofN (Dat.len b)) 4) = ((b.length / 4 : Nat) : Int) := by
      have : Dat.tdiv (Dat.ofN (Dat.len b)) 4 = ((b.length / 4 : Nat) : Int) := Int.ofNat_tdiv _ 4
      rw [this, Dat.wrap_i64] <;> omega
    have d2 : Dat.tmod (Dat.ofN (Dat.len b)) 4 = ((b.length % 4 : Nat) : Int) := Int.ofNat_tmod _ 4
    rw [cond_true, if_neg z4, d2, Dat.bnd_eq, if_neg z4, d1, Dat.bnd_eq]
    simp only [Dat.pick_tf]
    by_cases h2 : 8 ≤ b.length
    · have e2 : Dat.ige (Dat.ofN (Dat.len b)) 8 = true := by simp only [Dat.ige, decide_eq_true_eq, Dat.ofN_eq, Dat.len_eq]; omega
      rw [e2, cond_true]
      by_cases h3 : b.length ≤ 32
      · have e3 : Dat.ile (Dat.ofN (Dat.len b)) 32 = true := by simp only [Dat.ile, decide_eq_true_eq, Dat.ofN_eq, Dat.len_eq]; omega
        rw [e3, cond_true]
        by_cases h1 : b.length % 4 = 0
        · have e1 : Dat.ieq ((b.length % 4 : Nat) : Int) 0 = true := by simp [Dat.ieq]; omega
          rw [e1, cond_true]
          by_cases h4 : 0 ≤ p
          · have e4 : Dat.ige p 0 = true := by simp [Dat.ige, h4]
            rw [e4, cond_true]
            have e5 : Dat.ilt p ((b.length / 4 : Nat) : Int) = decide (4 * p + 4 ≤ (b.length : Int)) := by
              simp only [Dat.ilt]; rw [decide_eq_decide]; omega
            rw [e5]; simp [h1, h2, h3, h4]
          · have e4 : Dat.ige p 0 = false := by simp [Dat.ige, h4]
            rw [e4, cond_false]; simp [h1, h2, h3, h4]
        · have e1 : Dat.ieq ((b.length % 4 : Nat) : Int) 0 = false := by simp [Dat.ieq]; omega
          rw [e1, cond_false]; simp [h1]
      · have e3 : Dat.ile (Dat.ofN (Dat.len b)) 32 = false := by simp only [Dat.ile, decide_eq_false_iff_not, Dat.ofN_eq, Dat.len_eq]; omega
        rw [e3, cond_false]; simp [h3]
    · have e2 : Dat.ige (Dat.ofN (Dat.len b)) 8 = false := by simp only [Dat.ige, decide_eq_false_iff_not, Dat.ofN_eq, Dat.len_eq]; omega
      rw [e2, cond_false]; simp [h2]

theorem refRead_ok (h : Int) (b : List Int) (p : Int) (hB : isB b) (hb : b.length < 1000) : ref19_Read (h, b, p) = some (readS h b p) := by
  unfold ref19_Read readS
  simp only
  rw [asked_ok h b p hb, Dat.bind_some]
  cases hm : may h with
  | false => rfl
  | true =>
    cases hp : plB b p with
    | false => rfl
    | true =>
      obtain ⟨q, rfl, q1, q2, q3⟩ := plB_iff hp
      have hm' := may_iff.1 hm
      obtain ⟨w1, w2⟩ := place_i64 q1 q3
      have w1' : Dat.wrap .i64 (Dat.mul 4 (q : Int)) = ((4 * q : Nat) : Int) := by rw [← w1]; simp only [Dat.mul_eq, Int.mul_comm]
      have e0 : Dat.bnot (true && true) = false := rfl
      have c1 : Dat.Bd ((4 * q + 4 : Nat) : Int) (Dat.len b) := ⟨by omega, by show ((4 * q + 4 : Nat) : Int) ≤ b.length; omega⟩
      have c3 : Dat.Bd ((4 * q : Nat) : Int) (Dat.toN ((4 * q + 4 : Nat) : Int)) := ⟨by omega, by rw [Dat.toN_nat]; omega⟩
      have es : Dat.slice b (Dat.toN ((4 * q : Nat) : Int)) (Dat.toN ((4 * q + 4 : Nat) : Int)) = cell b q := by rw [Dat.toN_nat, Dat.toN_nat]; rfl
      have hcl := cell_len q1
      have hcB : isB (cell b q) := isB_drop (isB_take hB _) _
      have hv := val_bounds hcB
      rw [hcl] at hv
      have hv2 : (256 : Int) ^ 4 = 4294967296 := by decide
      rw [hv2] at hv
      have w3 : Dat.wrap .i64 (val (cell b q)) = val (cell b q) := by rw [Dat.wrap_i64] <;> omega
      have w4 : Dat.wrap .u64 (2 ^ h.toNat) = 2 ^ h.toNat := by rcases may_cases hm with rfl | rfl | rfl | rfl | rfl | rfl <;> rfl
      rw [e0, cond_false, w1', Dat.bnd_eq, Dat.bnd_eq, w2, Dat.bnd_eq, if_pos c1, if_pos c3, es, Dat.bnd_eq, ref01_Number_spec _ hcB (by omega), Dat.bind_some, ref07_Many_spec h (by omega) (by omega), Dat.bind_some, w4, Dat.bnd_eq, w3, Dat.bnd_eq, if_pos rfl, if_pos rfl, Int.toNat_natCast]
      generalize val (cell b q) = v at *
      by_cases hle : v ≤ 2 ^ h.toNat
      · have : Dat.igt v (2 ^ h.toNat) = false := by simp [Dat.igt]; omega
        rw [this, cond_false, if_pos hle]
      · have : Dat.igt v (2 ^ h.toNat) = true := by simp [Dat.igt]; omega
        rw [this, cond_true, if_neg hle]

theorem set_mid {b d : List Int} {a i : Nat} (hi : i < d.length) (hb : a + d.length ≤ b.length) :
    (b.take a ++ (d.take i ++ b.drop (a + i))).set (a + i) d[i] = b.take a ++ (d.take (i + 1) ++ b.drop (a + i + 1)) := by
  have h1 : (b.take a).length = a := by rw [List.length_take]; omega
  have h2 : (d.take i).length = i := by rw [List.length_take]; omega
  rw [List.set_append, if_neg (by omega), h1, Nat.add_sub_cancel_left, List.set_append, if_neg (by omega), h2, Nat.sub_self, List.drop_eq_getElem_cons (l := b) (i := a + i) (by omega), List.set_cons_zero, List.take_succ_eq_append_getElem hi, List.append_assoc]
  rfl

theorem refPut_ok (h : Int) (b : List Int) (p n : Int) (hb : b.length < 1000) (n0 : -9223372036854775808 ≤ n) (n1 : n ≤ 9223372036854775807) : ref19_Put (h, b, p, n) = some (putR h b p n) := by
  unfold ref19_Put putR
  simp only
  rw [asked_ok h b p hb, Dat.bind_some]
  cases hm : may h with
  | false => rfl
  | true =>
    cases hp : plB b p with
    | false => rfl
    | true =>
      obtain ⟨q, rfl, q1, q2, q3⟩ := plB_iff hp
      have hm' := may_iff.1 hm
      obtain ⟨w1, w2⟩ := place_i64 q1 q3
      have w1' : Dat.wrap .i64 (Dat.mul 4 (q : Int)) = ((4 * q : Nat) : Int) := by rw [← w1]; simp only [Dat.mul_eq, Int.mul_comm]
      have e0 : Dat.bnot (true && true) = false := rfl
      rw [e0, cond_false, ref19_May_spec h n hm, Dat.bind_some, if_pos rfl, if_pos rfl]
      by_cases hc : 0 ≤ n ∧ n ≤ 2 ^ h.toNat
      · have hck : chkS h n = 0 := by unfold chkS; rw [hm, if_pos rfl, if_pos hc]
        have h64 := (chk_ok hck).2
        have e1 : Dat.bnot (decide (0 ≤ n ∧ n ≤ 2 ^ h.toNat)) = false := by simp [hc]
        have hne : ¬ Dat.EqN (Dat.len b) 0 := by show ¬ (b.length = 0); omega
        have hbig : ¬ Dat.Big (Dat.len (Dat.seg ([] : List Int) 0 0)) (Dat.len b) 1 := by show ¬ (2 ^ 44 < (0 + b.length) * (1 + 1)); omega
        have ea : Dat.app (Dat.seg ([] : List Int) 0 0) b = b := rfl
        rw [e1, cond_false, if_pos (show Dat.Le (Dat.addN 0 0) (Dat.len ([] : List Int)) from Nat.le_refl _), if_neg hne, if_neg hbig, ea, Dat.bnd_eq, ref19_Bytes_spec n hc.1 h64, Dat.bind_some, if_pos hck, Int.toNat_natCast, w1']
        refine loop_inv (fun s => ∃ i : Nat, s.1 = (i : Int) ∧ i ≤ 4 ∧ s.2 = b.take (4 * q) ++ ((digs n 4).take i ++ b.drop (4 * q + i))) (fun s => (4 - s.1).toNat) ?_ ⟨0, rfl, by omega, by simp⟩ (by show ((4 : Int) - 0).toNat < _; decide)
        rintro ⟨si, sl⟩ k ⟨i, rfl, hle, hl⟩ hk
        simp only at hl
        subst hl
        have hlen : (b.take (4 * q) ++ ((digs n 4).take i ++ b.drop (4 * q + i))).length = b.length := by
          rw [List.length_append, List.length_append, List.length_take, List.length_take, List.length_drop, digs_len]; omega
        by_cases hi : i < 4
        · have e1 : Dat.ilt (i : Int) 4 = true := by simp only [Dat.ilt, decide_eq_true_eq]; omega
          have w3 : Dat.wrap .i64 (Dat.add ((4 * q : Nat) : Int) (i : Int)) = ((4 * q + i : Nat) : Int) := by rw [Dat.wrap_i64] <;> simp only [Dat.add_eq] <;> omega
          have c1 : Dat.Ix (i : Int) (Dat.len (digs n 4)) := (Dat.Ix_nat _ _).2 (by rw [Dat.len_eq, digs_len]; omega)
          have c2 : Dat.In ((4 * q + i : Nat) : Int) (Dat.len b) := ⟨by omega, by show ((4 * q + i : Nat) : Int) < b.length; omega⟩
          have c3 : Dat.Lt (Dat.addN 0 (Dat.toN ((4 * q + i : Nat) : Int))) (Dat.len (b.take (4 * q) ++ ((digs n 4).take i ++ b.drop (4 * q + i)))) := by
            show 0 + ((4 * q + i : Nat) : Int).toNat < List.length _; rw [hlen]; omega
          have w5 : Dat.wrap .i64 (Dat.add (i : Int) 1) = ((i + 1 : Nat) : Int) := Dat.succ_i64 (by omega)
          simp only
          rw [e1, cond_true, Dat.bnd_eq, w3, Dat.bnd_eq, if_pos c1, Dat.toN_nat, Dat.get_lt _ 0 (by rw [digs_len]; omega), Dat.bnd_eq, if_pos c2, if_pos c3, Dat.toN_nat, w5]
          have es : Dat.set (b.take (4 * q) ++ ((digs n 4).take i ++ b.drop (4 * q + i))) (Dat.addN 0 (4 * q + i)) ((digs n 4)[i]'(by rw [digs_len]; omega)) = b.take (4 * q) ++ ((digs n 4).take (i + 1) ++ b.drop (4 * q + (i + 1))) := by
            show List.set _ (0 + (4 * q + i)) _ = _
            rw [Nat.zero_add, set_mid (by rw [digs_len]; omega) (by rw [digs_len]; omega)]
            rfl
          rw [es, Dat.bnd_eq, Dat.bnd_eq]
          exact hk _ ⟨i + 1, rfl, by omega, rfl⟩ (by simp <;> omega)
        · have e1 : Dat.ilt (i : Int) 4 = false := by simp only [Dat.ilt, decide_eq_false_iff_not]; omega
          have hi4 : i = 4 := by omega
          subst hi4
          have ef : b.take (4 * q) ++ ((digs n 4).take 4 ++ b.drop (4 * q + 4)) = putAt b q n := by
            unfold putAt; rw [List.take_of_length_le (l := digs n 4) (by rw [digs_len]; omega)]
          rw [ef] at hlen ⊢
          have c6 : Dat.Le (Dat.addN 0 (Dat.len b)) (Dat.len (putAt b q n)) := by show 0 + b.length ≤ (putAt b q n).length; omega
          have es : Dat.seg (putAt b q n) 0 (Dat.len b) = putAt b q n := by
            show ((putAt b q n).drop 0).take b.length = _
            rw [List.drop_zero, List.take_of_length_le]; omega
          simp only
          rw [e1, cond_false, if_pos c6, es]
      · have hck : ¬ chkS h n = 0 := by unfold chkS; rw [hm, if_pos rfl, if_neg hc]; omega
        have hck8 : chkS h n = 8 := by unfold chkS; rw [hm, if_pos rfl, if_neg hc]
        have e1 : Dat.bnot (decide (0 ≤ n ∧ n ≤ 2 ^ h.toNat)) = true := by simp [hc]
        rw [e1, cond_true, if_neg hck, hck8]

theorem entryPuts_any (h : Int) (b : List Int) (p n : Int) (hB : isB b) (n0 : -9223372036854775808 ≤ n) (n1 : n ≤ 9223372036854775807) : law19_EntryPuts (h, b, p, n) = some true := by
  unfold law19_EntryPuts
  simp only
  by_cases hlen : b.length > 100
  · have : Dat.igt (Dat.ofN (Dat.len b)) 100 = true := by simp [Dat.igt]; omega
    rw [this, cond_true]
  · have e0 : Dat.igt (Dat.ofN (Dat.len b)) 100 = false := by simp [Dat.igt]; omega
    have hbig : ¬ Dat.Big (Dat.len (Dat.seg ([] : List Int) 0 0)) (Dat.len b) 1 := by show ¬ (2 ^ 44 < (0 + b.length) * (1 + 1)); omega
    have ea : Dat.app (Dat.seg ([] : List Int) 0 0) b = b := rfl
    rw [e0, cond_false, if_pos (show Dat.Le (Dat.addN 0 0) (Dat.len ([] : List Int)) from Nat.le_refl _), if_neg hbig, ea, Dat.bnd_eq, read_ok h b p hB (by omega), Dat.bind_some, refRead_ok h b p hB (by omega), Dat.bind_some, put_ok h b p n (by omega) n0 n1, Dat.bind_some, refPut_ok h b p n (by omega) n0 n1, Dat.bind_some]
    have hL : (putR h b p n).1.length ≤ 100 := by
      unfold putR
      split
      · split
        · split
          · rename_i h1 h2 h3
            obtain ⟨q, rfl, q1, q2, q3⟩ := plB_iff h2
            rw [Int.toNat_natCast]
            show (putAt b q n).length ≤ 100
            rw [putAt_len q1]; omega
          · exact Nat.zero_le _
        · exact Nat.zero_le _
      · exact Nat.zero_le _
    generalize putR h b p n = r at *
    generalize readS h b p = v at *
    obtain ⟨r1, r2⟩ := r
    simp only at hL ⊢
    have q0 : ∀ x : Int, Dat.ieq x x = true := fun x => by simp [Dat.ieq]
    have eseg : Dat.seg r1 0 (Dat.len r1) = r1 := by
      show (r1.drop 0).take r1.length = _
      rw [List.drop_zero, List.take_of_length_le (Nat.le_refl _)]
    have cle : Dat.Le (Dat.addN 0 (Dat.len r1)) (Dat.len r1) := by show 0 + r1.length ≤ r1.length; omega
    have p1 : Dat.pickB true true false = true := rfl
    have s1 := ref01_Same_spec r1 r1
    have s2 := ref01_Same_spec b b
    rw [decide_eq_true rfl] at s1 s2
    by_cases hz : Dat.EqN (Dat.len r1) 0
    · rw [if_pos hz, q0, cond_true, q0, p1, cond_true, s1, Dat.bind_some, p1, cond_true, q0, p1, cond_true, s2, Dat.bind_some, p1]
      exact spoil_nil r1 hz true _ rfl _
    · rw [if_neg hz, Dat.bind_some, q0, cond_true, q0, p1, cond_true, if_pos cle, eseg, s1, Dat.bind_some, p1, cond_true, q0, p1, cond_true, s2, Dat.bind_some, p1]
      exact spoil_ok .u8 r1.length r1 rfl (by omega) true _ rfl

theorem law19_EntryPuts_true (d : Els p_law19_EntryPuts.args) (hf : Fits p_law19_EntryPuts.args d) : law19_EntryPuts d = some true := by
  obtain ⟨h, b, p, n⟩ := d
  obtain ⟨_, ⟨_, f2⟩, _, f5⟩ := hf
  obtain ⟨b1, b2⟩ := fit_i64 f5
  exact entryPuts_any h b p n (fun x hx => fit_u8 (f2 x hx)) b1 b2
end Go.Proofs.Ythpbheemjajegaa
