/- EntryBack answers true. -/
import Derived.Test.YthpbheemjajegaaEntry
import Derived.Test.YthpbheemjajegaaTake
namespace Go.Proofs.Ythpbheemjajegaa
open Go.Eng
set_option linter.unusedVariables false
set_option linter.unusedSimpArgs false

def plB (b : List Int) (p : Int) : Bool := decide (b.length % 4 = 0) && (decide (8 ≤ b.length) && (decide (b.length ≤ 32) && (decide (0 ≤ p) && decide (4 * p + 4 ≤ (b.length : Int)))))
theorem isPlace_ok (b : List Int) (p : Int) (hb : b.length < 1000) : entry_isPlace (b, p) = some (plB b p) := by
  unfold entry_isPlace plB
  have z4 : ¬ Dat.IsZ 4 := by show ¬ ((4 : Int) = 0); omega
  have d1 : Dat.wrap .i64 (Dat.tdiv (Dat.ofN (Dat.len b)) 4) = ((b.length / 4 : Nat) : Int) := by
    have : Dat.tdiv (Dat.ofN (Dat.len b)) 4 = ((b.length / 4 : Nat) : Int) := Int.ofNat_tdiv _ 4
    rw [this, Dat.wrap_i64] <;> omega
  have d2 : Dat.tmod (Dat.ofN (Dat.len b)) 4 = ((b.length % 4 : Nat) : Int) := Int.ofNat_tmod _ 4
  rw [if_neg z4, d1, Dat.bnd_eq, if_neg z4, d2, Dat.bnd_eq]
  simp only [Dat.pick_tf]
  by_cases h1 : b.length % 4 = 0
  · have e1 : Dat.ieq ((b.length % 4 : Nat) : Int) 0 = true := by simp [Dat.ieq]; omega
    rw [e1, cond_true]
    by_cases h2 : 8 ≤ b.length
    · have e2 : Dat.ige ((b.length / 4 : Nat) : Int) 2 = true := by simp only [Dat.ige, decide_eq_true_eq]; omega
      rw [e2, cond_true]
      by_cases h3 : b.length ≤ 32
      · have e3 : Dat.ile ((b.length / 4 : Nat) : Int) 8 = true := by simp only [Dat.ile, decide_eq_true_eq]; omega
        rw [e3, cond_true]
        by_cases h4 : 0 ≤ p
        · have e4 : Dat.ige p 0 = true := by simp [Dat.ige, h4]
          rw [e4, cond_true]
          have e5 : Dat.ilt p ((b.length / 4 : Nat) : Int) = decide (4 * p + 4 ≤ (b.length : Int)) := by
            simp only [Dat.ilt]; rw [decide_eq_decide]; omega
          rw [e5]; simp [h1, h2, h3, h4]
        · have e4 : Dat.ige p 0 = false := by simp [Dat.ige, h4]
          rw [e4, cond_false]; simp [h1, h2, h3, h4]
      · have e3 : Dat.ile ((b.length / 4 : Nat) : Int) 8 = false := by simp only [Dat.ile, decide_eq_false_iff_not]; omega
        rw [e3, cond_false]; simp [h1, h2, h3]
    · have e2 : Dat.ige ((b.length / 4 : Nat) : Int) 2 = false := by simp only [Dat.ige, decide_eq_false_iff_not]; omega
      rw [e2, cond_false]; simp [h1, h2]
  · have e1 : Dat.ieq ((b.length % 4 : Nat) : Int) 0 = false := by simp [Dat.ieq]; omega
    rw [e1, cond_false]; simp [h1]
theorem plB_iff {b : List Int} {p : Int} (h : plB b p = true) : ∃ q : Nat, p = (q : Int) ∧ 4 * q + 4 ≤ b.length ∧ 8 ≤ b.length ∧ b.length ≤ 32 := by
  simp only [plB, Bool.and_eq_true, decide_eq_true_eq] at h
  obtain ⟨h1, h2, h3, h4, h5⟩ := h
  obtain ⟨q, rfl⟩ := Int.eq_ofNat_of_zero_le h4
  exact ⟨q, rfl, by omega, h2, h3⟩

def cell (b : List Int) (q : Nat) : List Int := (b.take (4 * q + 4)).drop (4 * q)
theorem cell_len {b : List Int} {q : Nat} (h : 4 * q + 4 ≤ b.length) : (cell b q).length = 4 := by unfold cell; rw [List.length_drop, List.length_take]; omega
theorem take_one {x : List Int} (h : x.length = 4) : takeS x [4] = ([val x], 0) := by
  have e : parts x [4] = [x] := by
    have : x.take 4 = x := List.take_of_length_le (by omega)
    simp [parts, part, upto, List.range_succ, this]
  have ok : okS 1 8 [4] = true := by decide
  unfold takeS
  rw [if_pos ok, if_pos (by rw [h]; rfl), e]; rfl

def readS (h : Int) (b : List Int) (p : Int) : Int × Int := if may h then (if plB b p then (if val (cell b p.toNat) ≤ 2 ^ h.toNat then (val (cell b p.toNat), 0) else (0, 8)) else (0, 2)) else (0, 2)

theorem place_i64 {b : List Int} {q : Nat} (h : 4 * q + 4 ≤ b.length) (hb : b.length ≤ 32) : Dat.wrap .i64 (Dat.mul (q : Int) 4) = ((4 * q : Nat) : Int) ∧ Dat.wrap .i64 (Dat.add ((4 * q : Nat) : Int) 4) = ((4 * q + 4 : Nat) : Int) := by
  constructor
  · rw [Dat.wrap_i64] <;> simp only [Dat.mul_eq] <;> omega
  · rw [Dat.wrap_i64] <;> simp only [Dat.add_eq] <;> omega

theorem read_ok (h : Int) (b : List Int) (p : Int) (hB : isB b) (hb : b.length < 1000) : entry_Read (h, b, p) = some (readS h b p) := by
  unfold entry_Read readS
  simp only
  rw [geo_Leaves_spec, Dat.bind_some]
  cases hm : may h with
  | false => rfl
  | true =>
    have z0 : Dat.ine 0 0 = false := rfl
    rw [if_pos rfl, if_pos rfl, z0, cond_false, isPlace_ok b p hb, Dat.bind_some]
    cases hp : plB b p with
    | false => rfl
    | true =>
      obtain ⟨q, rfl, q1, q2, q3⟩ := plB_iff hp
      obtain ⟨w1, w2⟩ := place_i64 q1 q3
      have e0 : Dat.pickB false true (Dat.bnot true) = false := rfl
      have c1 : Dat.Bd ((4 * q + 4 : Nat) : Int) (Dat.len b) := ⟨by omega, by show ((4 * q + 4 : Nat) : Int) ≤ b.length; omega⟩
      have c2 : Dat.Bd ((4 * q + 4 : Nat) : Int) (Dat.toN ((4 * q + 4 : Nat) : Int)) := ⟨by omega, by rw [Dat.toN_nat]; exact Int.le_refl _⟩
      have c3 : Dat.Bd ((4 * q : Nat) : Int) (Dat.toN ((4 * q + 4 : Nat) : Int)) := ⟨by omega, by rw [Dat.toN_nat]; omega⟩
      have es : Dat.slice b (Dat.toN ((4 * q : Nat) : Int)) (Dat.toN ((4 * q + 4 : Nat) : Int)) = cell b q := by rw [Dat.toN_nat, Dat.toN_nat]; rfl
      have e4 : Dat.seg ((4 : Int) :: ([] : List Int)) 0 1 = [4] := rfl
      have hcl := cell_len q1
      have hcB : isB (cell b q) := isB_drop (isB_take hB _) _
      have hv := val_bounds hcB
      rw [hcl] at hv
      have hv2 : (256 : Int) ^ 4 = 4294967296 := by decide
      rw [hv2] at hv
      rw [e0, cond_false, w1, Dat.bnd_eq, w2, Dat.bnd_eq, Dat.bnd_eq, if_pos c1, if_pos c2, if_pos c3, es, Dat.bnd_eq, if_pos (show Dat.Le (Dat.addN 0 1) (Dat.len ((4 : Int) :: ([] : List Int))) from Nat.le_refl _), e4, num_Take_spec _ _ (by simp) hcB, take_one hcl, Dat.bind_some]
      simp only
      have g0 : Dat.get [val (cell b q)] (Dat.toN 0) 0 = val (cell b q) := rfl
      have cI : Dat.Ix 0 (Dat.len [val (cell b q)]) := (Dat.Ix_nat 0 1).2 (by omega)
      have w3 : Dat.wrap .i64 (val (cell b q)) = val (cell b q) := by rw [Dat.wrap_i64] <;> omega
      rw [z0, cond_false, if_pos cI, g0, Dat.bnd_eq, if_pos cI, Dat.bnd_eq, w3, Dat.bnd_eq, cond_false, if_pos True.intro, Int.toNat_natCast]
      have e2 : Dat.wrap .i64 (Dat.add 1 (2 ^ h.toNat)) = 1 + 2 ^ h.toNat := by rcases may_cases hm with rfl | rfl | rfl | rfl | rfl | rfl <;> rfl
      have e3 : Dat.wrap .u64 (1 + 2 ^ h.toNat) = 1 + 2 ^ h.toNat := by rcases may_cases hm with rfl | rfl | rfl | rfl | rfl | rfl <;> rfl
      have hp : (0 : Int) < 2 ^ h.toNat := Int.pow_pos (by omega)
      rw [e2, Dat.bnd_eq, e3, Dat.bnd_eq]
      generalize val (cell b q) = v at *
      by_cases hz : v = 0
      · have : Dat.ieq v 0 = true := by simp [Dat.ieq, hz]
        rw [this, cond_true, if_pos (by omega)]
      · have : Dat.ieq v 0 = false := by simp [Dat.ieq, hz]
        rw [this, cond_false, Dat.pick_ft]
        by_cases hle : v ≤ 2 ^ h.toNat
        · have : Dat.bnot (Dat.ilt v (1 + 2 ^ h.toNat)) = false := by simp [Dat.ilt]; omega
          rw [this, cond_false, if_pos hle]
        · have : Dat.bnot (Dat.ilt v (1 + 2 ^ h.toNat)) = true := by simp [Dat.ilt]; omega
          rw [this, cond_true, if_neg hle]

def putAt (b : List Int) (q : Nat) (n : Int) : List Int := b.take (4 * q) ++ (digs n 4 ++ b.drop (4 * q + 4))
def putR (h : Int) (b : List Int) (p n : Int) : List Int × Int := if may h then (if plB b p then (if chkS h n = 0 then (putAt b p.toNat n, 0) else ([], chkS h n)) else ([], 2)) else ([], 2)
theorem putAt_len {b : List Int} {q : Nat} {n : Int} (h : 4 * q + 4 ≤ b.length) : (putAt b q n).length = b.length := by
  unfold putAt
  rw [List.length_append, List.length_append, List.length_take, List.length_drop, digs_len]; omega

theorem put_ok (h : Int) (b : List Int) (p n : Int) (hb : b.length < 1000) (n0 : -9223372036854775808 ≤ n) (n1 : n ≤ 9223372036854775807) : entry_Put (h, b, p, n) = some (putR h b p n) := by
  unfold entry_Put putR
  simp only
  rw [geo_Check_spec, Dat.bind_some]
  cases hm : may h with
  | false => rfl
  | true =>
    have z0 : Dat.ine (if true = true then 0 else 2) 0 = false := rfl
    rw [z0, cond_false, isPlace_ok b p hb, Dat.bind_some, if_pos rfl]
    cases hp : plB b p with
    | false => rfl
    | true =>
      obtain ⟨q, rfl, q1, q2, q3⟩ := plB_iff hp
      have e0 : Dat.pickB false true (Dat.bnot true) = false := rfl
      rw [e0, cond_false, entry_Write_spec h n n0 n1, Dat.bind_some, if_pos rfl]
      unfold wrS
      by_cases hc : chkS h n = 0
      · obtain ⟨w1, w2⟩ := place_i64 q1 q3
        have zz : Dat.ine 0 0 = false := rfl
        rw [if_pos hc, if_pos hc]
        simp only
        have hne : ¬ Dat.EqN (Dat.len b) 0 := by show ¬ (b.length = 0); omega
        have hbig : ¬ Dat.Big (Dat.len (Dat.seg ([] : List Int) 0 0)) (Dat.len b) 1 := by show ¬ (2 ^ 44 < (0 + b.length) * (1 + 1)); omega
        have ea : Dat.app (Dat.seg ([] : List Int) 0 0) b = b := rfl
        have c1 : Dat.Bd ((4 * q + 4 : Nat) : Int) (Dat.len b) := ⟨by omega, by show ((4 * q + 4 : Nat) : Int) ≤ b.length; omega⟩
        have c2 : Dat.Bd ((4 * q + 4 : Nat) : Int) (Dat.toN ((4 * q + 4 : Nat) : Int)) := ⟨by omega, by rw [Dat.toN_nat]; exact Int.le_refl _⟩
        have c3 : Dat.Bd ((4 * q : Nat) : Int) (Dat.toN ((4 * q + 4 : Nat) : Int)) := ⟨by omega, by rw [Dat.toN_nat]; omega⟩
        have c4 : Dat.Lt (Dat.toN ((4 * q : Nat) : Int)) (Dat.toN ((4 * q + 4 : Nat) : Int)) := by rw [Dat.toN_nat, Dat.toN_nat]; show 4 * q < 4 * q + 4; omega
        have c5 : Dat.Le (Dat.addN (Dat.addN 0 (Dat.toN ((4 * q : Nat) : Int))) (Dat.subN (Dat.toN ((4 * q + 4 : Nat) : Int)) (Dat.toN ((4 * q : Nat) : Int)))) (Dat.len b) := by
          rw [Dat.toN_nat, Dat.toN_nat]; show 0 + 4 * q + (4 * q + 4 - 4 * q) ≤ b.length; omega
        have ep : Dat.put b (Dat.addN 0 (Dat.toN ((4 * q : Nat) : Int))) (Dat.take (Dat.minN (Dat.len (digs n 4)) (Dat.subN (Dat.toN ((4 * q + 4 : Nat) : Int)) (Dat.toN ((4 * q : Nat) : Int)))) (digs n 4)) = putAt b q n := by
          have t1 : Dat.take (Dat.minN (Dat.len (digs n 4)) (Dat.subN (Dat.toN ((4 * q + 4 : Nat) : Int)) (Dat.toN ((4 * q : Nat) : Int)))) (digs n 4) = digs n 4 := by
            rw [Dat.toN_nat, Dat.toN_nat]
            show (digs n 4).take (min (digs n 4).length (4 * q + 4 - 4 * q)) = _
            rw [List.take_of_length_le]
            rw [digs_len]; omega
          rw [t1, Dat.toN_nat]
          show splice b (0 + 4 * q) (digs n 4) = _
          unfold splice putAt
          rw [digs_len, Nat.zero_add, List.append_assoc]
        have c6 : Dat.Le (Dat.addN 0 (Dat.len b)) (Dat.len (putAt b q n)) := by show 0 + b.length ≤ (putAt b q n).length; rw [putAt_len q1]; omega
        have es : Dat.seg (putAt b q n) 0 (Dat.len b) = putAt b q n := by
          show ((putAt b q n).drop 0).take b.length = _
          rw [List.drop_zero, List.take_of_length_le]; rw [putAt_len q1]; exact Nat.le_refl _
        rw [zz, cond_false, if_neg hne, if_neg hne, if_pos (show Dat.Le (Dat.addN 0 0) (Dat.len ([] : List Int)) from Nat.le_refl _), if_neg hne, if_neg hbig, ea, Dat.bnd_eq, w1, Dat.bnd_eq, w2, Dat.bnd_eq, Dat.bnd_eq, if_pos c1, if_pos c2, if_pos c3, if_pos c4, if_pos c5, ep, if_pos c6, es, Int.toNat_natCast]
      · have : Dat.ine (chkS h n) 0 = true := by simp [Dat.ine, hc]
        rw [if_neg hc, if_neg hc]
        simp only
        rw [this, cond_true]

theorem cell_put {b : List Int} {q : Nat} {n : Int} (h : 4 * q + 4 ≤ b.length) : cell (putAt b q n) q = digs n 4 := by
  unfold cell putAt
  have h1 : (b.take (4 * q)).length = 4 * q := by rw [List.length_take]; omega
  rw [List.take_append, h1, List.take_of_length_le (by rw [h1]; omega), List.drop_append, h1, List.drop_of_length_le (by rw [h1]; omega)]
  have e : 4 * q + 4 - 4 * q = 4 := by omega
  have e2 : 4 * q - 4 * q = 0 := by omega
  rw [e, e2, List.drop_zero, List.nil_append, List.take_append, digs_len, List.take_of_length_le (by rw [digs_len]; omega)]
  simp
theorem cell_other {b : List Int} {q r : Nat} {n : Int} (h : 4 * q + 4 ≤ b.length) (hr : 4 * r + 4 ≤ b.length) (hne : r ≠ q) : cell (putAt b q n) r = cell b r := by
  apply List.ext_getElem?
  intro i
  unfold cell
  rw [List.getElem?_drop, List.getElem?_drop, List.getElem?_take, List.getElem?_take]
  by_cases hi : 4 * r + i < 4 * r + 4
  · rw [if_pos hi, if_pos hi]
    unfold putAt
    have h1 : (b.take (4 * q)).length = 4 * q := by rw [List.length_take]; omega
    by_cases hlt : r < q
    · rw [List.getElem?_append_left (by rw [h1]; omega), List.getElem?_take, if_pos (by omega)]
    · rw [List.getElem?_append_right (by rw [h1]; omega), h1, List.getElem?_append_right (by rw [digs_len]; omega), digs_len, List.getElem?_drop]
      congr 1; omega
  · rw [if_neg hi, if_neg hi]

theorem digs_isB (n : Int) (m : Nat) : isB (digs n m) := by
  intro x hx
  obtain ⟨j, _, rfl⟩ := List.mem_map.1 hx
  omega
theorem putAt_isB {b : List Int} (hB : isB b) (q : Nat) (n : Int) : isB (putAt b q n) := by
  intro x hx
  unfold putAt at hx
  rcases List.mem_append.1 hx with hx | hx
  · exact hB x (List.mem_of_mem_take hx)
  · rcases List.mem_append.1 hx with hx | hx
    · exact digs_isB n 4 x hx
    · exact hB x (List.mem_of_mem_drop hx)

end Go.Proofs.Ythpbheemjajegaa
