/- Package stream, and the document's answer. -/
import Derived.Test.YtohjdjdckklojaaBlocks
import Derived.Test.YtohjdjdckklojaaNumput
import Derived.Test.YtohjdjdckklojaaMid
namespace Go.Proofs.Ytohjdjdckklojaa
open Go.Eng
set_option linter.unusedVariables false
set_option linter.unusedSimpArgs false

def nonceS (n : Int) : List Int := List.replicate 4 0 ++ digs n 8
theorem nonceS_len (n : Int) : (nonceS n).length = 12 := by simp [nonceS, digs_len]
theorem pow8_eq : (256 : Int) ^ 8 = 18446744073709551616 := by decide
theorem put_one {n : Int} (h0 : 0 ≤ n) (h1 : n < 18446744073709551616) : putS [n] [8] = (digs n 8, 0) := by
  have ok : okS 1 8 [8] = true := by decide
  have hf : fitsAll (([n] : List Int).zip [8]) = true := by
    simp only [List.zip_cons_cons, List.zip_nil_right, fitsAll, List.all_cons, List.all_nil, Bool.and_true, decide_eq_true_eq]
    show n / 256 ^ 8 = 0
    rw [pow8_eq]; omega
  unfold putS
  rw [if_neg (by rw [ok]; simp), if_neg (by simp), if_pos hf]
  simp [putB]

theorem stream_Nonce_spec (n : Int) (h0 : 0 ≤ n) (h1 : n < 18446744073709551616) : stream_Nonce n = some (nonceS n) := by
  unfold stream_Nonce
  have e1 : Dat.seg (n :: ([] : List Int)) 0 1 = [n] := rfl
  have e2 : Dat.seg (8 :: ([] : List Int)) 0 1 = [8] := rfl
  rw [if_pos (show Dat.Le (Dat.addN 0 1) (Dat.len (n :: ([] : List Int))) from Nat.le_refl _), if_pos (show Dat.Le (Dat.addN 0 1) (Dat.len ((8 : Int) :: ([] : List Int))) from Nat.le_refl _), e1, e2,
    num_Put_spec [n] [8] (by simp) (by simp) (fun m hm => by simp at hm; omega), Dat.bind_some, put_one h0 h1]
  simp only
  have hput : Dat.put (Dat.rep 12 0) (Dat.toN 4) (Dat.take (Dat.minN (Dat.len (digs n 8)) (Dat.subN 12 (Dat.toN 4))) (digs n 8)) = nonceS n := by
    show splice (List.replicate 12 0) 4 ((digs n 8).take (min (digs n 8).length 8)) = _
    rw [List.take_of_length_le (by rw [digs_len]; omega)]
    unfold splice nonceS
    rw [digs_len]
    have e : (List.replicate 12 (0 : Int)).drop (4 + 8) = [] := rfl
    rw [e, List.append_nil]; rfl
  have c2 : Dat.Bd 4 12 := ⟨by omega, by omega⟩
  have c3 : Dat.Lt (Dat.toN 4) 12 := by decide
  have c4 : Dat.Le (Dat.addN (Dat.toN 4) (Dat.subN 12 (Dat.toN 4))) (Dat.len (Dat.rep 12 (0 : Nat))) := by decide
  have c1 : Dat.Le 12 (Dat.len (Dat.rep 12 (0 : Nat))) := by decide
  have c5 : Dat.EqN (Dat.len (nonceS n)) 12 := nonceS_len n
  rw [if_pos c1, if_pos c2, if_pos c3, if_pos c4, hput, if_pos c5, if_pos (repN_EqN 12), norm_id (nonceS_len n), if_pos c5]

theorem ref04_Nonce_spec (n : Int) (h0 : 0 ≤ n) (h1 : n < 18446744073709551616) : ref04_Nonce n = some (nonceS n) := by
  unfold ref04_Nonce
  rw [ref01_Digits_spec n 8 h0 h1 (by omega) (by omega), Dat.bind_some]
  show Dat.loop _ (0, List.replicate 12 (0 : Int)) = _
  have e8 : (8 : Int).toNat = 8 := rfl
  rw [e8]
  simp only
  refine loop_inv (fun (s : Int × List Int) => ∃ i : Nat, s.1 = (i : Int) ∧ i ≤ 8 ∧ s.2 = (List.replicate 12 (0 : Int)).take 4 ++ ((digs n 8).take i ++ (List.replicate 12 (0 : Int)).drop (4 + i))) (fun s => 8 - s.1.toNat) ?_ ⟨0, rfl, by omega, by simp⟩ (by show 8 - (0 : Int).toNat < _; decide)
  rintro ⟨si, sl⟩ k ⟨i, rfl, hle, hl⟩ hk
  simp only at hl
  subst hl
  by_cases hi : i < 8
  · have e1 : Dat.ilt (i : Int) 8 = true := ilt_t (n := 8) hi
    have w1 : Dat.wrap .i64 (Dat.add 4 (i : Int)) = ((4 + i : Nat) : Int) := add_i64 (a := 4) (by omega)
    have c1 : Dat.Ix (i : Int) (Dat.len (digs n 8)) := (Dat.Ix_nat _ _).2 (by rw [Dat.len_eq, digs_len]; omega)
    have c2 : Dat.In ((4 + i : Nat) : Int) 12 := In_nat (n := 12) (by omega)
    have hlen : ((List.replicate 12 (0 : Int)).take 4 ++ ((digs n 8).take i ++ (List.replicate 12 (0 : Int)).drop (4 + i))).length = 12 := by
      simp only [List.length_append, List.length_take, List.length_drop, List.length_replicate, digs_len]; omega
    have c3 : Dat.Lt (Dat.toN ((4 + i : Nat) : Int)) (Dat.len ((List.replicate 12 (0 : Int)).take 4 ++ ((digs n 8).take i ++ (List.replicate 12 (0 : Int)).drop (4 + i)))) := by
      show ((4 + i : Nat) : Int).toNat < List.length _; rw [hlen]; omega
    have es : Dat.set ((List.replicate 12 (0 : Int)).take 4 ++ ((digs n 8).take i ++ (List.replicate 12 (0 : Int)).drop (4 + i))) (4 + i) ((digs n 8)[i]'(by rw [digs_len]; omega)) = (List.replicate 12 (0 : Int)).take 4 ++ ((digs n 8).take (i + 1) ++ (List.replicate 12 (0 : Int)).drop (4 + (i + 1))) :=
      set_in (by rw [digs_len]; omega) (by rw [digs_len]; simp)
    rw [e1, cond_true, w1, Dat.bnd_eq, if_pos c1, Dat.toN_nat, Dat.get_lt _ 0 (by rw [digs_len]; omega), Dat.bnd_eq, if_pos c2, if_pos c3, Dat.toN_nat, es, Dat.bnd_eq, Dat.succ_i64 (by omega), Dat.bnd_eq]
    exact hk _ ⟨i + 1, rfl, by omega, rfl⟩ (by show 8 - ((i + 1 : Nat) : Int).toNat < 8 - (i : Int).toNat; omega)
  · have e1 : Dat.ilt (i : Int) 8 = false := ilt_f (n := 8) hi
    have ei : i = 8 := by omega
    subst ei
    have ef : (List.replicate 12 (0 : Int)).take 4 ++ ((digs n 8).take 8 ++ (List.replicate 12 (0 : Int)).drop (4 + 8)) = nonceS n := by
      rw [List.take_of_length_le (l := digs n 8) (by rw [digs_len]; omega)]
      have e : (List.replicate 12 (0 : Int)).drop (4 + 8) = [] := rfl
      rw [e, List.append_nil]; rfl
    have c5 : Dat.EqN (Dat.len (nonceS n)) 12 := nonceS_len n
    rw [e1, cond_false, ef, if_pos c5, if_pos (repN_EqN 12), norm_id (nonceS_len n), if_pos c5]

/-! ### blocks one behind the other -/
noncomputable def blkN (k : List Int) (n : Int) (i : Nat) : List Int := blockS k (i : Int) (nonceS n)
noncomputable def flow (k : List Int) (n : Int) : Nat → List Int
  | 0 => []
  | i + 1 => flow k n i ++ blkN k n i
theorem blkN_len (k : List Int) (n : Int) (i : Nat) : (blkN k n i).length = 64 := by simp [blkN, blockS, blkS]
theorem flow_len (k : List Int) (n : Int) : ∀ i, (flow k n i).length = 64 * i
  | 0 => rfl
  | i + 1 => by simp only [flow, List.length_append, flow_len k n i, blkN_len]; omega
theorem flow_pre (k : List Int) (n : Int) {i j : Nat} (h : i ≤ j) : (flow k n j).take (64 * i) = flow k n i := by
  induction j with
  | zero => have : i = 0 := by omega
            subst this; rfl
  | succ j ih =>
    by_cases he : i = j + 1
    · subst he; rw [List.take_of_length_le]; rw [flow_len]; exact Nat.le_refl _
    · simp only [flow]
      rw [List.take_append_of_le_length (by rw [flow_len]; omega), ih (by omega)]
theorem flow_cut (k : List Int) (n : Int) {i j m : Nat} (h : i + 1 ≤ j) (h1 : 64 * i ≤ m) (h2 : m ≤ 64 * (i + 1)) : flow k n i ++ (blkN k n i).take (m - 64 * i) = (flow k n j).take m := by
  have e : (flow k n j).take m = (flow k n (i + 1)).take m := by
    rw [← flow_pre k n h, List.take_take, Nat.min_eq_left h2]
  rw [e]
  simp only [flow]
  rw [List.take_append, flow_len, List.take_of_length_le (l := flow k n i) (by rw [flow_len]; omega)]
noncomputable def ofS (k : List Int) (n m : Int) : List Int × Int := if m < 0 ∨ m > 2048 then ([], 4) else ((flow k n 40).take m.toNat, 0)
theorem norm_norm (n : Nat) (k : List Int) : Dat.norm n (Dat.norm n k 0) 0 = Dat.norm n k 0 := norm_id (norm_len n k)
theorem ofS_len {k : List Int} {n m : Int} (h0 : 0 ≤ m) (h1 : m ≤ 2048) : ((ofS k n m).1.length : Int) = m := by
  unfold ofS
  rw [if_neg (by omega)]
  simp only [List.length_take, flow_len]; omega

theorem stream_Of_spec (k : List Int) (n m : Int) (h0 : 0 ≤ n) (h1 : n < 18446744073709551616) : stream_Of (k, n, m) = some (ofS (Dat.norm 32 k 0) n m) := by
  unfold stream_Of ofS
  simp only
  by_cases ha : m < 0
  · have : Dat.ilt m 0 = true := by simp [Dat.ilt, ha]
    rw [this, cond_true, if_pos (.inl ha)]
  · have ea : Dat.ilt m 0 = false := by simp [Dat.ilt, ha]
    rw [ea, cond_false]
    by_cases hb : m > 2048
    · have : Dat.pickB false true (Dat.igt m 2048) = true := by simp [Dat.igt, hb]
      rw [this, cond_true, if_pos (.inr hb)]
    · have eb : Dat.pickB false true (Dat.igt m 2048) = false := by simp [Dat.igt]; omega
      obtain ⟨M, rfl⟩ := Int.eq_ofNat_of_zero_le (show 0 ≤ m by omega)
      rw [eb, cond_false, if_neg (show ¬ ((M : Int) < 0 ∨ (M : Int) > 2048) by omega), if_pos (show Dat.MkOk 0 (M : Int) 1 from Dat.MkOk_iff.2 ⟨by omega, by omega, by omega, by omega⟩), if_pos (norm_EqN 32 k), stream_Nonce_spec n h0 h1, Dat.bind_some, if_pos (repN_EqN 12), if_pos (show Dat.EqN (Dat.toN 0) 0 from rfl), if_pos (show Dat.EqN 0 (Dat.len ([] : List Int)) from rfl)]
      rw [norm_norm, norm_id (nonceS_len n)]
      have c12 : Dat.EqN (Dat.len (nonceS n)) 12 := nonceS_len n
      have ck : Dat.EqN (Dat.len (Dat.norm 32 k 0)) 32 := norm_len 32 k
      generalize Dat.norm 32 k 0 = kk at *
      have hM : M ≤ 2048 := by omega
      refine loop_inv (fun (s : Int × List Int) => ∃ i : Nat, s.1 = (i : Int) ∧ 64 * i ≤ M ∧ s.2 = flow kk n i) (fun s => 100 - s.1.toNat) ?_ ⟨0, rfl, by omega, rfl⟩ (by show 100 - (0 : Int).toNat < _; decide)
      rintro ⟨si, sl⟩ kt ⟨i, rfl, hle, hl⟩ hk
      simp only at hl
      subst hl
      have eB : blockS kk (i : Int) (nonceS n) = blkN kk n i := rfl
      have eN : Dat.norm 64 (blkN kk n i) 0 = blkN kk n i := norm_id (blkN_len kk n i)
      have w1 : Dat.wrap .i64 (Dat.sub (M : Int) (Dat.ofN (Dat.len (flow kk n i)))) = ((M - 64 * i : Nat) : Int) := by
        have : Dat.sub (M : Int) (Dat.ofN (Dat.len (flow kk n i))) = ((M - 64 * i : Nat) : Int) := by
          show (M : Int) - ((flow kk n i).length : Int) = _
          rw [flow_len]; omega
        rw [this, Dat.wrap_i64] <;> omega
      have c64 : Dat.Le 64 (Dat.len (blkN kk n i)) := by show 64 ≤ (blkN kk n i).length; rw [blkN_len]; omega
      simp only
      rw [if_pos ck, if_pos c12, chacha_Block_spec, Dat.bind_some, if_pos (repN_EqN 64), w1, Dat.bnd_eq]
      rw [show blockS kk (i : Int) (nonceS n) = blkN kk n i from rfl, eN]
      by_cases hc : M - 64 * i ≤ 64
      · have e1 : Dat.ile ((M - 64 * i : Nat) : Int) 64 = true := by simp only [Dat.ile, decide_eq_true_eq]; omega
        have c1 : Dat.Bd ((M - 64 * i : Nat) : Int) 64 := ⟨by omega, by omega⟩
        have c2 : Dat.Le (Dat.addN 0 (Dat.subN (Dat.toN ((M - 64 * i : Nat) : Int)) 0)) (Dat.len (blkN kk n i)) := by
          show 0 + (((M - 64 * i : Nat) : Int).toNat - 0) ≤ (blkN kk n i).length; rw [blkN_len]; omega
        have es : Dat.seg (blkN kk n i) 0 (Dat.subN (Dat.toN ((M - 64 * i : Nat) : Int)) 0) = (blkN kk n i).take (M - 64 * i) := by
          rw [Dat.toN_nat]; rfl
        have hl2 : ((blkN kk n i).take (M - 64 * i)).length ≤ 64 := by rw [List.length_take, blkN_len]; omega
        have hbig : ¬ Dat.Big (Dat.len (flow kk n i)) (Dat.len ((blkN kk n i).take (M - 64 * i))) 1 := by
          show ¬ (2 ^ 44 < ((flow kk n i).length + ((blkN kk n i).take (M - 64 * i)).length) * (1 + 1)); rw [flow_len]; omega
        rw [e1, cond_true, if_pos c64, if_pos c1, if_pos (show Dat.Lt 0 64 by decide), if_pos c2, es, if_neg hbig, if_pos True.intro, Dat.bnd_eq, Dat.app_eq]
        rw [flow_cut kk n (j := 40) (by omega) hle (by omega), Int.toNat_natCast]
      · have e1 : Dat.ile ((M - 64 * i : Nat) : Int) 64 = false := by simp only [Dat.ile, decide_eq_false_iff_not]; omega
        have c2 : Dat.Le (Dat.addN 0 (Dat.subN 64 0)) (Dat.len (blkN kk n i)) := by show 64 ≤ (blkN kk n i).length; rw [blkN_len]; omega
        have es : Dat.seg (blkN kk n i) 0 (Dat.subN 64 0) = blkN kk n i := seg_all _ (by rw [blkN_len]; exact Nat.le_refl _)
        have hbig : ¬ Dat.Big (Dat.len (flow kk n i)) (Dat.len (blkN kk n i)) 1 := by
          show ¬ (2 ^ 44 < ((flow kk n i).length + (blkN kk n i).length) * (1 + 1)); rw [flow_len, blkN_len]; omega
        have w2 : Dat.wrap .u32 (Dat.add (i : Int) 1) = ((i + 1 : Nat) : Int) := by rw [Dat.wrap_u32, Dat.add_eq]; omega
        rw [e1, cond_false, if_pos c64, if_pos (show Dat.Lt 0 64 by decide), if_pos c2, es, if_neg hbig, if_pos True.intro, Dat.bnd_eq, w2, Dat.bnd_eq, Dat.app_eq, if_pos True.intro]
        exact hk _ ⟨i + 1, rfl, by omega, rfl⟩ (by show 100 - ((i + 1 : Nat) : Int).toNat < 100 - (i : Int).toNat; omega)

theorem ref04_First_spec (k : List Int) (n : Int) (M : Nat) (h0 : 0 ≤ n) (h1 : n < 18446744073709551616) (hM : M ≤ 2048) : ref04_First (k, n, (M : Int)) = some ((flow (Dat.norm 32 k 0) n 40).take M) := by
  unfold ref04_First
  rw [if_pos (show Dat.EqN 0 (Dat.len ([] : List Int)) from rfl), ref04_Nonce_spec n h0 h1]
  have ck : Dat.EqN (Dat.len (Dat.norm 32 k 0)) 32 := norm_len 32 k
  generalize Dat.norm 32 k 0 = kk at *
  refine loop_inv (fun (s : List Int × Int) => ∃ i : Nat, s.2 = (i : Int) ∧ i ≤ 40 ∧ (64 * i < M + 64) ∧ s.1 = flow kk n i) (fun s => 100 - s.2.toNat) ?_ ⟨0, rfl, by omega, by omega, rfl⟩ (by show 100 - (0 : Int).toNat < _; decide)
  rintro ⟨sl, si⟩ kt ⟨i, rfl, h40, hle, hl⟩ hk
  simp only at hl
  subst hl
  have eN : Dat.norm 64 (blkN kk n i) 0 = blkN kk n i := norm_id (blkN_len kk n i)
  have c64 : Dat.Le 64 (Dat.len (blkN kk n i)) := by show 64 ≤ (blkN kk n i).length; rw [blkN_len]; omega
  by_cases hc : 64 * i < M
  · have e1 : Dat.ilt (Dat.ofN (Dat.len (flow kk n i))) (M : Int) = true := by simp only [Dat.ilt, decide_eq_true_eq, Dat.ofN_eq, Dat.len_eq, flow_len]; omega
    have c2 : Dat.Le (Dat.addN 0 (Dat.subN 64 0)) (Dat.len (blkN kk n i)) := by show 64 ≤ (blkN kk n i).length; rw [blkN_len]; omega
    have es : Dat.seg (blkN kk n i) 0 (Dat.subN 64 0) = blkN kk n i := seg_all _ (by rw [blkN_len]; exact Nat.le_refl _)
    have hbig : ¬ Dat.Big (Dat.len (flow kk n i)) (Dat.len (blkN kk n i)) 1 := by
      show ¬ (2 ^ 44 < ((flow kk n i).length + (blkN kk n i).length) * (1 + 1)); rw [flow_len, blkN_len]; omega
    have w2 : Dat.wrap .u32 (Dat.add (i : Int) 1) = ((i + 1 : Nat) : Int) := by rw [Dat.wrap_u32, Dat.add_eq]; omega
    simp only
    rw [e1, cond_true, if_pos ck, Dat.bind_some, ref03_Block_spec, Dat.bind_some, if_pos (repN_EqN 64)]
    rw [show blockS kk (i : Int) (nonceS n) = blkN kk n i from rfl, eN]
    rw [if_pos c64, if_pos (show Dat.Lt 0 64 by decide), if_pos c2, es, if_neg hbig, if_pos True.intro, Dat.bnd_eq, w2, Dat.bnd_eq, Dat.app_eq, if_pos True.intro]
    exact hk _ ⟨i + 1, rfl, by omega, by omega, rfl⟩ (by show 100 - ((i + 1 : Nat) : Int).toNat < 100 - (i : Int).toNat; omega)
  · have e1 : Dat.ilt (Dat.ofN (Dat.len (flow kk n i))) (M : Int) = false := by simp only [Dat.ilt, decide_eq_false_iff_not, Dat.ofN_eq, Dat.len_eq, flow_len]; omega
    have c1 : Dat.Bd (M : Int) (Dat.len (flow kk n i)) := ⟨by omega, by show (M : Int) ≤ (flow kk n i).length; rw [flow_len]; omega⟩
    have es : Dat.slice (flow kk n i) 0 (Dat.toN (M : Int)) = (flow kk n 40).take M := by
      rw [Dat.toN_nat]
      show ((flow kk n i).take M).drop 0 = _
      rw [List.drop_zero, ← flow_pre kk n h40, List.take_take, Nat.min_eq_left (by omega)]
    simp only
    rw [e1, cond_false, if_pos c1, es, Dat.bnd_eq]
    split <;> (try split) <;> rfl

theorem ref04_Of_spec (k : List Int) (n m : Int) (h0 : 0 ≤ n) (h1 : n < 18446744073709551616) : ref04_Of (k, n, m) = some (ofS (Dat.norm 32 k 0) n m) := by
  unfold ref04_Of ofS
  simp only
  by_cases ha : m < 0
  · have : Dat.ilt m 0 = true := by simp [Dat.ilt, ha]
    rw [this, cond_true, if_pos (.inl ha)]
  · have ea : Dat.ilt m 0 = false := by simp [Dat.ilt, ha]
    rw [ea, cond_false]
    by_cases hb : m > 2048
    · have : Dat.pickB false true (Dat.igt m 2048) = true := by simp [Dat.igt, hb]
      rw [this, cond_true, if_pos (.inr hb)]
    · have eb : Dat.pickB false true (Dat.igt m 2048) = false := by simp [Dat.igt]; omega
      obtain ⟨M, rfl⟩ := Int.eq_ofNat_of_zero_le (show 0 ≤ m by omega)
      rw [eb, cond_false, if_neg (show ¬ ((M : Int) < 0 ∨ (M : Int) > 2048) by omega), if_pos (norm_EqN 32 k), ref04_First_spec _ _ _ h0 h1 (by omega), Dat.bind_some, norm_norm, Int.toNat_natCast]
end Go.Proofs.Ytohjdjdckklojaa
