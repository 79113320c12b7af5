/- A text's bucket, read. -/
import Derived.Test.YthhjkmefpmmleaaBucketread
namespace Go.Proofs.Ythhjkmefpmmleaa
open Go.Eng
set_option linter.unusedVariables false
set_option linter.unusedSimpArgs false

theorem upto_sizes {S : Int} (h1 : 1 ≤ S) (n : Nat) {i : Nat} (hi : i ≤ n) : upto (sizesB S n) i = i * (8 + S).toNat := by
  unfold upto sizesB
  rw [Int.toNat_natCast, List.take_append_of_le_length (by simp; omega), List.take_replicate, Nat.min_eq_left hi, List.sum_replicate_int]
  have : ((8 + S).toNat : Int) = 8 + S := by omega
  rw [← this]
  norm_cast
theorem sizes_len (S : Int) (n : Nat) : (sizesB S n).length = n + 2 := by simp [sizesB]
theorem sizes_sum (S : Int) (n : Nat) : (sizesB S n).sum = n * (8 + S) + 64 := by
  unfold sizesB
  rw [List.sum_append, Int.toNat_natCast, List.sum_replicate_int]; simp
theorem sizes_mem {S : Int} {n : Nat} {s : Int} (h : s ∈ sizesB S n) : s = 8 + S ∨ s = 32 := by
  unfold sizesB at h
  rcases List.mem_append.1 h with h | h
  · exact .inl (List.eq_of_mem_replicate h)
  · simp at h; exact .inr h
theorem sizes_ok {S : Int} (h1 : 1 ≤ S) (h2 : S ≤ 32) {n : Nat} (hn : n ≤ 4) : okS 0 65536 (sizesB S n) = true := by
  unfold okS
  simp only [Bool.and_eq_true, decide_eq_true_eq, List.all_eq_true]
  refine ⟨⟨by rw [sizes_len]; omega, fun x hx => ?_⟩, ?_⟩
  · rcases sizes_mem hx with rfl | rfl <;> omega
  · rw [sizes_sum]
    have : (n : Int) * (8 + S) ≤ 4 * (8 + S) := Int.mul_le_mul_of_nonneg_right (by omega) (by omega)
    omega
theorem sizes_get (S : Int) (n : Nat) : (sizesB S n)[n]? = some 32 ∧ (sizesB S n)[n + 1]? = some 32 := by
  unfold sizesB
  rw [Int.toNat_natCast]
  constructor
  · rw [List.getElem?_append_right (by simp)]; simp
  · rw [List.getElem?_append_right (by simp)]; simp

/-- Slots, read one after the other. -/
def rdL (B S H W : Int) : List (List Int) → Bool → List Blk → Option (List Blk)
  | [], _, acc => some acc
  | s :: ss, e, acc => if (readS B S H W s).2.2 = 0 then (if (readS B S H W s).2.1 = true then (if e = true then none else rdL B S H W ss e (acc ++ [(readS B S H W s).1])) else rdL B S H W ss true acc) else none
abbrev BktT : Type := List Blk × (List Int × (List Int × Unit))
def z32 : List Int := List.replicate 32 0
def noK : BktT := ([], z32, z32, ())
def slL (S : Int) (n : Nat) (t : List Int) : List (List Int) := (List.range n).map (part t (sizesB S n))
def readB (B S H W : Int) (t : List Int) : BktT × Int :=
  if (slotsS B S H W).2 = 0 then (if (t.length : Int) = W then
    (match rdL B S H W (slL S (slotsS B S H W).1.toNat t) false [] with
    | none => (noK, 8)
    | some l => if bchk B S H W l = 0 then ((l, arr32 (part t (sizesB S (slotsS B S H W).1) (slotsS B S H W).1.toNat), arr32 (part t (sizesB S (slotsS B S H W).1) ((slotsS B S H W).1.toNat + 1)), ()), 0) else (noK, 8)) else (noK, 10)) else (noK, 8)

theorem isB_part {t sizes : List Int} (h : isB t) (i : Nat) : isB (part t sizes i) := isB_drop (isB_take h _) _

theorem bucket_Read_spec (B S H W : Int) (t : List Int) (hB : isB t) : bucket_Read ((B, S, H, W, ()), t) = some (readB B S H W t) := by
  unfold bucket_Read
  dsimp only
  refine bind_to (bucket_cut_spec B S H W t) ?_
  unfold cutB readB
  rcases slots_two B S H W with h0 | h8
  · rw [if_pos h0, if_pos h0]
    obtain ⟨l1, l2, l3, l4, l5, l6⟩ := lvl_iff.1 (slots_lvl h0)
    obtain ⟨hW, hm1⟩ := W_eq h0
    have hm4 := (many_le B S H W).1
    obtain ⟨n, hn⟩ := Int.eq_ofNat_of_zero_le (show 0 ≤ (slotsS B S H W).1 by omega)
    rw [hn] at hW hm1 hm4 ⊢
    rw [Int.toNat_natCast]
    unfold cutS
    rw [if_pos (sizes_ok l3 l4 (by omega)), sizes_sum]
    by_cases hl : (t.length : Int) = W
    · rw [if_pos hl, if_pos (by omega)]
      have hlp : (parts t (sizesB S n)).length = n + 2 := by simp [parts, sizes_len]
      have hpg : ∀ i, i < n + 2 → Dat.get (parts t (sizesB S n)) (Dat.toN (i : Int)) [] = part t (sizesB S n) i := by
        intro i hi
        simp [Dat.get, Dat.toN, List.getD, parts, sizes_len, hi]
      have hsn : ∀ s ∈ sizesB S n, 0 ≤ s := fun s hs => by rcases sizes_mem hs with rfl | rfl <;> omega
      have hpl : ∀ i, i < n + 2 → i ≥ n → (part t (sizesB S n) i).length = 32 := by
        intro i hi hge
        have h1 := part_len (b := t) hsn (by rw [sizes_sum]; omega) (i := i) (by rw [sizes_len]; omega)
        have h2 : (sizesB S n)[i]'(by rw [sizes_len]; omega) = 32 := by
          have hs := sizes_get S n
          have hq : (sizesB S n)[i]? = some 32 := by
            by_cases e : i = n
            · rw [e]; exact hs.1
            · rw [show i = n + 1 by omega]; exact hs.2
          rw [List.getElem?_eq_getElem (by rw [sizes_len]; omega)] at hq
          exact Option.some.inj hq
        omega
      have htk : Dat.slice (parts t (sizesB S n)) 0 (Dat.toN (n : Int)) = slL S n t := by
        simp only [Dat.slice, Dat.toN, Int.toNat_natCast, List.drop_zero, parts, slL, sizes_len, ← List.map_take, List.take_range]
        rw [Nat.min_eq_left (by omega)]
      refine cond_f rfl ?_
      dsimp only
      refine bnd_to (y := (n : Int)) (by rw [wrapI] <;> simp only [Dat.sub, Dat.ofN, Dat.len] <;> omega) ?_
      refine ite_some ⟨by omega, by simp only [Dat.len]; omega⟩ ?_
      refine bnd_to (hpg n (by omega)) ?_
      refine ite_some (by simp only [Dat.Le, Dat.len]; rw [hpl n (by omega) (by omega)]; exact Nat.le_refl _) ?_
      refine bnd_to (y := ((n + 1 : Nat) : Int)) (wrapI (by simp only [Dat.add]; omega)) ?_
      refine ite_some ⟨by omega, by simp only [Dat.len]; omega⟩ ?_
      refine bnd_to (hpg (n + 1) (by omega)) ?_
      refine ite_some (by simp only [Dat.Le, Dat.len]; rw [hpl (n + 1) (by omega) (by omega)]; exact Nat.le_refl _) ?_
      refine ite_some ⟨by omega, by simp only [Dat.len]; omega⟩ ?_
      refine bnd_to htk ?_
      refine ite_some rfl ?_
      have hsB : ∀ s ∈ slL S n t, isB s := by
        intro s hs
        obtain ⟨i, _, rfl⟩ := List.mem_map.1 hs
        exact isB_part hB i
      have hsl : (slL S n t).length = n := by simp [slL]
      generalize slL S n t = SL at *
      generalize part t (sizesB S n) n = PA at *
      generalize part t (sizesB S n) (n + 1) = PB at *
      obtain ⟨R, hR⟩ : ∃ R, rdL B S H W SL false [] = R := ⟨_, rfl⟩
      rw [hR]
      refine loop_tail (fun i e acc => ∃ j : Nat, i = (j : Int) ∧ j ≤ n ∧ acc.length ≤ j ∧ rdL B S H W (SL.drop j) e acc = R) (fun i e acc => n - i.toNat) ?_ ⟨0, rfl, by omega, by simp, hR⟩ (mu_lt _ _ (by omega))
      rintro i e acc k ⟨j, rfl, hj, hal, hrd⟩ hk
      dsimp only
      by_cases hlt : j < n
      · have hjs : j < SL.length := by omega
        have hdr : SL.drop j = SL[j] :: SL.drop (j + 1) := List.drop_eq_getElem_cons hjs
        have hgt : Dat.get SL (Dat.toN (j : Int)) [] = SL[j] := by simp [Dat.get, Dat.toN, List.getD, hjs]
        have hsb := hsB _ (List.getElem_mem hjs)
        rw [hdr] at hrd
        generalize SL[j] = s at *
        unfold rdL at hrd
        refine cond_t (decide_eq_true (by simp only [Dat.ofN, Dat.len]; omega)) ?_
        refine ite_some ⟨by omega, by simp only [Dat.len]; omega⟩ ?_
        refine bnd_to hgt ?_
        refine bind_to (slot_Read_spec B S H W s hsb) ?_
        have happ : ∀ (b : Blk), Dat.app acc (Dat.seg [(b.1, b.2.1, b.2.2.1, ())] 0 1) = acc ++ [b] := fun b => rfl
        generalize readS B S H W s = rr at *
        obtain ⟨b, is, er⟩ := rr
        dsimp only at hrd ⊢
        by_cases he : er = 0
        · rw [if_pos he] at hrd
          refine cond_f (by rw [he]; rfl) ?_
          cases is with
          | true =>
            rw [if_pos rfl] at hrd
            refine cond_t rfl ?_
            cases e with
            | true =>
              rw [if_pos rfl] at hrd
              refine cond_t rfl ?_
              rw [← hrd]; rfl
            | false =>
              rw [if_neg (by decide)] at hrd
              refine cond_f rfl ?_
              refine cond_f rfl ?_
              refine ite_some (by simp [Dat.Le, Dat.addN, Dat.len]) ?_
              refine ite_none (by simp only [Dat.Big, Dat.len, Dat.seg, List.drop_zero, List.take_succ_cons, List.take_zero, List.length_cons, List.length_nil]; omega) ?_
              refine ite_some (by trivial) ?_
              refine bnd_to (happ b) ?_
              refine bnd_to (y := ((j + 1 : Nat) : Int)) (wrapI (by simp only [Dat.add]; omega)) ?_
              refine ite_some (by trivial) ?_
              exact hk _ _ _ ⟨j + 1, rfl, by omega, by simp; omega, hrd⟩ (by show n - ((j + 1 : Nat) : Int).toNat < n - ((j : Int)).toNat; omega)
          | false =>
            rw [if_neg (by decide)] at hrd
            refine cond_f rfl ?_
            refine cond_t rfl ?_
            refine bnd_to (y := ((j + 1 : Nat) : Int)) (wrapI (by simp only [Dat.add]; omega)) ?_
            refine ite_some (by trivial) ?_
            exact hk _ _ _ ⟨j + 1, rfl, by omega, by omega, hrd⟩ (by show n - ((j + 1 : Nat) : Int).toNat < n - ((j : Int)).toNat; omega)
        · rw [if_neg he] at hrd
          refine cond_t (by simp only [Dat.ine, bne_iff_ne]; exact he) ?_
          rw [← hrd]; rfl
      · obtain rfl : j = n := by omega
        rw [List.drop_of_length_le (by omega)] at hrd
        unfold rdL at hrd
        refine cond_f (decide_eq_false (by simp only [Dat.ofN, Dat.len]; omega)) ?_
        rw [← hrd]
        refine bind_to (bucket_Check_spec B S H W acc _ _) ?_
        dsimp only
        rcases bchk_two B S H W acc with k0 | k8
        · rw [k0, if_pos rfl]
          exact cond_f rfl rfl
        · rw [k8, if_neg (by decide)]
          exact cond_t rfl rfl
    · rw [if_neg hl, if_neg (by omega)]
      exact cond_t rfl rfl
  · have hne : ¬ (slotsS B S H W).2 = 0 := by rw [h8]; simp
    rw [if_neg hne, if_neg hne]
    exact cond_t rfl rfl
end Go.Proofs.Ythhjkmefpmmleaa
