/- SHA-256: digests. -/
import Derived.Test.YtecoonecmmbggaaDoorShaC
namespace Go.Proofs.YtecoonecmmbggaaDoor
open Go.Eng
set_option linter.unusedVariables false
set_option linter.unusedSimpArgs false

/-! ### A row that is filled from the left -/
def fl (v : Nat → Int) (n k : Nat) : List Int := (List.range n).map fun i => if i < k then v i else 0
theorem fl_len (v : Nat → Int) (n k : Nat) : (fl v n k).length = n := by simp [fl]
theorem fl_zero (v : Nat → Int) (n : Nat) : fl v n 0 = List.replicate n 0 := by
  apply List.ext_getElem?
  intro i
  simp only [fl, List.getElem?_map]
  by_cases h : i < n
  · rw [List.getElem?_range h]; simp [h]
  · rw [List.getElem?_eq_none (by simpa using h), List.getElem?_eq_none (by simpa using h)]; rfl
theorem fl_set (v : Nat → Int) (n k : Nat) (h : k < n) : (fl v n k).set k (v k) = fl v n (k + 1) := by
  apply List.ext_getElem?
  intro i
  rw [List.getElem?_set]
  simp only [fl, List.getElem?_map, List.length_map, List.length_range]
  by_cases hi : i < n
  · rw [List.getElem?_range hi]
    by_cases hk : k = i
    · subst hk; simp [h]
    · rw [if_neg hk]
      have : (i < k + 1) = (i < k) := by simp; omega
      simp [this]
  · have hn : (List.range n)[i]? = none := List.getElem?_eq_none (by simpa using hi)
    rw [hn]
    by_cases hk : k = i
    · omega
    · rw [if_neg hk]; rfl
theorem fl_full (v : Nat → Int) (n : Nat) : fl v n n = (List.range n).map v := by
  simp only [fl]
  apply List.map_congr_left
  intro i hi
  simp at hi; simp [hi]

def byteAt (X : List W32) (i : Nat) : Int := Dat.wrap .u8 (Dat.shr .u32 (ofW (X.getD (i / 4) 0)) ((24 - 8 * (i % 4) : Nat) : Int))
/-- Words' bytes. -/
def toldW (X : List W32) : List Int := (List.range 32).map (byteAt X)
theorem toldW_len (X : List W32) : (toldW X).length = 32 := by simp [toldW]

theorem sha_told_spec (X : List W32) (hX : X.length = 8) : sha_told (X.map ofW) = some (toldW X) := by
  have hX' := map_len hX
  unfold sha_told
  rw [norm_same hX']
  refine ite_some hX' ?_
  have hm8 : ∀ s : Int × List Int, 8 - s.1.toNat < 18446744073709551616 := fun s => mu_lt 8 _ (by omega)
  have hm4 : ∀ s : Int × List Int, 4 - s.1.toNat < 18446744073709551616 := fun s => mu_lt 4 _ (by omega)
  refine loop_inv (fun s => ∃ i : Nat, i ≤ 8 ∧ s = ((i : Int), fl (byteAt X) 32 (4 * i))) (fun s => 8 - s.1.toNat) ?_ ⟨0, by omega, by rw [Nat.mul_zero, fl_zero]; rfl⟩ (hm8 _)
  rintro s k ⟨i, hi, rfl⟩ hk
  dsimp only
  by_cases h : i < 8
  · refine cond_t (decide_eq_true (by omega)) ?_
    refine ite_some ⟨by omega, by omega⟩ ?_
    refine bnd_to (get_map _ _) ?_
    refine loop_inv (fun s => ∃ j : Nat, j ≤ 4 ∧ s = ((j : Int), fl (byteAt X) 32 (4 * i + j))) (fun s => 4 - s.1.toNat) ?_ ⟨0, by omega, rfl⟩ (hm4 _)
    rintro s k2 ⟨j, hj, rfl⟩ hk2
    dsimp only
    by_cases h4 : j < 4
    · refine cond_t (decide_eq_true (by omega)) ?_
      refine bnd_to (wrapI (by simp only [Dat.mul]; omega)) ?_
      refine bnd_to (y := ((4 * i + j : Nat) : Int)) (by rw [wrapI] <;> simp only [Dat.add, Dat.mul] <;> omega) ?_
      refine bnd_to (wrapI (by simp only [Dat.mul]; omega)) ?_
      refine bnd_to (y := ((24 - 8 * j : Nat) : Int)) (by rw [wrapI] <;> simp only [Dat.sub, Dat.mul] <;> omega) ?_
      refine ite_none (by simp only [Dat.Neg]; omega) ?_
      refine bnd_to rfl ?_
      refine bnd_to (y := byteAt X (4 * i + j)) (by
        rw [byteAt, show (4 * i + j) / 4 = i by omega, show (4 * i + j) % 4 = j by omega]; simp only [Dat.toN, Int.toNat_natCast]) ?_
      refine ite_some ⟨by omega, by omega⟩ ?_
      refine ite_some (by simp only [Dat.Lt, Dat.toN, Dat.len, Int.toNat_natCast, fl_len]; omega) ?_
      refine bnd_to (y := fl (byteAt X) 32 (4 * i + j + 1)) (by simp only [Dat.set, Dat.toN, Int.toNat_natCast]; exact fl_set _ _ _ (by omega)) ?_
      refine bnd_to (wrapI (by simp only [Dat.add]; omega)) ?_
      refine hk2 _ ⟨j + 1, by omega, rfl⟩ ?_
      show 4 - ((j : Int) + 1).toNat < 4 - ((j : Int)).toNat; omega
    · obtain rfl : j = 4 := by omega
      refine cond_f rfl ?_
      refine bnd_to (wrapI (by simp only [Dat.add]; omega)) ?_
      refine hk _ ⟨i + 1, by omega, rfl⟩ ?_
      show 8 - ((i : Int) + 1).toNat < 8 - ((i : Int)).toNat; omega
  · obtain rfl : i = 8 := by omega
    refine cond_f rfl ?_
    refine ite_some (fl_len _ _ _) ?_
    refine ite_some (by decide) ?_
    rw [norm_same (fl_len _ _ _)]
    refine ite_some (fl_len _ _ _) ?_
    rw [fl_full]; rfl

/-! ### How many bits came -/
def lenB (m : Int) (i : Nat) : Int := Dat.wrap .u8 (Dat.shr .u64 (Dat.wrap .u64 (8 * m)) ((8 * i : Nat) : Int))
def len8 (m : Int) : List Int := [lenB m 7, lenB m 6, lenB m 5, lenB m 4, lenB m 3, lenB m 2, lenB m 1, lenB m 0]
def bk (base : List Int) (m : Int) : Nat → List Int
  | 0 => base
  | i + 1 => (bk base m i).set (63 - i) (lenB m i)
theorem bk_len (base : List Int) (m : Int) : ∀ i, (bk base m i).length = base.length
  | 0 => rfl
  | i + 1 => by simp [bk, bk_len base m i]
theorem bk_8 (base : List Int) (m : Int) (h : base.length = 64) : bk base m 8 = base.take 56 ++ len8 m := by
  have e : base = base.take 56 ++ base.drop 56 := (List.take_append_drop 56 base).symm
  have h2 : (base.drop 56).length = 8 := by simp [h]
  have h1 : (base.take 56).length = 56 := by simp [h]
  generalize base.take 56 = A at *
  generalize base.drop 56 = B at *
  subst e
  match B, h2 with
  | [a, b, c, d, x, f, g, i], _ =>
    have st : ∀ (B : List Int) (n : Nat) (v : Int), 56 ≤ n → (A ++ B).set n v = A ++ B.set (n - 56) v := fun B n v hn => by rw [List.set_append_right _ _ (by omega), h1]
    simp only [bk]
    rw [st _ _ _ (by decide), st _ _ _ (by decide), st _ _ _ (by decide), st _ _ _ (by decide), st _ _ _ (by decide), st _ _ _ (by decide), st _ _ _ (by decide), st _ _ _ (by decide)]
    rfl

/-- The words at the end. -/
def fin (W : List W32) (r : List Int) (m : Int) : List W32 :=
  if r.length < 56 then trn W (r ++ 128 :: List.replicate (55 - r.length) 0 ++ len8 m)
  else trn (trn W (r ++ 128 :: List.replicate (63 - r.length) 0)) (List.replicate 56 0 ++ len8 m)
theorem fin_len (W : List W32) (r : List Int) (m : Int) (hW : W.length = 8) : (fin W r m).length = 8 := by
  unfold fin
  split
  · exact trn_len _ _ hW
  · exact trn_len _ _ (trn_len _ _ hW)
def z32 : List Int := List.replicate 32 0
def endS (W : List W32) (r : List Int) (m : Int) : List Int × Int := if chk r m = 0 then (toldW (fin W r m), 0) else (z32, 8)

theorem sha_End_spec (W : List W32) (r : List Int) (m : Int) (hW : W.length = 8) (hr : r.length ≤ 100000) (hm : 0 ≤ m ∧ m < 18446744073709551616) :
    sha_End (W.map ofW, (r, (m, ()))) = some (endS W r m) := by
  unfold sha_End
  dsimp only
  rw [eight (map_len hW)]
  refine bind_to (sha_Check_spec _ r m hm.1 (by omega)) ?_
  unfold endS
  rcases chk_cases r m with h | h
  · rw [h, if_pos rfl]
    obtain ⟨h1, h1r⟩ := chk_ok h
    have hr64 : r.length < 64 := by omega
    refine cond_f rfl ?_
    have hmin : Dat.minN (Dat.len r) (Dat.subN 64 0) = r.length := by simp only [Dat.minN, Dat.len, Dat.subN]; omega
    rw [hmin]
    have hput : Dat.put (Dat.rep 64 0) 0 (Dat.take r.length r) = r ++ List.replicate (64 - r.length) 0 := by
      simp only [Dat.put, Dat.take, Dat.rep, splice, List.take_length, List.take_zero, List.nil_append, Nat.zero_add, List.drop_replicate]
    rw [hput]
    have hset : Dat.set (r ++ List.replicate (64 - r.length) (0 : Int)) (Dat.toN (Dat.ofN r.length)) 128 = r ++ 128 :: List.replicate (63 - r.length) 0 := by
      simp only [Dat.set, Dat.toN, Dat.ofN, Int.toNat_natCast]
      rw [List.set_append_right _ _ (Nat.le_refl _), Nat.sub_self, show 64 - r.length = (63 - r.length) + 1 by omega, List.replicate_succ, List.set_cons_zero]
    refine ite_some (by simp [hW]) ?_
    refine ite_some (by decide) ?_
    refine ite_some (by decide) ?_
    refine ite_some (by decide) ?_
    refine ite_some ⟨by simp only [Dat.ofN]; omega, by simp only [Dat.ofN]; omega⟩ ?_
    refine ite_some (by simp [Dat.Lt, Dat.toN, Dat.ofN, Dat.len]; omega) ?_
    refine bnd_to hset ?_
    have hb64 : (r ++ 128 :: List.replicate (63 - r.length) (0 : Int)).length = 64 := by simp; omega
    have hm8 : ∀ s : Int × List Int, 8 - s.1.toNat < 18446744073709551616 := fun s => mu_lt 8 _ (by omega)
    by_cases h56 : r.length < 56
    · refine cond_f (decide_eq_false (by simp only [Dat.ofN]; omega)) ?_
      generalize hbase : r ++ 128 :: List.replicate (63 - r.length) (0 : Int) = base at hb64
      refine loop_inv (fun s => ∃ i : Nat, i ≤ 8 ∧ s = ((i : Int), bk base m i)) (fun s => 8 - s.1.toNat) ?_ ⟨0, by omega, rfl⟩ (hm8 _)
      rintro s k ⟨i, hi, rfl⟩ hk
      dsimp only
      by_cases hi8 : i < 8
      · refine cond_t (decide_eq_true (by omega)) ?_
        refine bnd_to (y := ((63 - i : Nat) : Int)) (by rw [wrapI] <;> simp only [Dat.sub] <;> omega) ?_
        refine bnd_to rfl ?_
        refine bnd_to (y := ((8 * i : Nat) : Int)) (by rw [wrapI] <;> simp only [Dat.mul] <;> omega) ?_
        refine ite_none (by simp only [Dat.Neg]; omega) ?_
        refine bnd_to rfl ?_
        refine bnd_to (y := lenB m i) rfl ?_
        refine ite_some ⟨by omega, by omega⟩ ?_
        refine ite_some (by simp only [Dat.Lt, Dat.toN, Dat.len, Int.toNat_natCast, bk_len, hb64]; omega) ?_
        refine bnd_to (y := bk base m (i + 1)) (by simp only [Dat.set, Dat.toN, Int.toNat_natCast, bk]) ?_
        refine bnd_to (wrapI (by simp only [Dat.add]; omega)) ?_
        refine hk _ ⟨i + 1, by omega, rfl⟩ ?_
        show 8 - ((i : Int) + 1).toNat < 8 - ((i : Int)).toNat; omega
      · obtain rfl : i = 8 := by omega
        refine cond_f rfl ?_
        refine ite_some (by simp [hW]) ?_
        refine ite_some (by simp [bk_len, hb64]) ?_
        refine bind_to (sha_turn_spec W _ hW (by simp [bk_len, hb64])) ?_
        refine bind_to (sha_told_spec _ (trn_len _ _ hW)) ?_
        refine ite_some (by decide) ?_
        rw [norm_same (toldW_len _)]
        refine ite_some (toldW_len _) ?_
        rw [bk_8 base m hb64, fin, if_pos h56, ← hbase]
        rw [show (r ++ 128 :: List.replicate (63 - r.length) (0 : Int)).take 56 = r ++ 128 :: List.replicate (55 - r.length) 0 from by
          rw [List.take_append, List.take_of_length_le (by omega), show 56 - r.length = (55 - r.length) + 1 by omega, List.take_succ_cons, List.take_replicate]
          congr 3; omega]
    · refine cond_t (decide_eq_true (by simp only [Dat.ofN]; omega)) ?_
      generalize hbase : r ++ 128 :: List.replicate (63 - r.length) (0 : Int) = base at hb64
      refine ite_some (by simp [hW]) ?_
      refine ite_some hb64 ?_
      refine bind_to (sha_turn_spec W base hW hb64) ?_
      refine ite_some (by simp [hW]) ?_
      refine ite_some (by simp [hb64]) ?_
      have hV := trn_len W base hW
      refine loop_inv (fun s => ∃ i : Nat, i ≤ 8 ∧ s = ((i : Int), bk (List.replicate 64 0) m i)) (fun s => 8 - s.1.toNat) ?_ ⟨0, by omega, rfl⟩ (hm8 _)
      rintro s k ⟨i, hi, rfl⟩ hk
      dsimp only
      have hz64 : (List.replicate 64 (0 : Int)).length = 64 := List.length_replicate
      by_cases hi8 : i < 8
      · refine cond_t (decide_eq_true (by omega)) ?_
        refine bnd_to (y := ((63 - i : Nat) : Int)) (by rw [wrapI] <;> simp only [Dat.sub] <;> omega) ?_
        refine bnd_to rfl ?_
        refine bnd_to (y := ((8 * i : Nat) : Int)) (by rw [wrapI] <;> simp only [Dat.mul] <;> omega) ?_
        refine ite_none (by simp only [Dat.Neg]; omega) ?_
        refine bnd_to rfl ?_
        refine bnd_to (y := lenB m i) rfl ?_
        refine ite_some ⟨by omega, by omega⟩ ?_
        refine ite_some (by simp only [Dat.Lt, Dat.toN, Dat.len, Int.toNat_natCast, bk_len, hz64]; omega) ?_
        refine bnd_to (y := bk (List.replicate 64 0) m (i + 1)) (by simp only [Dat.set, Dat.toN, Int.toNat_natCast, bk]) ?_
        refine bnd_to (wrapI (by simp only [Dat.add]; omega)) ?_
        refine hk _ ⟨i + 1, by omega, rfl⟩ ?_
        show 8 - ((i : Int) + 1).toNat < 8 - ((i : Int)).toNat; omega
      · obtain rfl : i = 8 := by omega
        refine cond_f rfl ?_
        rw [norm_same (map_len hV)]
        refine ite_some (map_len hV) ?_
        refine ite_some (by simp [bk_len, hz64]) ?_
        refine bind_to (sha_turn_spec _ _ hV (by simp [bk_len, hz64])) ?_
        refine bind_to (sha_told_spec _ (trn_len _ _ hV)) ?_
        refine ite_some (by decide) ?_
        rw [norm_same (toldW_len _)]
        refine ite_some (toldW_len _) ?_
        rw [bk_8 _ m hz64, fin, if_neg h56, ← hbase, List.take_replicate]
        rfl
  · rw [h, if_neg (show ¬ (8 : Int) = 0 by decide)]
    refine cond_t rfl ?_
    refine ite_some (by decide) ?_
    refine ite_some (by decide) ?_
    rfl
end Go.Proofs.YtecoonecmmbggaaDoor
