/- SHA-256's words, rounds and turns. -/
import Derived.Test.YtecoonecmmbggaaDoorStep
import Derived.Test.YtecoonecmmbggaaDoorBits32
namespace Go.Proofs.YtecoonecmmbggaaDoor
open Go.Eng
set_option linter.unusedVariables false
set_option linter.unusedSimpArgs false

theorem wrap_any (x : Int) : Dat.wrap .u32 x = ofW (BitVec.ofInt 32 x) := by
  rw [Dat.wrap_u32]
  simp only [ofW, BitVec.toNat_ofInt]
  omega
theorem get_map (l : List W32) (i : Nat) : Dat.get (l.map ofW) i 0 = ofW (l.getD i 0) := by
  simp only [Dat.get, List.getD, List.getElem?_map]
  cases l[i]? <;> rfl
theorem set_map (l : List W32) (i : Nat) (x : W32) : Dat.set (l.map ofW) i (ofW x) = (l.set i x).map ofW := by
  simp only [Dat.set, List.map_set]

theorem shl_lit (x : W32) (n : Int) (h : 0 ≤ n ∧ n ≤ 32) : Dat.shl .u32 (ofW x) n = ofW (x <<< n.toNat) := by
  obtain ⟨m, rfl⟩ := Int.eq_ofNat_of_zero_le h.1
  exact shl_ofW x (by omega)
theorem shr_lit (x : W32) (n : Int) (h : 0 ≤ n ∧ n ≤ 32) : Dat.shr .u32 (ofW x) n = ofW (x >>> n.toNat) := by
  obtain ⟨m, rfl⟩ := Int.eq_ofNat_of_zero_le h.1
  exact shr_ofW x (by omega)

/-- A word, turned down. -/
def rotr (x : W32) (n : Nat) : W32 := (x >>> n) ||| (x <<< (32 - n))
def sg (a b c : Nat) (mv : Bool) (x : W32) : W32 := rotr x a ^^^ rotr x b ^^^ (bif mv then x >>> c else rotr x c)

theorem ref02_turned_spec (x : W32) (n : Nat) (h : n ≤ 32) : ref02_turned (ofW x, (n : Int)) = some (ofW (rotr x n)) := by
  unfold ref02_turned
  refine ite_none (by simp only [Dat.Neg]; omega) ?_
  refine bnd_to (shr_ofW x h) ?_
  refine bnd_to (y := ((32 - n : Nat) : Int)) (by rw [Dat.wrap_u32]; simp only [Dat.sub]; omega) ?_
  refine ite_none (by simp only [Dat.Neg]; omega) ?_
  refine bnd_to (shl_ofW x (by omega)) ?_
  refine bnd_to (or_ofW _ _) ?_
  rfl

theorem turned_lit (x : W32) (n : Int) (h : 0 ≤ n ∧ n ≤ 32) : ref02_turned (ofW x, n) = some (ofW (rotr x n.toNat)) := by
  obtain ⟨m, rfl⟩ := Int.eq_ofNat_of_zero_le h.1
  exact ref02_turned_spec x m (by omega)
theorem minus31 : ∀ j : Nat, j < 32 → 0 < j → Dat.band .u64 (Dat.wrap .u64 (-(j : Int))) 31 = ((32 - j : Nat) : Int) := by decide

theorem rotl_spec (x : W32) (j : Nat) (h : j < 32) (h0 : 0 < j) : math_bits_RotateLeft32 (ofW x, -(j : Int)) = some (ofW (rotr x j)) := by
  unfold math_bits_RotateLeft32
  refine bnd_to rfl ?_
  refine bnd_to (minus31 j h h0) ?_
  refine ite_none (by simp only [Dat.Neg]; omega) ?_
  refine bnd_to (shl_ofW x (by omega)) ?_
  refine bnd_to (y := (j : Int)) (by rw [Dat.wrap_u64]; simp only [Dat.sub]; omega) ?_
  refine ite_none (by simp only [Dat.Neg]; omega) ?_
  refine bnd_to (shr_ofW x (by omega)) ?_
  refine bnd_to (or_ofW _ _) ?_
  rw [rotr, BitVec.or_comm]

theorem sha_amounts_of_spec (x : W32) (a b c : Nat) (ha : a < 32 ∧ 0 < a) (hb : b < 32 ∧ 0 < b) (hc : c < 32 ∧ 0 < c) (mv : Bool) : sha_amounts_of (([(a : Int), (b : Int), (c : Int)], (mv, ())), ofW x) = some (ofW (sg a b c mv x)) := by
  have neg : ∀ n : Nat, n < 32 → Dat.wrap .i64 (Dat.sub 0 (n : Int)) = -(n : Int) := fun n hn => by rw [Dat.wrap_i64] <;> simp only [Dat.sub] <;> omega
  unfold sha_amounts_of
  refine ite_some (by decide) ?_
  refine bnd_to (neg c hc.1) ?_
  refine bind_to (rotl_spec x c hc.1 hc.2) ?_
  cases mv with
  | true =>
    refine cond_t rfl ?_
    refine ite_some (by decide) ?_
    refine ite_none (by show ¬ ((c : Int) < 0); omega) ?_
    refine bnd_to (shr_ofW x (n := c) (by omega)) ?_
    refine ite_some (by decide) ?_
    refine bnd_to (neg a ha.1) ?_
    refine ite_some (by decide) ?_
    refine bnd_to (neg b hb.1) ?_
    refine bind_to (rotl_spec x a ha.1 ha.2) ?_
    refine bind_to (rotl_spec x b hb.1 hb.2) ?_
    refine bnd_to (xor_ofW _ _) ?_
    refine bnd_to (xor_ofW _ _) ?_
    rfl
  | false =>
    refine cond_f rfl ?_
    refine ite_some (by decide) ?_
    refine bnd_to (neg a ha.1) ?_
    refine ite_some (by decide) ?_
    refine bnd_to (neg b hb.1) ?_
    refine bind_to (rotl_spec x a ha.1 ha.2) ?_
    refine bind_to (rotl_spec x b hb.1 hb.2) ?_
    refine bnd_to (xor_ofW _ _) ?_
    refine bnd_to (xor_ofW _ _) ?_
    rfl

/-! ### The words of a block -/
def bW (b : List Int) (i : Int) : W32 := BitVec.ofInt 32 (b.getD i.toNat 0)
def wd (b : List Int) (t : Nat) : W32 := (bW b (4 * t) <<< 24) ||| (bW b (4 * t + 1) <<< 16) ||| (bW b (4 * t + 2) <<< 8) ||| bW b (4 * t + 3)
def nwW (w : List W32) (t : Nat) : W32 := w.getD ((t : Int) - 16).toNat 0 + w.getD ((t : Int) - 7).toNat 0 + sg 7 18 3 true (w.getD ((t : Int) - 15).toNat 0) + sg 17 19 10 true (w.getD ((t : Int) - 2).toNat 0)
def stW (b : List Int) : Nat → List W32
  | 0 => List.replicate 64 0
  | t + 1 => (stW b t).set t (if t < 16 then wd b t else nwW (stW b t) t)
theorem stW_len (b : List Int) : ∀ t, (stW b t).length = 64
  | 0 => by simp [stW]
  | t + 1 => by simp [stW, stW_len b t]

theorem sha_spread_spec (b : List Int) (hb : b.length = 64) : sha_spread b = some ((stW b 64).map ofW) := by
  unfold sha_spread
  refine loop_inv (fun s => ∃ t : Nat, t ≤ 64 ∧ s = ((t : Int), (stW b t).map ofW)) (fun s => 64 - s.1.toNat) ?_ ⟨0, by omega, by simp [stW]; rfl⟩ (by decide)
  rintro s k ⟨t, ht, rfl⟩ hk
  have hl := stW_len b t
  by_cases h : t < 64
  · refine cond_t (show decide _ = true from decide_eq_true (by show (t : Int) < _; omega)) ?_
    rw [norm_same hb]
    have hnext : ∀ v : W32, (if t < 16 then wd b t else nwW (stW b t) t) = v → k ((t : Int) + 1, ((stW b t).set t v).map ofW) = some ((stW b 64).map ofW) := by
      intro v hv
      subst hv
      refine hk _ ⟨t + 1, by omega, ?_⟩ ?_
      · simp [stW]
      · show 64 - ((t : Int) + 1).toNat < 64 - ((t : Int)).toNat; omega
    by_cases h16 : t < 16
    · refine cond_t (show decide _ = true from decide_eq_true (by show (t : Int) < _; omega)) ?_
      repeat (first
        | with_reducible refine bnd_to (shl_lit _ _ (by decide)) ?_
        | with_reducible refine bnd_to (or_ofW _ _) ?_
        | with_reducible refine bnd_to (set_map _ _ _) ?_
        | with_reducible refine bnd_to (rfl : Dat.get _ _ _ = _) ?_
        | with_reducible refine bnd_to (wrap_any _) ?_
        | with_reducible refine bnd_to (wrapI (by simp only [Dat.add, Dat.mul]; omega)) ?_
        | refine ite_some (by (simp only [Dat.In, Dat.Lt, Dat.toN, Dat.len, Dat.add, Dat.mul, hb, List.length_map, hl]; omega)) ?_
        | refine ite_none (by decide) ?_
        | exact hnext _ (if_pos h16))
    · refine cond_f (show decide _ = false from decide_eq_false (by show ¬ (t : Int) < _; omega)) ?_
      repeat (first
        | with_reducible refine bnd_to (get_map _ _) ?_
        | with_reducible refine bnd_to (add_ofW _ _) ?_
        | with_reducible refine bind_to (sha_amounts_of_spec _ 7 18 3 (by decide) (by decide) (by decide) true) ?_
        | with_reducible refine bind_to (sha_amounts_of_spec _ 17 19 10 (by decide) (by decide) (by decide) true) ?_
        | with_reducible refine bnd_to (set_map _ _ _) ?_
        | with_reducible refine bnd_to (wrapI (by simp only [Dat.add, Dat.sub]; omega)) ?_
        | refine ite_some (by (simp only [Dat.In, Dat.Lt, Dat.toN, Dat.len, Dat.sub, hb, List.length_map, hl]; omega)) ?_
        | exact hnext _ (if_neg h16))
  · obtain rfl : t = 64 := by omega
    refine cond_f rfl ?_
    refine ite_some (by simp [hl]) ?_
    refine ite_some (by decide) ?_
    refine ite_some (by simp) ?_
    rw [norm_same (by simp [hl])]

theorem ref02_words_spec (b : List Int) (hb : b.length = 64) : ref02_words b = some ((stW b 64).map ofW) := by
  unfold ref02_words
  refine loop_inv (fun s => ∃ t : Nat, t ≤ 16 ∧ s = ((t : Int), (stW b t).map ofW)) (fun s => 16 - s.1.toNat) ?_ ⟨0, by omega, by simp [stW]; rfl⟩ (by decide)
  rintro s k ⟨t, ht, rfl⟩ hk
  have hl := stW_len b t
  by_cases h16 : t < 16
  · refine cond_t (show decide _ = true from decide_eq_true (by show (t : Int) < _; omega)) ?_
    have hnext : ∀ v : W32, (if t < 16 then wd b t else nwW (stW b t) t) = v → k ((t : Int) + 1, ((stW b t).set t v).map ofW) = some ((stW b 64).map ofW) := by
      intro v hv
      subst hv
      refine hk _ ⟨t + 1, by omega, ?_⟩ ?_
      · simp [stW]
      · show 16 - ((t : Int) + 1).toNat < 16 - ((t : Int)).toNat; omega
    repeat (first
      | with_reducible refine bnd_to (shl_lit _ _ (by decide)) ?_
      | with_reducible refine bnd_to (or_ofW _ _) ?_
      | with_reducible refine bnd_to (set_map _ _ _) ?_
      | with_reducible refine bnd_to (rfl : Dat.get _ _ _ = _) ?_
      | with_reducible refine bnd_to (wrap_any _) ?_
      | with_reducible refine bnd_to (wrapI (by simp only [Dat.add, Dat.mul]; omega)) ?_
      | refine ite_some (by (simp only [Dat.In, Dat.Ix, Dat.Lt, Dat.toN, Dat.len, Dat.add, Dat.mul, hb, List.length_map, hl]; omega)) ?_
      | refine ite_none (by decide) ?_
      | exact hnext _ (if_pos h16))
  · obtain rfl : t = 16 := by omega
    refine cond_f rfl ?_
    have hb0 : ∀ s : Int × List Int, 64 - s.1.toNat < 18446744073709551616 := fun s => mu_lt 64 _ (by omega)
    refine loop_inv (fun s => ∃ t : Nat, 16 ≤ t ∧ t ≤ 64 ∧ s = ((t : Int), (stW b t).map ofW)) (fun s => 64 - s.1.toNat) ?_ ⟨16, Nat.le_refl _, by omega, by simp⟩ (hb0 (16, (stW b 16).map ofW))
    clear hk h16 ht hl k
    rintro s k ⟨t, h16, ht, rfl⟩ hk
    have hl := stW_len b t
    by_cases h : t < 64
    · refine cond_t (show decide _ = true from decide_eq_true (by show (t : Int) < _; omega)) ?_
      have hnext : ∀ v : W32, (if t < 16 then wd b t else nwW (stW b t) t) = v → k ((t : Int) + 1, ((stW b t).set t v).map ofW) = some ((stW b 64).map ofW) := by
        intro v hv
        subst hv
        refine hk _ ⟨t + 1, by omega, by omega, ?_⟩ ?_
        · simp [stW]
        · show 64 - ((t : Int) + 1).toNat < 64 - ((t : Int)).toNat; omega
      repeat (first
        | with_reducible refine bnd_to (get_map _ _) ?_
        | with_reducible refine bnd_to (add_ofW _ _) ?_
        | with_reducible refine bnd_to (xor_ofW _ _) ?_
        | with_reducible refine bnd_to (shr_lit _ _ (by decide)) ?_
        | with_reducible refine bind_to (turned_lit _ _ (by decide)) ?_
        | with_reducible refine bnd_to (set_map _ _ _) ?_
        | with_reducible refine bnd_to (wrapI (by simp only [Dat.add, Dat.sub]; omega)) ?_
        | refine ite_some (by (simp only [Dat.In, Dat.Lt, Dat.toN, Dat.len, Dat.sub, hb, List.length_map, hl]; omega)) ?_
        | refine ite_none (by decide) ?_
        | exact hnext _ (if_neg (by omega)))
    · obtain rfl : t = 64 := by omega
      refine cond_f rfl ?_
      refine ite_some (by simp [hl]) ?_
      refine ite_some (by decide) ?_
      refine ite_some (by simp) ?_
      rw [norm_same (by simp [hl])]
end Go.Proofs.YtecoonecmmbggaaDoor
