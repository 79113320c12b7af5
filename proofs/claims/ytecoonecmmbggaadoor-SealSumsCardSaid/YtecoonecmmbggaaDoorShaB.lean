/- SHA-256's rounds and turns. -/
import Derived.Test.YtecoonecmmbggaaDoorShaA
namespace Go.Proofs.YtecoonecmmbggaaDoor
open Go.Eng
set_option linter.unusedVariables false
set_option linter.unusedSimpArgs false

theorem xor_ones (e : W32) : Dat.bxor .u32 4294967295 (ofW e) = ofW (4294967295#32 ^^^ e) := xor_ofW 4294967295#32 e
theorem xor_ones2 (e : W32) : Dat.bxor .u32 (ofW e) 4294967295 = ofW (4294967295#32 ^^^ e) := by
  rw [BitVec.xor_comm]; exact xor_ofW e 4294967295#32
def pW (s : List W32) (kw : W32) : W32 := s.getD 7 0 + sg 6 11 25 false (s.getD 4 0) + ((s.getD 4 0 &&& s.getD 5 0) ^^^ ((4294967295#32 ^^^ s.getD 4 0) &&& s.getD 6 0)) + kw
def qW (s : List W32) : W32 := sg 2 13 22 false (s.getD 0 0) + ((s.getD 0 0 &&& s.getD 1 0) ^^^ (s.getD 0 0 &&& s.getD 2 0) ^^^ (s.getD 1 0 &&& s.getD 2 0))
def rdW (s : List W32) (kw : W32) : List W32 := [pW s kw + qW s, s.getD 0 0, s.getD 1 0, s.getD 2 0, s.getD 3 0 + pW s kw, s.getD 4 0, s.getD 5 0, s.getD 6 0]

theorem sha_round_spec (s : List W32) (kw : W32) (hs : s.length = 8) : sha_round (s.map ofW, ofW kw) = some ((rdW s kw).map ofW) := by
  unfold sha_round
  dsimp only
  rw [norm_same (by simp [hs])]
  repeat (first
    | with_reducible refine bnd_to (get_map _ _) ?_
    | with_reducible refine bnd_to (add_ofW _ _) ?_
    | with_reducible refine bnd_to (xor_ofW _ _) ?_
    | with_reducible refine bnd_to (xor_ones _) ?_
    | with_reducible refine bnd_to (and_ofW _ _) ?_
    | with_reducible refine bind_to (sha_amounts_of_spec _ 6 11 25 (by decide) (by decide) (by decide) false) ?_
    | with_reducible refine bind_to (sha_amounts_of_spec _ 2 13 22 (by decide) (by decide) (by decide) false) ?_
    | refine ite_some (by decide) ?_
    | refine ite_some (by simp [hs]) ?_)
  rfl

def kW : List W32 := gl0.map (BitVec.ofInt 32)
theorem gl0_eq : gl0 = kW.map ofW := by decide
theorem get_k (i : Nat) : Dat.get gl0 i 0 = ofW (kW.getD i 0) := by rw [gl0_eq]; exact get_map _ _
theorem add_k (p w : W32) (i : Nat) : Dat.wrap .u32 (Dat.add (ofW (p + kW.getD i 0)) (ofW w)) = ofW (p + (kW.getD i 0 + w)) := by rw [add_ofW, BitVec.add_assoc]
theorem ref02_table_spec : ref02_table () = some gl0 := by
  unfold ref02_table
  refine ite_some (by decide) ?_
  refine ite_some (by decide) ?_
  rfl

/-- The words, behind so many rounds. -/
def rsW (W : List W32) (b : List Int) : Nat → List W32
  | 0 => W
  | t + 1 => rdW (rsW W b t) (kW.getD t 0 + (stW b 64).getD t 0)
theorem rsW_len (W : List W32) (b : List Int) (hW : W.length = 8) : ∀ t, (rsW W b t).length = 8
  | 0 => hW
  | t + 1 => rfl
/-- Words added, one by one. -/
def adW (W n : List W32) : Nat → List W32
  | 0 => W
  | i + 1 => (adW W n i).set i ((adW W n i).getD i 0 + n.getD i 0)
theorem adW_len (W n : List W32) (hW : W.length = 8) : ∀ t, (adW W n t).length = 8
  | 0 => hW
  | t + 1 => by simp [adW, adW_len W n hW t]
/-- Words, turned by a block. -/
def trn (W : List W32) (b : List Int) : List W32 := adW W (rsW W b 64) 8
theorem trn_len (W : List W32) (b : List Int) (hW : W.length = 8) : (trn W b).length = 8 := adW_len _ _ hW _

theorem hb64 (s : Int × List Int) : 64 - s.1.toNat < 18446744073709551616 := mu_lt 64 _ (by omega)
theorem hb8 (s : Int × List Int) : 8 - s.1.toNat < 18446744073709551616 := mu_lt 8 _ (by omega)

theorem sha_turn_spec (W : List W32) (b : List Int) (hW : W.length = 8) (hb : b.length = 64) : sha_turn (W.map ofW, b) = some ((trn W b).map ofW) := by
  have hW' : (W.map ofW).length = 8 := by simp [hW]
  unfold sha_turn
  dsimp only
  rw [norm_same hb, norm_same hW', norm_same hW']
  refine ite_some hb ?_
  refine bind_to (sha_spread_spec b hb) ?_
  refine ite_some (by decide) ?_
  refine ite_some hW' ?_
  refine ite_some (by decide) ?_
  rw [norm_same (show ((stW b 64).map ofW).length = 64 by simp [stW_len])]
  refine loop_inv (fun s => ∃ t : Nat, t ≤ 64 ∧ s = ((t : Int), (rsW W b t).map ofW)) (fun s => 64 - s.1.toNat) ?_ ⟨0, by omega, rfl⟩ (hb64 _)
  rintro s k ⟨t, ht, rfl⟩ hk
  have hl := rsW_len W b hW t
  dsimp only
  by_cases h : t < 64
  · refine cond_t (show decide _ = true from decide_eq_true (by omega)) ?_
    refine ite_some (by simp [hl]) ?_
    refine ite_some ⟨by omega, by omega⟩ ?_
    refine bnd_to (get_k _) ?_
    refine ite_some ⟨by omega, by omega⟩ ?_
    refine ite_some (by simp [stW_len]; omega) ?_
    refine bnd_to (get_map _ _) ?_
    refine bnd_to (add_ofW _ _) ?_
    refine bind_to (sha_round_spec _ _ hl) ?_
    refine ite_some (by simp [hl]) ?_
    refine bnd_to (wrapI (by simp only [Dat.add]; omega)) ?_
    rw [norm_same (by simp [rdW])]
    refine hk _ ⟨t + 1, by omega, ?_⟩ ?_
    · simp [rsW]
    · show 64 - ((t : Int) + 1).toNat < 64 - ((t : Int)).toNat; omega
  · obtain rfl : t = 64 := by omega
    refine cond_f rfl ?_
    refine loop_inv (fun s => ∃ i : Nat, i ≤ 8 ∧ s = ((i : Int), (adW W (rsW W b 64) i).map ofW)) (fun s => 8 - s.1.toNat) ?_ ⟨0, by omega, rfl⟩ (hb8 _)
    clear hk k ht h
    rintro s k ⟨i, hi, rfl⟩ hk
    have hl2 := adW_len W (rsW W b 64) hW i
    dsimp only
    by_cases h : i < 8
    · refine cond_t (show decide _ = true from decide_eq_true (by omega)) ?_
      refine ite_some ⟨by omega, by omega⟩ ?_
      refine ite_some (by simp [hl2]; omega) ?_
      refine bnd_to (get_map _ _) ?_
      refine ite_some ⟨by omega, by omega⟩ ?_
      refine ite_some (by simp [hl]; omega) ?_
      refine bnd_to (get_map _ _) ?_
      refine bnd_to (add_ofW _ _) ?_
      refine ite_some ⟨by omega, by omega⟩ ?_
      refine ite_some (by simp [hl2]; omega) ?_
      refine bnd_to (set_map _ _ _) ?_
      refine bnd_to (wrapI (by simp only [Dat.add]; omega)) ?_
      refine hk _ ⟨i + 1, by omega, ?_⟩ ?_
      · simp [adW]
      · show 8 - ((i : Int) + 1).toNat < 8 - ((i : Int)).toNat; omega
    · obtain rfl : i = 8 := by omega
      refine cond_f rfl ?_
      refine ite_some (by simp [hl2]) ?_
      refine ite_some (by decide) ?_
      rw [norm_same (by simp [hl2])]
      refine ite_some (by simp [hl2]) ?_
      rfl

theorem ref02_Turn_spec (W : List W32) (b : List Int) (hW : W.length = 8) (hb : b.length = 64) : ref02_Turn (W.map ofW, b) = some ((trn W b).map ofW) := by
  have hW' : (W.map ofW).length = 8 := by simp [hW]
  unfold ref02_Turn
  dsimp only
  rw [norm_same hW', norm_same hW']
  refine bind_to ref02_table_spec ?_
  refine ite_some (by decide) ?_
  refine bind_to (ref02_words_spec b hb) ?_
  refine ite_some (by decide) ?_
  refine ite_some hW' ?_
  refine ite_some (by decide) ?_
  rw [norm_same (show ((stW b 64).map ofW).length = 64 by simp [stW_len]), norm_same (show gl0.length = 64 by decide)]
  refine loop_inv (fun s => ∃ t : Nat, t ≤ 64 ∧ s = ((t : Int), (rsW W b t).map ofW)) (fun s => 64 - s.1.toNat) ?_ ⟨0, by omega, rfl⟩ (hb64 _)
  rintro s k ⟨t, ht, rfl⟩ hk
  have hl := rsW_len W b hW t
  dsimp only
  by_cases h : t < 64
  · refine cond_t (show decide _ = true from decide_eq_true (by omega)) ?_
    have gt : Dat.Lt (Dat.toN (t : Int)) (Dat.len gl0) := by show (t : Int).toNat < 64; omega
    have hnext : k ((t : Int) + 1, (rdW (rsW W b t) (kW.getD t 0 + (stW b 64).getD t 0)).map ofW) = some ((trn W b).map ofW) := by
      refine hk _ ⟨t + 1, by omega, ?_⟩ ?_
      · simp [rsW]
      · show 64 - ((t : Int) + 1).toNat < 64 - ((t : Int)).toNat; omega
    refine ite_some (by decide) ?_
    refine ite_some (by simp [hl]) ?_
    refine bnd_to (get_map _ _) ?_
    refine ite_some (by decide) ?_
    refine ite_some (by simp [hl]) ?_
    refine bnd_to (get_map _ _) ?_
    refine bnd_to (and_ofW _ _) ?_
    refine bnd_to (xor_ones2 _) ?_
    refine ite_some (by decide) ?_
    refine ite_some (by simp [hl]) ?_
    refine bnd_to (get_map _ _) ?_
    refine bnd_to (and_ofW _ _) ?_
    refine bnd_to (xor_ofW _ _) ?_
    refine ite_some (by decide) ?_
    refine ite_some (by simp [hl]) ?_
    refine bnd_to (get_map _ _) ?_
    refine ite_some ⟨by omega, by omega⟩ ?_
    refine ite_some gt ?_
    refine bnd_to (get_k _) ?_
    refine ite_some ⟨by omega, by omega⟩ ?_
    refine ite_some (by simp [stW_len]; omega) ?_
    refine bnd_to (get_map _ _) ?_
    refine bind_to (turned_lit _ _ (by decide)) ?_
    refine bind_to (turned_lit _ _ (by decide)) ?_
    refine bnd_to (xor_ofW _ _) ?_
    refine bind_to (turned_lit _ _ (by decide)) ?_
    refine bnd_to (xor_ofW _ _) ?_
    refine bnd_to (add_ofW _ _) ?_
    refine bnd_to (add_ofW _ _) ?_
    refine bnd_to (add_ofW _ _) ?_
    refine bnd_to (add_k _ _ _) ?_
    refine ite_some (by decide) ?_
    refine ite_some (by simp [hl]) ?_
    refine bnd_to (get_map _ _) ?_
    refine ite_some (by decide) ?_
    refine ite_some (by simp [hl]) ?_
    refine bnd_to (get_map _ _) ?_
    refine bnd_to (and_ofW _ _) ?_
    refine ite_some (by decide) ?_
    refine ite_some (by simp [hl]) ?_
    refine bnd_to (get_map _ _) ?_
    refine bnd_to (and_ofW _ _) ?_
    refine bnd_to (xor_ofW _ _) ?_
    refine ite_some (by decide) ?_
    refine ite_some (by simp [hl]) ?_
    refine bnd_to (get_map _ _) ?_
    refine ite_some (by decide) ?_
    refine ite_some (by simp [hl]) ?_
    refine bnd_to (get_map _ _) ?_
    refine bnd_to (and_ofW _ _) ?_
    refine bnd_to (xor_ofW _ _) ?_
    refine bind_to (turned_lit _ _ (by decide)) ?_
    refine bind_to (turned_lit _ _ (by decide)) ?_
    refine bnd_to (xor_ofW _ _) ?_
    refine bind_to (turned_lit _ _ (by decide)) ?_
    refine bnd_to (xor_ofW _ _) ?_
    refine bnd_to (add_ofW _ _) ?_
    refine bnd_to (add_ofW _ _) ?_
    refine ite_some (by decide) ?_
    refine ite_some (by simp [hl]) ?_
    refine bnd_to (get_map _ _) ?_
    refine ite_some (by decide) ?_
    refine ite_some (by simp [hl]) ?_
    refine bnd_to (get_map _ _) ?_
    refine ite_some (by decide) ?_
    refine ite_some (by simp [hl]) ?_
    refine bnd_to (get_map _ _) ?_
    refine ite_some (by decide) ?_
    refine ite_some (by simp [hl]) ?_
    refine bnd_to (get_map _ _) ?_
    refine bnd_to (add_ofW _ _) ?_
    refine ite_some (by decide) ?_
    refine ite_some (by simp [hl]) ?_
    refine bnd_to (get_map _ _) ?_
    refine ite_some (by decide) ?_
    refine ite_some (by simp [hl]) ?_
    refine bnd_to (get_map _ _) ?_
    refine ite_some (by decide) ?_
    refine ite_some (by simp [hl]) ?_
    refine bnd_to (get_map _ _) ?_
    refine ite_some (by simp [hl]) ?_
    refine bnd_to (wrapI (by simp only [Dat.add]; omega)) ?_
    exact hnext
  · obtain rfl : t = 64 := by omega
    refine cond_f rfl ?_
    refine loop_inv (fun s => ∃ i : Nat, i ≤ 8 ∧ s = ((i : Int), (adW W (rsW W b 64) i).map ofW)) (fun s => 8 - s.1.toNat) ?_ ⟨0, by omega, rfl⟩ (hb8 _)
    clear hk k ht h
    rintro s k ⟨i, hi, rfl⟩ hk
    have hl2 := adW_len W (rsW W b 64) hW i
    dsimp only
    by_cases h : i < 8
    · refine cond_t (show decide _ = true from decide_eq_true (by omega)) ?_
      refine ite_some ⟨by omega, by omega⟩ ?_
      refine ite_some (by simp [hl2]; omega) ?_
      refine bnd_to (get_map _ _) ?_
      refine ite_some ⟨by omega, by omega⟩ ?_
      refine ite_some (by simp [hl]; omega) ?_
      refine bnd_to (get_map _ _) ?_
      refine bnd_to (add_ofW _ _) ?_
      refine ite_some ⟨by omega, by omega⟩ ?_
      refine ite_some (by simp [hl2]; omega) ?_
      refine bnd_to (set_map _ _ _) ?_
      refine bnd_to (wrapI (by simp only [Dat.add]; omega)) ?_
      refine hk _ ⟨i + 1, by omega, ?_⟩ ?_
      · simp [adW]
      · show 8 - ((i : Int) + 1).toNat < 8 - ((i : Int)).toNat; omega
    · obtain rfl : i = 8 := by omega
      refine cond_f rfl ?_
      refine ite_some (by simp [hl2]) ?_
      refine ite_some (by decide) ?_
      rw [norm_same (by simp [hl2])]
      refine ite_some (by simp [hl2]) ?_
      rfl
end Go.Proofs.YtecoonecmmbggaaDoor
