/- A text's bucket. -/
import Derived.Test.YthhjkmefpmmleaaBucket
import Derived.Test.YthhjkmefpmmleaaStep2
namespace Go.Proofs.Ythhjkmefpmmleaa
open Go.Eng
set_option linter.unusedVariables false
set_option linter.unusedSimpArgs false
theorem mul_one4 {n : Int} (h : n = 1 ∨ n = 2 ∨ n = 3 ∨ n = 4) : math_bits_Mul (1, n) = some (0, n) := by
 rcases h with rfl | rfl | rfl | rfl <;> rfl
theorem repeat_spec (v : Int) {n : Int} (h : n = 1 ∨ n = 2 ∨ n = 3 ∨ n = 4) : slices_Repeat_int_int ([v], n) = some (List.replicate n.toNat v) := by
 unfold slices_Repeat_int_int
 dsimp only
 have hm := mul_one4 h
 rcases h with rfl | rfl | rfl | rfl
 ·refine cond_f rfl ?_
  refine bnd_to (y := 1) rfl ?_
  refine bnd_to (y := 1) rfl ?_
  refine bind_to hm ?_
  refine cond_f rfl ?_
  refine cond_f rfl ?_
  refine bnd_to (y := 1) rfl ?_
  refine ite_some (Dat.MkOk_iff.2 ⟨by omega, by omega, by omega, by omega⟩) ?_
  refine iteP (by exact of_decide_eq_true rfl) ?_
  refine loop_inv (fun s => s = (1, [v])) (fun s => 4 - s.1.toNat) ?_ rfl (mu_lt _ _ (by omega))
  rintro s k rfl hk
  refine cond_f rfl ?_
  exact iteP (by exact of_decide_eq_true rfl) rfl
 ·refine cond_f rfl ?_
  refine bnd_to (y := 1) rfl ?_
  refine bnd_to (y := 2) rfl ?_
  refine bind_to hm ?_
  refine cond_f rfl ?_
  refine cond_f rfl ?_
  refine bnd_to (y := 2) rfl ?_
  refine ite_some (Dat.MkOk_iff.2 ⟨by omega, by omega, by omega, by omega⟩) ?_
  refine iteP (by exact of_decide_eq_true rfl) ?_
  refine loop_inv (fun s => s = (1, [v, 0]) ∨ s = (2, [v, v])) (fun s => 4 - s.1.toNat) ?_ (.inl rfl) (mu_lt _ _ (by omega))
  rintro s k (rfl | rfl) hk
  ·refine cond_t rfl ?_
   refine iteP (by exact of_decide_eq_true rfl) ?_
   refine iteP (by exact of_decide_eq_true rfl) ?_
   refine iteP (by exact of_decide_eq_true rfl) ?_
   refine iteP (by exact of_decide_eq_true rfl) ?_
   refine iteP (by exact of_decide_eq_true rfl) ?_
   refine iteP (by exact of_decide_eq_true rfl) ?_
   refine bnd_to (y := 2) rfl ?_
   exact hk (2, [v, v]) (.inr rfl) (by exact of_decide_eq_true rfl)
  ·refine cond_f rfl ?_
   exact iteP (by exact of_decide_eq_true rfl) rfl
 ·refine cond_f rfl ?_
  refine bnd_to (y := 1) rfl ?_
  refine bnd_to (y := 3) rfl ?_
  refine bind_to hm ?_
  refine cond_f rfl ?_
  refine cond_f rfl ?_
  refine bnd_to (y := 3) rfl ?_
  refine ite_some (Dat.MkOk_iff.2 ⟨by omega, by omega, by omega, by omega⟩) ?_
  refine iteP (by exact of_decide_eq_true rfl) ?_
  refine loop_inv (fun s => s = (1, [v, 0, 0]) ∨ s = (2, [v, v, 0]) ∨ s = (3, [v, v, v])) (fun s => 4 - s.1.toNat) ?_ (.inl rfl) (mu_lt _ _ (by omega))
  rintro s k (rfl | rfl | rfl) hk
  ·refine cond_t rfl ?_
   refine iteP (by exact of_decide_eq_true rfl) ?_
   refine iteP (by exact of_decide_eq_true rfl) ?_
   refine iteP (by exact of_decide_eq_true rfl) ?_
   refine iteP (by exact of_decide_eq_true rfl) ?_
   refine iteP (by exact of_decide_eq_true rfl) ?_
   refine iteP (by exact of_decide_eq_true rfl) ?_
   refine bnd_to (y := 2) rfl ?_
   exact hk (2, [v, v, 0]) (.inr (.inl rfl)) (by exact of_decide_eq_true rfl)
  ·refine cond_t rfl ?_
   refine iteP (by exact of_decide_eq_true rfl) ?_
   refine iteP (by exact of_decide_eq_true rfl) ?_
   refine iteP (by exact of_decide_eq_true rfl) ?_
   refine iteP (by exact of_decide_eq_true rfl) ?_
   refine iteP (by exact of_decide_eq_true rfl) ?_
   refine iteP (by exact of_decide_eq_true rfl) ?_
   refine bnd_to (y := 3) rfl ?_
   exact hk (3, [v, v, v]) (.inr (.inr rfl)) (by exact of_decide_eq_true rfl)
  ·refine cond_f rfl ?_
   exact iteP (by exact of_decide_eq_true rfl) rfl
 ·refine cond_f rfl ?_
  refine bnd_to (y := 1) rfl ?_
  refine bnd_to (y := 4) rfl ?_
  refine bind_to hm ?_
  refine cond_f rfl ?_
  refine cond_f rfl ?_
  refine bnd_to (y := 4) rfl ?_
  refine ite_some (Dat.MkOk_iff.2 ⟨by omega, by omega, by omega, by omega⟩) ?_
  refine iteP (by exact of_decide_eq_true rfl) ?_
  refine loop_inv (fun s => s = (1, [v, 0, 0, 0]) ∨ s = (2, [v, v, 0, 0]) ∨ s = (4, [v, v, v, v])) (fun s => 4 - s.1.toNat) ?_ (.inl rfl) (mu_lt _ _ (by omega))
  rintro s k (rfl | rfl | rfl) hk
  ·refine cond_t rfl ?_
   refine iteP (by exact of_decide_eq_true rfl) ?_
   refine iteP (by exact of_decide_eq_true rfl) ?_
   refine iteP (by exact of_decide_eq_true rfl) ?_
   refine iteP (by exact of_decide_eq_true rfl) ?_
   refine iteP (by exact of_decide_eq_true rfl) ?_
   refine iteP (by exact of_decide_eq_true rfl) ?_
   refine bnd_to (y := 2) rfl ?_
   exact hk (2, [v, v, 0, 0]) (.inr (.inl rfl)) (by exact of_decide_eq_true rfl)
  ·refine cond_t rfl ?_
   refine iteP (by exact of_decide_eq_true rfl) ?_
   refine iteP (by exact of_decide_eq_true rfl) ?_
   refine iteP (by exact of_decide_eq_true rfl) ?_
   refine iteP (by exact of_decide_eq_true rfl) ?_
   refine iteP (by exact of_decide_eq_true rfl) ?_
   refine iteP (by exact of_decide_eq_true rfl) ?_
   refine bnd_to (y := 4) rfl ?_
   exact hk (4, [v, v, v, v]) (.inr (.inr rfl)) (by exact of_decide_eq_true rfl)
  ·refine cond_f rfl ?_
   exact iteP (by exact of_decide_eq_true rfl) rfl
def sizesB (S m : Int) : List Int := List.replicate m.toNat (8 + S) ++ [32, 32]
def cutB (B S H W : Int) (t : List Int) : List (List Int) × Int := if (slotsS B S H W).2 = 0 then cutS t (sizesB S (slotsS B S H W).1) else ([], 8)
theorem many_cases {B S H W : Int} (h : (slotsS B S H W).2 = 0) : (slotsS B S H W).1 = 1 ∨ (slotsS B S H W).1 = 2 ∨ (slotsS B S H W).1 = 3 ∨ (slotsS B S H W).1 = 4 := by
 have h1 := (many_le B S H W)
 have h2 := (W_eq h).2
 omega
theorem bucket_cut_spec (B S H W : Int) (t : List Int) : bucket_cut ((B, S, H, W, ()), t) = some (cutB B S H W t) := by
 unfold bucket_cut
 dsimp only
 refine bind_to (slot_Slots_spec B S H W) ?_
 unfold cutB sizesB
 rcases slots_two B S H W with h0 | h8
 ·rw [if_pos h0]
  obtain ⟨l1, l2, l3, l4, l5, l6⟩ := lvl_iff.1 (slots_lvl h0)
  have hmc := many_cases h0
  refine cond_f (by rw [h0]; rfl) ?_
  refine bind_to (slot_None_spec B S H W) ?_
  unfold noneS
  rw [if_pos h0]
  generalize (slotsS B S H W).1 = m at *
  refine cond_f rfl ?_
  refine ite_some (by exact of_decide_eq_true rfl) ?_
  have hx : Dat.seg (Dat.ofN (Dat.len (List.replicate (8 + S).toNat (0 : Int))) :: ([] : List Int)) 0 1 = [8 + S] := by
   simp only [Dat.seg, List.drop_zero, List.take_succ_cons, List.take_zero, Dat.ofN, Dat.len, List.length_replicate]
   congr 1; omega
  dsimp only
  rw [hx]
  refine bind_to (repeat_spec (8 + S) hmc) ?_
  have hlen : (List.replicate m.toNat (8 + S)).length = m.toNat := List.length_replicate
  generalize List.replicate m.toNat (8 + S) = x at *
  have hne : ¬ Dat.EqN (Dat.len x) 0 := by simp only [Dat.EqN, Dat.len]; omega
  rw [if_neg hne]
  refine ite_some (by exact of_decide_eq_true rfl) ?_
  refine ite_some (by simp [Dat.Le, Dat.addN, Dat.len]) ?_
  have hsx : Dat.seg x 0 (Dat.len x) = x := by simp [Dat.seg, Dat.len]
  rw [hsx]
  refine ite_none (by simp only [Dat.Big, Dat.len, Dat.seg, List.drop_zero, List.take_succ_cons, List.take_zero, List.length_cons, List.length_nil]; omega) ?_
  refine bnd_to (y := x ++ [32, 32]) rfl ?_
  refine bind_to (num_Cut_spec _ _ (by simp; omega)) ?_
  exact congrArg some (Prod.ext rfl rfl)
 ·have hne : ¬ (slotsS B S H W).2 = 0 := by rw [h8]; simp
  rw [if_neg hne, h8]; rfl
end Go.Proofs.Ythhjkmefpmmleaa
