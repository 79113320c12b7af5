/- What a slot has, by the document. -/
import Derived.Test.YthhjkmefpmmleaaSlotref
import Derived.Test.YthhjkmefpmmleaaNumber
import Derived.Test.YthhjkmefpmmleaaStep2
namespace Go.Proofs.Ythhjkmefpmmleaa
open Go.Eng
set_option linter.unusedVariables false
set_option linter.unusedSimpArgs false
theorem ref09_Read_spec (B S H W : Int) (s : List Int) (hB : isB s) : ref09_Read ((B, S, H, W, ()), s) = some (readS B S H W s) := by
 unfold ref09_Read readS
 dsimp only
 refine bind_to (ref09_Many_spec B S H W) ?_
 have h44 : (2 : Nat) ^ 44 = 17592186044416 := by decide
 rcases slots_two B S H W with h0 | h8
 ·obtain ⟨l1, l2, l3, l4, l5, l6⟩ := lvl_iff.1 (slots_lvl h0)
  have w8 : Dat.wrap .i64 (Dat.add 8 S) = 8 + S := wrapI (by simp only [Dat.add]; omega)
  rw [if_pos h0]
  have hf := slots_first h0
  refine cond_f (by rw [slots_lt]; rw [decide_eq_true h0]; rfl) ?_
  refine bnd_to w8 ?_
  by_cases hl : (s.length : Int) = 8 + S
  ·rw [if_pos hl]
   refine cond_f (by simp [Dat.ine, Dat.ofN, Dat.len, hl]) ?_
   refine bnd_to w8 ?_
   refine ite_some (Dat.MkOk_iff.2 ⟨by omega, by omega, by omega, by omega⟩) ?_
   refine ite_some (by simp [Dat.Le, Dat.addN, Dat.rep, Dat.len]) ?_
   have hsg : Dat.seg (Dat.rep (α := Int) (Dat.toN (8 + S)) 0) 0 (Dat.toN (8 + S)) = List.replicate (8 + S).toNat 0 := by simp [Dat.seg, Dat.rep, Dat.toN]
   rw [hsg]
   refine bind_to (ref01_Same_spec _ _) ?_
   by_cases hz : Dat.str s = Dat.str (List.replicate (8 + S).toNat 0)
   ·rw [if_pos hz]
    exact cond_t (decide_eq_true hz) rfl
   ·rw [if_neg hz]
    have hp1 : (part3 s).1.length = 4 := by simp only [part3, List.length_take]; omega
    have hp2 : (part3 s).2.1.length = 4 := by simp only [part3, List.length_take, List.length_drop]; omega
    have hp3 : (part3 s).2.2.length ≤ 32 := by simp only [part3, List.length_drop]; omega
    have hb1 : isB (part3 s).1 := isB_take hB _
    have hb2 : isB (part3 s).2.1 := isB_drop (isB_take hB _) _
    have v1 := val_bounds hb1
    have v2 := val_bounds hb2
    have h4 : (256 : Int) ^ 4 = 4294967296 := by decide
    rw [hp1, h4] at v1
    rw [hp2, h4] at v2
    have e1 : Dat.slice s 0 (Dat.toN 4) = (part3 s).1 := rfl
    have e2 : Dat.slice s (Dat.toN 4) (Dat.toN 8) = (part3 s).2.1 := rfl
    have e3 : Dat.slice s (Dat.toN 8) (Dat.len s) = (part3 s).2.2 := by simp [Dat.slice, Dat.len, Dat.toN, part3]
    refine cond_f (decide_eq_false hz) ?_
    refine ite_some ⟨by omega, by simp only [Dat.len]; omega⟩ ?_
    refine bnd_to e1 ?_
    refine ite_some ⟨by omega, by simp only [Dat.len]; omega⟩ ?_
    refine ite_some ⟨by omega, by decide⟩ ?_
    refine bnd_to e2 ?_
    generalize (part3 s).1 = a at *
    generalize (part3 s).2.1 = b at *
    generalize (part3 s).2.2 = d at *
    refine bind_to (ref01_Number_spec a hb1 (by omega)) ?_
    refine bind_to (ref01_Number_spec b hb2 (by omega)) ?_
    refine bnd_to (wrapI (x := val a) (by omega)) ?_
    refine bnd_to (wrapI (x := Dat.sub (val a) 1) (by simp only [Dat.sub]; omega)) ?_
    refine bnd_to (wrapI (x := val b) (by omega)) ?_
    refine ite_some ⟨by omega, by simp only [Dat.len]; omega⟩ ?_
    refine bnd_to e3 ?_
    refine ite_some (by simp [Dat.Le, Dat.addN, Dat.len]) ?_
    refine ite_none (by simp only [Dat.Big, Dat.len, Dat.seg, List.drop_zero, List.length_take, List.length_nil]; omega) ?_
    refine bnd_to (y := d) rfl ?_
    refine bind_to (ref09_May_spec B S H W (val a - 1) (val b) d (slots_lvl h0)) ?_
    unfold checkS
    rw [if_pos h0]
    cases hbk : blkOk B S H (val a - 1) (val b) d with
    | true => exact cond_f rfl rfl
    | false => exact cond_t rfl rfl
  ·rw [if_neg hl]
   exact cond_t (by simp [Dat.ine, Dat.ofN, Dat.len, hl]) rfl
 ·have hne : ¬ (slotsS B S H W).2 = 0 := by rw [h8]; simp
  rw [if_neg hne]
  exact cond_t (by rw [slots_lt, decide_eq_false hne]; rfl) rfl
end Go.Proofs.Ythhjkmefpmmleaa
