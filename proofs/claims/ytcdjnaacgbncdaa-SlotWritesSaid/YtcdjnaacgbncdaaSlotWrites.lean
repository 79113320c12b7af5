/- SlotWrites answers true. -/
import Derived.Test.YtcdjnaacgbncdaaSlotref
import Derived.Test.YtcdjnaacgbncdaaSpoil
namespace Go.Proofs.Ytcdjnaacgbncdaa
open Go.Eng
set_option linter.unusedVariables false
set_option linter.unusedSimpArgs false
set_option maxRecDepth 4000

theorem sw_same (l : List Int) : ref01_Same (l, l) = some true := by rw [ref01_Same_spec, decide_eq_true rfl]
theorem sw_q (x : Int) : Dat.ieq x x = true := by simp [Dat.ieq]
theorem sw_b (x : Bool) : Dat.beq x x = true := by cases x <;> rfl
theorem sw_t (b : Bool) : Dat.pickB true b false = b := by cases b <;> rfl
theorem sw_f (b : Bool) : Dat.pickB false true b = b := by cases b <;> rfl

theorem slotWrites_any (B S H W i f : Int) (d : List Int) (i' f' : Int) (d' : List Int) : law09_SlotWrites ((B, S, H, W, ()), (i, f, d, ()), (i', f', d', ())) = some true := by
  unfold law09_SlotWrites
  simp only
  by_cases h1 : d.length > 1000
  · have e : Dat.igt (Dat.ofN (Dat.len d)) 1000 = true := by simp [Dat.igt]; omega
    simp only [e, cond_true, Dat.join_eq]
  have e : Dat.igt (Dat.ofN (Dat.len d)) 1000 = false := by simp [Dat.igt]; omega
  by_cases h2 : d'.length > 1000
  · have e2 : Dat.igt (Dat.ofN (Dat.len d')) 1000 = true := by simp [Dat.igt]; omega
    simp only [e, e2, sw_f, cond_false, cond_true, Dat.join_eq]
  have e2 : Dat.igt (Dat.ofN (Dat.len d')) 1000 = false := by simp [Dat.igt]; omega
  have t9 := ref09_Twin_spec i f d (by omega)
  have t1 := slot_Twin_spec i f d (by omega)
  have cd : Dat.Le (Dat.addN 0 (Dat.len d)) (Dat.len d) := by show 0 + d.length ≤ d.length; omega
  have sd : Dat.seg d 0 (Dat.len d) = d := seg_all _ (Nat.le_refl _)
  rcases check_two B S H W i f d with h0 | h8
  · obtain ⟨hs, i0, i1, f0, f1, hd⟩ := check_ok h0
    obtain ⟨l1, l2, l3, l4, l5, l6⟩ := lvl_iff.1 (slots_lvl hs)
    have hw : writeS B S H W i f d = (slotW i f d, 0) := by unfold writeS; rw [if_pos h0]
    have hlen := slotW_len i f d
    have cx : ¬ Dat.EqN (Dat.len (slotW i f d)) 0 := by show ¬ ((slotW i f d).length = 0); omega
    have cn : ¬ Dat.EqN (Dat.len d) 0 := by show ¬ (d.length = 0); omega
    have cl : Dat.Le (Dat.addN 0 (Dat.len (slotW i f d))) (Dat.len (slotW i f d)) := by show 0 + (slotW i f d).length ≤ (slotW i f d).length; omega
    have cs : Dat.seg (slotW i f d) 0 (Dat.len (slotW i f d)) = slotW i f d := seg_all _ (Nat.le_refl _)
    simp only [e, e2, sw_f, cond_false, cond_true, Dat.join_eq, t9, t1, Dat.bind_some, slot_Slots_spec, ref09_Slots_spec, slot_Write_spec, ref09_Write_spec, hw, slot_None_spec, ref09_None_spec, cx, cn, cl, cs, cd, sd, if_false, if_true, sw_q, sw_t, sw_same, sw_b, slot_Check_spec, ref09_Check_spec, slot_Same_spec, ref09_Same_spec, sameS_self]
    refine spoil_ok .u8 d.length d rfl (by omega) true _ ?_
    exact spoil_ok .u8 (slotW i f d).length (slotW i f d) rfl (by omega) true _ rfl
  · have hw : writeS B S H W i f d = ([], 8) := by unfold writeS; rw [if_neg (by rw [h8]; decide)]
    have cx : Dat.EqN (Dat.len ([] : List Int)) 0 := rfl
    by_cases cn : Dat.EqN (Dat.len d) 0
    · simp only [e, e2, sw_f, cond_false, Dat.join_eq]
      obtain rfl : d = [] := List.eq_nil_of_length_eq_zero cn
      simp only [e, e2, sw_f, cond_false, cond_true, Dat.join_eq, t9, t1, Dat.bind_some, slot_Slots_spec, ref09_Slots_spec, slot_Write_spec, ref09_Write_spec, hw, slot_None_spec, ref09_None_spec, cx, cn, cd, sd, if_false, if_true, sw_q, sw_t, sw_same, sw_b, slot_Check_spec, ref09_Check_spec, slot_Same_spec, ref09_Same_spec, sameS_self]
      refine spoil_nil [] rfl true _ ?_ _
      exact spoil_nil [] rfl true _ rfl _
    · simp only [e, e2, sw_f, cond_false, cond_true, Dat.join_eq, t9, t1, Dat.bind_some, slot_Slots_spec, ref09_Slots_spec, slot_Write_spec, ref09_Write_spec, hw, slot_None_spec, ref09_None_spec, cx, cn, cd, sd, if_false, if_true, sw_q, sw_t, sw_same, sw_b, slot_Check_spec, ref09_Check_spec, slot_Same_spec, ref09_Same_spec, sameS_self]
      refine spoil_ok .u8 d.length d rfl (by omega) true _ ?_
      exact spoil_nil [] rfl true _ rfl _

theorem law09_SlotWrites_true (d : Els p_law09_SlotWrites.args) (hf : Fits p_law09_SlotWrites.args d) : law09_SlotWrites d = some true := by
  obtain ⟨⟨B, S, H, W, _⟩, ⟨i, f, d, _⟩, ⟨i', f', d', _⟩⟩ := d
  exact slotWrites_any B S H W i f d i' f' d'
end Go.Proofs.Ytcdjnaacgbncdaa
