/- SlotReads answers true. -/
import Derived.Test.YtcdjnaacgbncdaaSlotr
import Derived.Test.YtcdjnaacgbncdaaSlotrefr
import Derived.Test.YtcdjnaacgbncdaaSpoil
namespace Go.Proofs.Ytcdjnaacgbncdaa
open Go.Eng
set_option linter.unusedVariables false
set_option linter.unusedSimpArgs false

theorem slotReads_any (B S H W : Int) (s : List Int) (hB : isB s) : law09_SlotReads ((B, S, H, W, ()), s) = some true := by
  unfold law09_SlotReads
  dsimp only
  have h44 : (2 : Nat) ^ 44 = 17592186044416 := by decide
  by_cases h1 : 1000 < s.length
  · exact cond_t (by simp [Dat.igt, Dat.ofN, Dat.len]; omega) rfl
  refine cond_f (by simp [Dat.igt, Dat.ofN, Dat.len]; omega) ?_
  refine ite_some (by simp [Dat.Le, Dat.addN, Dat.len]) ?_
  refine ite_none (by simp only [Dat.Big, Dat.len, Dat.seg, List.drop_zero, List.length_take, List.length_nil]; omega) ?_
  refine bnd_to (y := s) rfl ?_
  refine bind_to (slotRead_own B S H W s hB) ?_
  have hd := readS_data B S H W s
  have hr := ref09_Read_spec B S H W s hB
  generalize readS B S H W s = x at *
  obtain ⟨⟨i, f, d, u⟩, is, e⟩ := x
  dsimp only at hd ⊢
  have e1 : ref01_Same (s, s) = some true := by rw [ref01_Same_spec]; simp
  have e2 : ref09_Same ((i, f, d, ()), (i, f, d, ())) = some true := by rw [ref09_Same_spec, sameS_self]
  have fin : (Dat.join (σ := Bool) (fun k22 => (bif true then Dat.bind (ref01_Same (s, s)) fun (x23 : Bool) => k22 (Dat.pickB true x23 false) else k22 false)) fun (j24 : Bool) => some j24) = some true := by
    refine joinTo (fun j => j = true) (r := some true) (by rintro j rfl; rfl) ?_
    intro k hk
    rw [cond_true, e1, Dat.bind_some, Dat.pick_tt]
    exact hk _ rfl
  by_cases h0 : d.length = 0
  · refine iteP h0 ?_
    refine bind_to hr ?_
    refine joinTo (fun j => j = true) (r := some true) ?_ ?_
    · rintro j rfl
      exact spoil_nil d h0 true _ fin _
    · intro k hk
      rw [e2, Dat.bind_some, cond_true, show Dat.beq is is = true by simp [Dat.beq], Dat.pick_tt, cond_true, show Dat.ieq e e = true by simp [Dat.ieq], Dat.pick_tt]
      exact hk _ rfl
  · refine iteN h0 ?_
    refine bind_to hr ?_
    refine joinTo (fun j => j = true) (r := some true) ?_ ?_
    · rintro j rfl
      exact spoil_ok .u8 d.length d rfl (by omega) true _ fin
    · intro k hk
      have hle : Dat.Le (Dat.addN 0 (Dat.len d)) (Dat.len d) := by simp [Dat.Le, Dat.addN, Dat.len]
      have hsg : Dat.seg d 0 (Dat.len d) = d := by simp [Dat.seg, Dat.len]
      rw [if_pos hle, hsg, e2, Dat.bind_some, cond_true, show Dat.beq is is = true by simp [Dat.beq], Dat.pick_tt, cond_true, show Dat.ieq e e = true by simp [Dat.ieq], Dat.pick_tt]
      exact hk _ rfl

theorem law09_SlotReads_true (d : Els p_law09_SlotReads.args) (hf : Fits p_law09_SlotReads.args d) : law09_SlotReads d = some true := by
  obtain ⟨⟨B, S, H, W, _⟩, s⟩ := d
  obtain ⟨_, h1, h2⟩ := hf
  exact slotReads_any B S H W s fun n hn => fit_u8 (h2 n hn)
end Go.Proofs.Ytcdjnaacgbncdaa
