/- BucketSlots answers true. -/
import Derived.Test.YthhjkmefpmmleaaBucket
import Derived.Test.YthhjkmefpmmleaaStep2
namespace Go.Proofs.Ythhjkmefpmmleaa
open Go.Eng
set_option linter.unusedVariables false
set_option linter.unusedSimpArgs false

def grS (l : List Blk) : Nat → Int
  | 0 => 0
  | n + 1 => Dat.wrap .i64 (Dat.add (grS l n) (Dat.imax false (Dat.ofN (Dat.len (l.getD n (0, 0, [], ())).2.2.1)) 1000))
theorem great_some (l : List Blk) (n : Int) : ∃ b, ref09_Great (l, n) = some b := by
  refine ⟨if Dat.igt (Dat.ofN (Dat.len l)) n = true then true else Dat.pickB false true (Dat.igt (grS l (min l.length 200)) 5000), ?_⟩
  unfold ref09_Great
  dsimp only
  have hend : ∀ g : Int, g = grS l (min l.length 200) → (bif Dat.igt (Dat.ofN (Dat.len l)) n then some true else some (Dat.pickB false true (Dat.igt g 5000))) = some (if Dat.igt (Dat.ofN (Dat.len l)) n = true then true else Dat.pickB false true (Dat.igt (grS l (min l.length 200)) 5000)) := by
    intro g hg
    subst hg
    cases Dat.igt (Dat.ofN (Dat.len l)) n <;> rfl
  refine loop_inv (fun (s : Int × Int) => ∃ i : Nat, i ≤ 200 ∧ i ≤ l.length ∧ s = (grS l i, (i : Int))) (fun s => 200 - s.2.toNat) ?_ ⟨0, by omega, by omega, rfl⟩ (mu_lt _ _ (by omega))
  rintro s k ⟨i, hi, hil, rfl⟩ hk
  dsimp only
  by_cases h1 : i < l.length
  · refine cond_t (decide_eq_true (by simp only [Dat.ofN, Dat.len]; omega)) ?_
    by_cases h2 : i < 200
    · have e200 : Dat.ilt (i : Int) 200 = true := decide_eq_true (by omega)
      refine cond_t (by rw [e200]; rfl) ?_
      refine ite_some ⟨by omega, by simp only [Dat.len]; omega⟩ ?_
      refine bnd_to (y := l.getD i (0, 0, [], ())) rfl ?_
      refine bnd_to rfl ?_
      refine bnd_to (wrapI (by simp only [Dat.add]; omega)) ?_
      exact hk _ ⟨i + 1, by omega, by omega, rfl⟩ (by show 200 - ((i : Int) + 1).toNat < 200 - ((i : Int)).toNat; omega)
    · have e200 : Dat.ilt (i : Int) 200 = false := decide_eq_false (by omega)
      refine cond_f (by rw [e200]; rfl) ?_
      exact hend _ (by rw [show min l.length 200 = i by omega])
  · refine cond_f (decide_eq_false (by simp only [Dat.ofN, Dat.len]; omega)) ?_
    exact hend _ (by rw [show min l.length 200 = i by omega])
theorem ref10G_some (l : List Blk) (L R : List Int) : ∃ b, ref10_Great (l, L, R, ()) = some b := by
  obtain ⟨b, hb⟩ := great_some l 10
  exact ⟨b, by unfold ref10_Great; dsimp only; exact bind_to hb rfl⟩
theorem alive10 : law10_alive () = some true := rfl

theorem bucketSlots_any (B S H W : Int) (l : List Blk) (L R : List Int) : law10_BucketSlots ((B, S, H, W, ()), (l, L, R, ())) = some true := by
  unfold law10_BucketSlots
  dsimp only
  refine bind_to alive10 ?_
  refine joinTo (fun _ => True) ?_ ?_
  · intro j _
    cases j
    · refine cond_f rfl ?_
      refine bind_to (bucket_Write_spec B S H W l _ _) ?_
      refine bind_to (slot_Slots_spec B S H W) ?_
      unfold writeB
      rcases bchk_two B S H W l with h0 | h8
      · rw [if_pos h0]
        obtain ⟨hs, hlen, hb, hnd⟩ := bchk_ok h0
        obtain ⟨l1, l2, l3, l4, l5, l6⟩ := lvl_iff.1 (slots_lvl hs)
        have hm4 := (many_le B S H W)
        have hns : noneS B S H W = (List.replicate (8 + S).toNat 0, 0) := by unfold noneS; rw [if_pos hs]
        refine cond_f rfl ?_
        refine ite_some rfl ?_
        generalize hmm : slotsS B S H W = mm at *
        obtain ⟨m, e⟩ := mm
        dsimp only at hs hlen hm4 ⊢
        subst hs
        refine loop_inv (fun (s : List Int × Int) => ∃ t : Nat, (t : Int) ≤ m ∧ s = (slotsL S l t, (t : Int))) (fun s => m.toNat - s.2.toNat) ?_ ⟨0, by omega, rfl⟩ (by show m.toNat - _ < _; omega)
        rintro s k ⟨t, ht, rfl⟩ hk
        dsimp only
        have hsl := slotsL_len h0 t
        have hsl2 : (slotsL S l t).length ≤ 1000 := by
          have : t * (8 + S).toNat ≤ 4 * 40 := Nat.mul_le_mul (by omega) (by omega)
          omega
        have hat := slotAt_len h0 t
        by_cases hlt : (t : Int) < m
        · have hk1 : k (slotsL S l (t + 1), (t : Int) + 1) = some true :=
            hk _ ⟨t + 1, by omega, rfl⟩ (by show m.toNat - ((t : Int) + 1).toNat < m.toNat - ((t : Int)).toNat; omega)
          refine cond_t (decide_eq_true hlt) ?_
          refine bind_to ((slot_None_spec B S H W).trans (congrArg some hns)) ?_
          by_cases hin : t < l.length
          · refine cond_t (decide_eq_true (by simp only [Dat.ofN, Dat.len]; omega)) ?_
            refine ite_some ⟨by omega, by simp only [Dat.len]; omega⟩ ?_
            refine bnd_to (bget l hin) ?_
            have hbt := hb _ (List.getElem_mem hin)
            have hsa : slotAt S l t = slotW l[t].1 l[t].2.1 l[t].2.2.1 := by unfold slotAt; rw [List.getElem?_eq_getElem hin]
            generalize l[t] = b at *
            obtain ⟨bi, bf, bd, _⟩ := b
            refine bind_to (slot_Write_spec B S H W bi bf bd) ?_
            unfold writeS
            rw [if_pos hbt]
            dsimp only at hsa ⊢
            rw [← hsa]
            refine cond_f rfl ?_
            try dsimp only
            refine app_one (by omega) (by omega) (slotsL_succ S l t).symm ?_
            refine bnd_to (wrapI (by simp only [Dat.add]; omega)) ?_
            exact ite_some (by trivial) hk1
          · refine cond_f (decide_eq_false (by simp only [Dat.ofN, Dat.len]; omega)) ?_
            have hsa : slotAt S l t = List.replicate (8 + S).toNat 0 := by unfold slotAt; rw [List.getElem?_eq_none (by omega)]
            rw [← hsa]
            refine cond_f rfl ?_
            try dsimp only
            refine app_one (by omega) (by omega) (slotsL_succ S l t).symm ?_
            refine bnd_to (wrapI (by simp only [Dat.add]; omega)) ?_
            exact ite_some (by trivial) hk1
        · obtain rfl : m = (t : Int) := by omega
          refine cond_f (decide_eq_false hlt) ?_
          refine app_one (y := slotsL S l t ++ arr32 L) (by omega) (by simp) rfl ?_
          refine app_one (y := slotsL S l t ++ arr32 L ++ arr32 R) (by rw [List.length_append, arr32_len]; omega) (by simp) rfl ?_
          refine joinTo (fun j => j = true) (fun j hj => by rw [hj]) ?_
          intro k2 hk2
          refine cond_t rfl ?_
          refine cond_t rfl ?_
          refine cond_t (by show Dat.ile (Dat.ofN (Dat.len l)) (t : Int) = true; exact decide_eq_true (by simp only [Dat.ofN, Dat.len]; omega)) ?_
          refine bind_to (ref01_Same_spec _ _) ?_
          exact hk2 _ (decide_eq_true rfl)
      · rw [if_neg (by omega), h8]
        exact cond_t rfl rfl
    · rfl
  · intro k hk
    obtain ⟨b, hb⟩ := ref10G_some l (arr32 L) (arr32 R)
    refine bind_to hb ?_
    cases b
    · exact hk _ trivial
    · exact hk _ trivial

theorem law10_BucketSlots_true (d : Els p_law10_BucketSlots.args) (hf : Fits p_law10_BucketSlots.args d) : law10_BucketSlots d = some true := by
  obtain ⟨⟨B, S, H, W, _⟩, ⟨l, L, R, _⟩⟩ := d
  exact bucketSlots_any B S H W l L R
end Go.Proofs.Ythhjkmefpmmleaa
