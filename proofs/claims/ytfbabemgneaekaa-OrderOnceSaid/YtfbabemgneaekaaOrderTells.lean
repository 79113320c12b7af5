/- OrderTells answers true. -/
import Derived.Test.YtfbabemgneaekaaTold5
namespace Go.Proofs.Ytfbabemgneaekaa
open Go.Eng
set_option linter.unusedVariables false
set_option linter.unusedSimpArgs false

theorem join_to {σ β : Type} (P : σ → Prop) {f : (σ → Option β) → Option β} {g : σ → Option β} {r : Option β} (hg : ∀ j, P j → g j = r) (hf : ∀ k, (∀ j, P j → k j = r) → f k = r) : Dat.join f g = r := hf g hg
theorem toldA_len (c : CfgT) (l : List UnT) : (cellsS c l).1.length < 1000000 ∧ ∀ x ∈ (cellsS c l).1, x.length < 1000000 := by
  unfold cellsS
  by_cases h : askS c l = 0
  · obtain ⟨hm, hl, hu⟩ := ask_ok h
    have hn := nLev_le hm
    rw [if_pos h]
    refine ⟨by simp; omega, ?_⟩
    intro x hx
    obtain ⟨lv, _, rfl⟩ := List.mem_map.1 hx
    rw [toldL_len]; omega
  · rw [if_neg h]; exact ⟨by simp, by simp⟩
theorem permA_len (c : CfgT) (l : List UnT) : (permA c l).1.length < 1000000 ∧ ∀ x ∈ (permA c l).1, x.length < 1000000 := by
  unfold permA
  by_cases h : askS c l = 0
  · obtain ⟨hm, hl, hu⟩ := ask_ok h
    have hn := nLev_le hm
    rw [if_pos h]
    refine ⟨by simp; omega, ?_⟩
    intro x hx
    obtain ⟨lv, _, rfl⟩ := List.mem_map.1 hx
    unfold permL
    rw [permS_len, toldL_len]; omega
  · rw [if_neg h]; exact ⟨by simp, by simp⟩
theorem ieq_self (x : Int) : Dat.ieq x x = true := by simp [Dat.ieq]

theorem orderTells_any (c : CfgT) (l : List UnT) : law21_OrderTells (c, l) = some true := by
  unfold law21_OrderTells
  simp only [eta c]
  obtain ⟨b1, h1, _⟩ := gU_some l 40 (by omega)
  obtain ⟨b2, h2, _⟩ := gU_some l 520 (by omega)
  refine join_to (fun _ => True) ?_ ?_
  · intro j _
    cases j
    · refine cond_f rfl ?_
      refine bind_to (order_Cells_spec c l) ?_
      refine bind_to (ref21_Cells_spec c l) ?_
      refine bind_to (order_Perm_spec c l) ?_
      refine bind_to (ref21_Perm_spec c l) ?_
      refine join_to (fun j => j = true) (fun j hj => by rw [hj]) ?_
      intro k hk
      refine bind_to (law21_sameAll_self _ (toldA_len c l).1 (toldA_len c l).2) ?_
      refine cond_t rfl ?_
      rw [ieq_self]
      refine cond_t rfl ?_
      refine bind_to (law21_sameAll_self _ (permA_len c l).1 (permA_len c l).2) ?_
      refine cond_t rfl ?_
      rw [ieq_self]
      exact hk _ rfl
    · rfl
  · intro k hk
    refine bind_to h1 ?_
    cases b1
    · exact hk _ trivial
    · refine cond_t rfl ?_
      cases Dat.ilt (Dat.ofN (Dat.len l)) 513
      · refine cond_f rfl ?_
        exact bind_to h2 (hk _ trivial)
      · exact hk _ trivial

theorem law21_OrderTells_true (d : Els p_law21_OrderTells.args) (hf : Fits p_law21_OrderTells.args d) : law21_OrderTells d = some true := orderTells_any d.1 d.2
end Go.Proofs.Ytfbabemgneaekaa
