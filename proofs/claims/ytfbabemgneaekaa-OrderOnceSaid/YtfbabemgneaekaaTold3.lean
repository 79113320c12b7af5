/- All cells that are told, and the orders. -/
import Derived.Test.YtfbabemgneaekaaTold2
namespace Go.Proofs.Ytfbabemgneaekaa
open Go.Eng
set_option linter.unusedVariables false
set_option linter.unusedSimpArgs false

noncomputable def toldL (c : CfgT) (l : List UnT) (lv : Nat) : List Int := (List.range l.length).map (cellT (ksU c l lv))
noncomputable def cellsS (c : CfgT) (l : List UnT) : List (List Int) × Int := if askS c l = 0 then ((List.range (nLev c)).map (toldL c l), 0) else ([], askS c l)
theorem ask_ok {c : CfgT} {l : List UnT} (h : askS c l = 0) : mayB c = true ∧ l.length ≤ 512 ∧ ∀ u ∈ l, unitOk c u = true := by
  unfold askS at h
  split at h
  · rename_i hm
    split at h
    · simp at h
    · rename_i hl
      split at h
      · rename_i hall
        exact ⟨hm, by omega, List.all_eq_true.1 hall⟩
      · simp at h
  · simp at h
theorem nLev_le {c : CfgT} (hm : mayB c = true) : nLev c ≤ 4 := (mayB_nums hm).2
theorem toldL_len (c : CfgT) (l : List UnT) (lv : Nat) : (toldL c l lv).length = l.length := by simp [toldL]

theorem order_Cells_spec (c : CfgT) (l : List UnT) : order_Cells (c, l) = some (cellsS c l) := by
  unfold order_Cells
  simp only [eta c]
  refine bind_to (order_asked_spec c l) ?_
  unfold cellsS
  by_cases h : askS c l = 0
  · rw [if_pos h, if_pos h]
    obtain ⟨hm, hl, hu⟩ := ask_ok h
    have hn := nLev_le hm
    refine cond_f rfl ?_
    dsimp only
    refine ite_some (mk_rows (n := nLev c) (by omega) 24 (by decide)) ?_
    have htn : Dat.toN (nLev c : Int) = nLev c := by simp [Dat.toN]
    rw [htn]
    refine loop_inv (fun s => ∃ i : Nat, i ≤ nLev c ∧ s = ((i : Int), flG [] (toldL c l) (nLev c) i)) (fun s => nLev c - s.1.toNat) ?_ ⟨0, by omega, by rw [flG_zero]; rfl⟩ (mu_lt _ _ (by omega))
    rintro s k ⟨i, hi, rfl⟩ hk
    dsimp only
    by_cases hlt : i < nLev c
    · refine cond_t (decide_eq_true (by simp only [Dat.ofN]; omega)) ?_
      refine bind_to (order_told_spec c l i hm hl hu hlt) ?_
      refine ite_some ⟨by omega, by omega⟩ ?_
      refine ite_some (by simp only [Dat.Lt, Dat.addN, Dat.toN, Dat.len, Int.toNat_natCast, flG_len]; omega) ?_
      refine bnd_to (y := flG [] (toldL c l) (nLev c) (i + 1)) (by simp only [Dat.set, Dat.addN, Dat.toN, Int.toNat_natCast, Nat.zero_add]; exact flG_set _ _ _ _ hlt) ?_
      refine bnd_to (wrapI (by simp only [Dat.add]; omega)) ?_
      exact hk _ ⟨i + 1, by omega, rfl⟩ (by show nLev c - ((i : Int) + 1).toNat < nLev c - ((i : Int)).toNat; omega)
    · obtain rfl : i = nLev c := by omega
      refine cond_f (decide_eq_false (by simp only [Dat.ofN]; omega)) ?_
      refine ite_some (by simp only [Dat.Le, Dat.addN, Dat.len, flG_len]; omega) ?_
      rw [flG_full]
      simp only [Dat.seg, List.drop_zero]
      rw [List.take_of_length_le (by simp)]
  · rw [if_neg h, if_neg h]
    exact cond_t (by simp only [Dat.ine, bne_iff_ne]; exact h) rfl

theorem ref21_Cells_spec (c : CfgT) (l : List UnT) : ref21_Cells (c, l) = some (cellsS c l) := by
  unfold ref21_Cells
  simp only [eta c]
  refine bind_to (ref21_asked_spec c l) ?_
  unfold cellsS
  by_cases h : askS c l = 0
  · rw [h, if_pos rfl]
    obtain ⟨hm, hl, hu⟩ := ask_ok h
    obtain ⟨N, _⟩ := mayB_nums hm
    have hn := nLev_le hm
    refine cond_f rfl ?_
    refine ite_some rfl ?_
    refine loop_inv (fun s => ∃ i : Nat, i ≤ nLev c ∧ s = ((List.range i).map (toldL c l), (i : Int))) (fun s => nLev c - s.2.toNat) ?_ ⟨0, by omega, rfl⟩ (mu_lt _ _ (by omega))
    rintro s k ⟨i, hi, rfl⟩ hk
    dsimp only
    refine bind_to (ref08_All_spec N) ?_
    by_cases hlt : i < nLev c
    · refine cond_t (decide_eq_true (by simp only [Dat.ofN, Dat.len, allS_n]; omega)) ?_
      refine ite_some rfl ?_
      refine loop_inv (fun s => ∃ t : Nat, t ≤ l.length ∧ s = ((List.range t).map (cellT (ksU c l i)), (t : Int))) (fun s => l.length - s.2.toNat) ?_ ⟨0, by omega, rfl⟩ (mu_lt _ _ (by omega))
      rintro s k2 ⟨t, ht, rfl⟩ hk2
      dsimp only
      by_cases htl : t < l.length
      · refine cond_t (decide_eq_true (by simp only [Dat.ofN, Dat.len]; omega)) ?_
        refine bind_to (ref21_Told_spec c l i t hm hl hu hlt htl) ?_
        refine ite_some (by simp [Dat.Le, Dat.addN, Dat.len]) ?_
        refine ite_none (by simp only [Dat.Big, Dat.len, Dat.seg, List.drop_zero, List.take_succ_cons, List.take_zero, List.length_cons, List.length_nil, List.length_map, List.length_range]; omega) ?_
        refine ite_some trivial ?_
        refine bnd_to (y := (List.range (t + 1)).map (cellT (ksU c l i))) (by simp only [Dat.app, Dat.seg, List.drop_zero, List.take_succ_cons, List.take_zero, List.range_succ, List.map_append, List.map_cons, List.map_nil]) ?_
        refine bnd_to (wrapI (by simp only [Dat.add]; omega)) ?_
        refine ite_some trivial ?_
        exact hk2 _ ⟨t + 1, by omega, rfl⟩ (by show l.length - ((t : Int) + 1).toNat < l.length - ((t : Int)).toNat; omega)
      · obtain rfl : t = l.length := by omega
        refine cond_f (decide_eq_false (by simp only [Dat.ofN, Dat.len]; omega)) ?_
        refine ite_some (by simp [Dat.Le, Dat.addN, Dat.len]) ?_
        refine ite_none (by simp only [Dat.Big, Dat.len, Dat.seg, List.drop_zero, List.take_succ_cons, List.take_zero, List.length_cons, List.length_nil, List.length_map, List.length_range]; omega) ?_
        refine ite_some trivial ?_
        refine bnd_to (y := (List.range (i + 1)).map (toldL c l)) (by simp only [Dat.app, Dat.seg, List.drop_zero, List.take_succ_cons, List.take_zero, List.range_succ, List.map_append, List.map_cons, List.map_nil]; rfl) ?_
        refine bnd_to (wrapI (by simp only [Dat.add]; omega)) ?_
        refine ite_some trivial ?_
        exact hk _ ⟨i + 1, by omega, rfl⟩ (by show nLev c - ((i : Int) + 1).toNat < nLev c - ((i : Int)).toNat; omega)
    · obtain rfl : i = nLev c := by omega
      refine cond_f (decide_eq_false (by simp only [Dat.ofN, Dat.len, allS_n]; omega)) ?_
      rfl
  · rw [if_neg h]
    exact cond_t (by simp only [Dat.ine, bne_iff_ne]; exact h) rfl

/-! ### Each cell once -/
theorem cell_cases (ks : Nat → Int) (t : Nat) : cellT ks t = 2 * (t : Int) + 1 ∨ ∃ i, lastI ks (ks t) t = some i ∧ ¬ ks t = -1 ∧ cellT ks t = 2 * (i : Int) := by
  unfold cellT
  split
  · exact .inl rfl
  · rename_i h
    cases hla : lastI ks (ks t) t with
    | none => exact .inl rfl
    | some i => exact .inr ⟨i, rfl, h, rfl⟩
theorem cell_range (ks : Nat → Int) {t n : Nat} (h : t < n) : 0 ≤ cellT ks t ∧ cellT ks t < 2 * (n : Int) := by
  rcases cell_cases ks t with e | ⟨i, hi, _, e⟩
  · rw [e]; omega
  · have := (lastI_lt hi).1
    rw [e]; omega
theorem cell_inj (ks : Nat → Int) {t s : Nat} (h : t < s) : cellT ks t ≠ cellT ks s := by
  intro e
  rcases cell_cases ks t with e1 | ⟨i, hi, _, e1⟩ <;> rcases cell_cases ks s with e2 | ⟨j, hj, _, e2⟩
  · rw [e1, e2] at e; omega
  · rw [e1, e2] at e; omega
  · rw [e1, e2] at e; omega
  · rw [e1, e2] at e
    have hij : i = j := by omega
    subst hij
    obtain ⟨a1, a2, a3⟩ := lastI_lt hi
    obtain ⟨b1, b2, b3⟩ := lastI_lt hj
    exact b3 t a1 h (by rw [← b2, a2])
theorem toldL_nodup (c : CfgT) (l : List UnT) (lv : Nat) : (toldL c l lv).Nodup := by
  unfold toldL
  rw [List.nodup_iff_pairwise_ne, List.pairwise_map]
  exact List.pairwise_lt_range.imp fun h => cell_inj _ h
theorem toldL_range (c : CfgT) (l : List UnT) (lv : Nat) : ∀ x ∈ toldL c l lv, 0 ≤ x ∧ x < 2 * (l.length : Int) := by
  intro x hx
  obtain ⟨t, ht, rfl⟩ := List.mem_map.1 hx
  exact cell_range _ (List.mem_range.1 ht)
end Go.Proofs.Ytfbabemgneaekaa
