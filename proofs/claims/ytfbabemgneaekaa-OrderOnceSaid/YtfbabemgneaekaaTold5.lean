/- All orders. -/
import Derived.Test.YtfbabemgneaekaaTold4
import Derived.Test.YtfbabemgneaekaaOrder
import Derived.Test.YtfbabemgneaekaaSameInts
namespace Go.Proofs.Ytfbabemgneaekaa
open Go.Eng
set_option linter.unusedVariables false
set_option linter.unusedSimpArgs false

noncomputable def permL (c : CfgT) (l : List UnT) (lv : Nat) : List Int := permS (toldL c l lv)
noncomputable def permA (c : CfgT) (l : List UnT) : List (List Int) × Int := if askS c l = 0 then ((List.range (nLev c)).map (permL c l), 0) else ([], askS c l)
theorem get_map (f : Nat → List Int) {n i : Nat} (h : i < n) : Dat.get ((List.range n).map f) (Dat.toN (i : Int)) [] = f i := by simp [Dat.get, Dat.toN, List.getD, h]

theorem order_Perm_spec (c : CfgT) (l : List UnT) : order_Perm (c, l) = some (permA c l) := by
  unfold order_Perm
  simp only [eta c]
  refine bind_to (order_Cells_spec c l) ?_
  unfold permA cellsS
  by_cases h : askS c l = 0
  · rw [if_pos h, if_pos h]
    obtain ⟨hm, hl, hu⟩ := ask_ok h
    have hn := nLev_le hm
    refine cond_f rfl ?_
    dsimp only
    rw [show Dat.ofN (Dat.len ((List.range (nLev c)).map (toldL c l))) = ((nLev c : Nat) : Int) by simp [Dat.ofN, Dat.len]]
    refine ite_some (mk_rows (n := nLev c) (by omega) 24 (by decide)) ?_
    have htn : Dat.toN (nLev c : Int) = nLev c := by simp only [Dat.toN]; omega
    rw [htn]
    refine loop_inv (fun s => ∃ i : Nat, i ≤ nLev c ∧ s = ((i : Int), flG [] (permL c l) (nLev c) i)) (fun s => nLev c - s.1.toNat) ?_ ⟨0, by omega, by rw [flG_zero]; rfl⟩ (mu_lt _ _ (by omega))
    rintro s k ⟨i, hi, rfl⟩ hk
    dsimp only
    by_cases hlt : i < nLev c
    · refine cond_t (decide_eq_true (by simp only [Dat.ofN]; omega)) ?_
      refine ite_some ⟨by omega, by simp only [Dat.len, List.length_map, List.length_range]; omega⟩ ?_
      refine bnd_to (get_map _ hlt) ?_
      refine bind_to (order_Perm_1_spec _ (by rw [toldL_len]; exact hl) (toldL_nodup c l i) (by rw [toldL_len]; exact toldL_range c l i)) ?_
      refine ite_some ⟨by omega, by omega⟩ ?_
      refine ite_some (by simp only [Dat.Lt, Dat.addN, Dat.toN, Dat.len, Int.toNat_natCast, flG_len]; omega) ?_
      refine bnd_to (y := flG [] (permL c l) (nLev c) (i + 1)) (by simp only [Dat.set, Dat.addN, Dat.toN, Int.toNat_natCast, Nat.zero_add]; exact flG_set _ _ _ _ hlt) ?_
      refine bnd_to (wrapI (by simp only [Dat.add]; omega)) ?_
      exact hk _ ⟨i + 1, by omega, rfl⟩ (by show nLev c - ((i : Int) + 1).toNat < nLev c - ((i : Int)).toNat; omega)
    · obtain rfl : i = nLev c := by omega
      refine cond_f (decide_eq_false (by simp only [Dat.ofN]; omega)) ?_
      refine ite_some (by simp only [Dat.Le, Dat.addN, Dat.len, flG_len]; omega) ?_
      rw [flG_full]
      simp only [Dat.seg, List.drop_zero]
      rw [List.take_of_length_le (by simp)]
  · rw [if_neg h, if_neg h]
    exact cond_t (by simp only [Dat.ine, bne_iff_ne]; exact h) rfl

theorem permF_even (a r : List Int) (t : Nat) : permF a r (2 * t) = a.getD t 0 := by
  unfold permF; rw [if_pos (by omega), show 2 * t / 2 = t by omega]
theorem permF_odd (a r : List Int) (t : Nat) : permF a r (2 * t + 1) = r.getD t 0 := by
  unfold permF; rw [if_neg (by omega), show (2 * t + 1) / 2 = t by omega]

theorem ref21_Perm_spec (c : CfgT) (l : List UnT) : ref21_Perm (c, l) = some (permA c l) := by
  unfold ref21_Perm
  simp only [eta c]
  refine bind_to (ref21_Cells_spec c l) ?_
  unfold permA cellsS
  by_cases h : askS c l = 0
  · rw [if_pos h, if_pos h]
    obtain ⟨hm, hl, hu⟩ := ask_ok h
    have hn := nLev_le hm
    refine cond_f rfl ?_
    dsimp only
    refine ite_some (by trivial) ?_
    refine loop_inv (fun s => ∃ i : Nat, i ≤ nLev c ∧ s = ((List.range i).map (permL c l), (i : Int))) (fun s => nLev c - s.2.toNat) ?_ ⟨0, by omega, rfl⟩ (mu_lt _ _ (by omega))
    rintro s k ⟨i, hi, rfl⟩ hk
    dsimp only
    by_cases hlt : i < nLev c
    · refine cond_t (decide_eq_true (by simp only [Dat.ofN, Dat.len, List.length_map, List.length_range]; omega)) ?_
      refine ite_some (by trivial) ?_
      have hal := toldL_len c l i
      generalize hA : toldL c l i = a at hal
      have hnd : a.Nodup := hA ▸ toldL_nodup c l i
      have hrg : ∀ x ∈ a, 0 ≤ x ∧ x < 2 * (l.length : Int) := hA ▸ toldL_range c l i
      have hrl : (restN a (2 * l.length)).length = l.length := by
        have := restN_len (n := 2 * l.length) hnd (fun x hx => by have := hrg x hx; omega)
        omega
      refine loop_inv (fun s => ∃ n : Nat, n ≤ 2 * l.length ∧ s = (restN a n, (n : Int))) (fun s => 2 * l.length - s.2.toNat) ?_ ⟨0, by omega, rfl⟩ (mu_lt _ _ (by omega))
      rintro s k2 ⟨n, hn2, rfl⟩ hk2
      dsimp only
      refine bnd_to (y := ((2 * l.length : Nat) : Int)) (by rw [wrapI] <;> simp only [Dat.mul, Dat.ofN, Dat.len] <;> omega) ?_
      by_cases hnl : n < 2 * l.length
      · refine cond_t (decide_eq_true (by omega)) ?_
        refine ite_some ⟨by omega, by simp only [Dat.len, List.length_map, List.length_range]; omega⟩ ?_
        refine bnd_to ((get_map _ hlt).trans hA) ?_
        refine bind_to (ref21_among_spec _ _ (by omega)) ?_
        by_cases hin : (n : Int) ∈ a
        · rw [decide_eq_true hin]
          refine cond_f rfl ?_
          refine bnd_to (wrapI (by simp only [Dat.add]; omega)) ?_
          refine ite_some (by trivial) ?_
          refine hk2 _ ⟨n + 1, by omega, ?_⟩ (by show 2 * l.length - ((n : Int) + 1).toNat < 2 * l.length - ((n : Int)).toNat; omega)
          rw [restN_succ, if_pos hin, List.append_nil]; rfl
        · rw [decide_eq_false hin]
          have hrn : (restN a n).length ≤ n := by
            unfold restN
            exact Nat.le_trans (List.length_filter_le ..) (by rw [nums_len]; exact Nat.le_refl _)
          refine cond_t rfl ?_
          refine ite_some (by simp [Dat.Le, Dat.addN, Dat.len]) ?_
          refine ite_none (by simp only [Dat.Big, Dat.len, Dat.seg, List.drop_zero, List.take_succ_cons, List.take_zero, List.length_cons, List.length_nil]; omega) ?_
          refine ite_some (by trivial) ?_
          refine bnd_to (y := restN a (n + 1)) (by rw [restN_succ, if_neg hin]; rfl) ?_
          refine bnd_to (wrapI (by simp only [Dat.add]; omega)) ?_
          refine ite_some (by trivial) ?_
          exact hk2 _ ⟨n + 1, by omega, rfl⟩ (by show 2 * l.length - ((n : Int) + 1).toNat < 2 * l.length - ((n : Int)).toNat; omega)
      · obtain rfl : n = 2 * l.length := by omega
        refine cond_f (decide_eq_false (by omega)) ?_
        refine ite_some (by trivial) ?_
        generalize hR : restN a (2 * l.length) = r at hrl
        refine loop_inv (fun s => ∃ t : Nat, t ≤ l.length ∧ s = ((List.range (2 * t)).map (permF a r), (t : Int))) (fun s => l.length - s.2.toNat) ?_ ⟨0, by omega, rfl⟩ (mu_lt _ _ (by omega))
        rintro s k3 ⟨t, ht, rfl⟩ hk3
        dsimp only
        by_cases htl : t < l.length
        · refine cond_t (decide_eq_true (by simp only [Dat.ofN, Dat.len]; omega)) ?_
          refine ite_some ⟨by omega, by simp only [Dat.len, List.length_map, List.length_range]; omega⟩ ?_
          refine bnd_to ((get_map _ hlt).trans hA) ?_
          refine ite_some ⟨by omega, by simp only [Dat.len]; omega⟩ ?_
          refine bnd_to (y := a.getD t 0) rfl ?_
          refine ite_some ⟨by omega, by simp only [Dat.len]; omega⟩ ?_
          refine bnd_to (y := r.getD t 0) rfl ?_
          refine ite_some (by simp [Dat.Le, Dat.addN, Dat.len]) ?_
          refine ite_none (by simp only [Dat.Big, Dat.len, Dat.seg, List.drop_zero, List.take_succ_cons, List.take_zero, List.length_cons, List.length_nil, List.length_map, List.length_range]; omega) ?_
          refine ite_some (by trivial) ?_
          refine bnd_to (y := (List.range (2 * (t + 1))).map (permF a r)) (by
            rw [show 2 * (t + 1) = 2 * t + 1 + 1 by omega, List.range_succ, List.range_succ]
            simp only [List.map_append, List.map_cons, List.map_nil, permF_even, permF_odd, Dat.app, Dat.seg, List.drop_zero, List.take_succ_cons, List.take_zero, List.append_assoc, List.cons_append, List.nil_append]) ?_
          refine bnd_to (wrapI (by simp only [Dat.add]; omega)) ?_
          refine ite_some (by trivial) ?_
          exact hk3 _ ⟨t + 1, by omega, rfl⟩ (by show l.length - ((t : Int) + 1).toNat < l.length - ((t : Int)).toNat; omega)
        · obtain rfl : t = l.length := by omega
          refine cond_f (decide_eq_false (by simp only [Dat.ofN, Dat.len]; omega)) ?_
          refine ite_some (by simp [Dat.Le, Dat.addN, Dat.len]) ?_
          refine ite_none (by simp only [Dat.Big, Dat.len, Dat.seg, List.drop_zero, List.take_succ_cons, List.take_zero, List.length_cons, List.length_nil, List.length_map, List.length_range]; omega) ?_
          refine ite_some (by trivial) ?_
          refine bnd_to (y := (List.range (i + 1)).map (permL c l)) (by
            have hp : (List.range (2 * l.length)).map (permF a r) = permL c l i := by
              unfold permL permS
              rw [hA, hal, hR]
            rw [hp]
            simp only [Dat.app, Dat.seg, List.drop_zero, List.take_succ_cons, List.take_zero, List.range_succ, List.map_append, List.map_cons, List.map_nil]) ?_
          refine bnd_to (wrapI (by simp only [Dat.add]; omega)) ?_
          refine ite_some (by trivial) ?_
          exact hk _ ⟨i + 1, by omega, rfl⟩ (by show nLev c - ((i : Int) + 1).toNat < nLev c - ((i : Int)).toNat; omega)
    · obtain rfl : i = nLev c := by omega
      refine cond_f (decide_eq_false (by simp only [Dat.ofN, Dat.len, List.length_map, List.length_range]; omega)) ?_
      rfl
  · rw [if_neg h, if_neg h]
    exact cond_t (by simp only [Dat.ine, bne_iff_ne]; exact h) rfl

theorem law21_sameAll_self (a : List (List Int)) (h : a.length < 1000000) (hr : ∀ x ∈ a, x.length < 1000000) : law21_sameAll (a, a) = some true := by
  unfold law21_sameAll
  dsimp only
  refine cond_f (by simp [Dat.ine]) ?_
  refine loop_inv (fun (s : Int) => ∃ i : Nat, s = i ∧ i ≤ a.length) (fun s => a.length - s.toNat) ?_ ⟨0, rfl, Nat.zero_le _⟩ (mu_lt _ _ (by omega))
  rintro d k ⟨i, rfl, hi⟩ hk
  by_cases h1 : i < a.length
  · have hg : Dat.get a (Dat.toN (i : Int)) [] = a[i] := by simp [Dat.get, Dat.toN, List.getD, h1]
    refine cond_t (decide_eq_true (by simp only [Dat.ofN, Dat.len]; omega)) ?_
    refine ite_some ⟨by omega, by simp only [Dat.len]; omega⟩ ?_
    refine bnd_to hg ?_
    refine ite_some ⟨by omega, by simp only [Dat.len]; omega⟩ ?_
    refine bnd_to hg ?_
    refine bind_to (ref01_SameInts_self _ (by have := hr _ (List.getElem_mem h1); omega)) ?_
    refine cond_f rfl ?_
    refine bnd_to (wrapI (by simp only [Dat.add]; omega)) ?_
    exact hk _ ⟨i + 1, by simp, h1⟩ (by show a.length - ((i : Int) + 1).toNat < a.length - ((i : Int)).toNat; omega)
  · exact cond_f (decide_eq_false (by simp only [Dat.ofN, Dat.len]; omega)) rfl

theorem gU_some (l : List UnT) (m : Nat) (hm : m < 1000) : ∃ b, ref21_GreatUnits (l, (m : Int)) = some b ∧ (b = false → l.length ≤ m) := by
  have hend : ∃ b, some (Dat.igt (Dat.ofN (Dat.len l)) (m : Int)) = some b ∧ (b = false → l.length ≤ m) := ⟨_, rfl, fun h => by simp [Dat.igt] at h; omega⟩
  let P : Option Bool → Prop := fun r => ∃ b, r = some b ∧ (b = false → l.length ≤ m)
  by_cases hx : ∃ i, i < m ∧ i < l.length ∧ ((l.getD i (0, 0, 0, [], ())).2.2.2.1.length > 100)
  · refine ⟨true, ?_, by simp⟩
    obtain ⟨j, hj1, hj2, hj3⟩ := hx
    unfold ref21_GreatUnits
    dsimp only
    refine loop_inv (fun (s : Int) => ∃ i : Nat, s = i ∧ i ≤ j) (fun s => j - s.toNat) ?_ ⟨0, rfl, Nat.zero_le _⟩ (mu_lt _ _ (by omega))
    rintro d k ⟨i, rfl, hi⟩ hk
    refine cond_t (decide_eq_true (by simp only [Dat.ofN, Dat.len]; omega)) ?_
    refine cond_t (by show Dat.ilt (i : Int) (m : Int) = true; exact decide_eq_true (by omega)) ?_
    refine ite_some ⟨by omega, by simp only [Dat.len]; omega⟩ ?_
    refine bnd_to (y := l.getD i (0, 0, 0, [], ())) rfl ?_
    by_cases hi3 : (l.getD i (0, 0, 0, [], ())).2.2.2.1.length > 100
    · exact cond_t (decide_eq_true (by simp only [Dat.ofN, Dat.len]; omega)) rfl
    · refine cond_f (decide_eq_false (by simp only [Dat.ofN, Dat.len]; omega)) ?_
      refine bnd_to (wrapI (by simp only [Dat.add]; omega)) ?_
      have : i ≠ j := fun e => hi3 (e ▸ hj3)
      exact hk _ ⟨i + 1, by simp, by omega⟩ (by show j - ((i : Int) + 1).toNat < j - ((i : Int)).toNat; omega)
  · refine ⟨_, ?_, hend.choose_spec.2⟩
    rw [← hend.choose_spec.1]
    unfold ref21_GreatUnits
    dsimp only
    refine loop_inv (fun (s : Int) => ∃ i : Nat, s = i ∧ i ≤ m ∧ i ≤ l.length) (fun s => m - s.toNat) ?_ ⟨0, rfl, Nat.zero_le _, Nat.zero_le _⟩ (mu_lt _ _ (by omega))
    rintro d k ⟨i, rfl, hi, hil⟩ hk
    by_cases h1 : i < l.length
    · refine cond_t (decide_eq_true (by simp only [Dat.ofN, Dat.len]; omega)) ?_
      by_cases h2 : i < m
      · refine cond_t (by show Dat.ilt (i : Int) (m : Int) = true; exact decide_eq_true (by omega)) ?_
        refine ite_some ⟨by omega, by simp only [Dat.len]; omega⟩ ?_
        refine bnd_to (y := l.getD i (0, 0, 0, [], ())) rfl ?_
        have hi3 : ¬ (l.getD i (0, 0, 0, [], ())).2.2.2.1.length > 100 := fun e => hx ⟨i, h2, h1, e⟩
        refine cond_f (decide_eq_false (by simp only [Dat.ofN, Dat.len]; omega)) ?_
        refine bnd_to (wrapI (by simp only [Dat.add]; omega)) ?_
        exact hk _ ⟨i + 1, by simp, by omega, by omega⟩ (by show m - ((i : Int) + 1).toNat < m - ((i : Int)).toNat; omega)
      · exact cond_f (by show Dat.ilt (i : Int) (m : Int) = false; exact decide_eq_false (by omega)) rfl
    · exact cond_f (decide_eq_false (by simp only [Dat.ofN, Dat.len]; omega)) rfl
end Go.Proofs.Ytfbabemgneaekaa
