/- OrderBack answers true. -/
import Derived.Test.YtfbabemgneaekaaOrderTells
import Derived.Test.YtfbabemgneaekaaOrdnd
namespace Go.Proofs.Ytfbabemgneaekaa
open Go.Eng
set_option linter.unusedVariables false
set_option linter.unusedSimpArgs false

theorem undo_get {p : List Int} (c : List Int) (hP : p.Nodup ∧ ∀ x ∈ p, 0 ≤ x ∧ x < p.length) : ∀ i, i ≤ p.length → ∀ j, j < i → (undoN p c i).getD (p.getD j 0).toNat 0 = c.getD j 0
  | 0, _, j, h => by omega
  | i + 1, hi, j, h => by
    have hpi := hP.2 _ (getD_mem (show i < p.length by omega))
    unfold undoN
    by_cases e : j = i
    · subst e
      simp only [List.getD]
      rw [List.getElem?_set_self (by rw [undoN_len]; simp only [List.getD] at hpi; omega)]
      simp
    · have hne := getD_inj hP.1 (show j < i by omega) (show i < p.length by omega)
      have hpj := hP.2 _ (getD_mem (show j < p.length by omega))
      rw [← undo_get c hP i (by omega) j (by omega)]
      generalize p.getD i 0 = u at *
      generalize p.getD j 0 = v at *
      simp only [List.getD]
      rw [List.getElem?_set_ne (by omega)]
theorem app_undo {p c : List Int} (hP : p.Nodup ∧ ∀ x ∈ p, 0 ≤ x ∧ x < p.length) (hc : c.length = p.length) : appL p (undoN p c p.length) = c := by
  apply List.ext_getElem (by rw [appL_len, hc])
  intro i h1 h2
  have h3 := h1
  rw [appL_len] at h3
  have := undo_get c hP p.length (Nat.le_refl _) i h3
  rw [show c.getD i 0 = c[i] by simp [List.getD, h2]] at this
  rw [← this]
  have e : (appL p (undoN p c p.length))[i]? = some ((undoN p c p.length).getD (p.getD i 0).toNat 0) := by unfold appL; simp [List.getD, h3]
  rw [List.getElem?_eq_getElem h1] at e
  exact Option.some.inj e
theorem undo_app {p c : List Int} (hP : p.Nodup ∧ ∀ x ∈ p, 0 ≤ x ∧ x < p.length) (hi : isP p = true) (hc : c.length = p.length) : undoN p (appL p c) p.length = c := by
  apply List.ext_getElem (by rw [undoN_len, hc])
  intro y h1 h2
  have hy : (y : Int) ∈ p := (of_decide_eq_true hi) y (by simp; omega)
  obtain ⟨j, hj, he⟩ := List.getElem_of_mem hy
  have := undo_get (appL p c) hP p.length (Nat.le_refl _) j hj
  rw [show p.getD j 0 = (y : Int) by simp [List.getD, hj, he], show (appL p c).getD j 0 = c[y] by simp [List.getD, appL, hj, he, h2]] at this
  rw [← this]
  simp only [Int.toNat_natCast, List.getD]
  rw [List.getElem?_eq_getElem h1]; rfl

theorem ordS_ok {p c : List Int} (hn : p.length ≤ 1024) (hi : isP p = true) (hc : c.length = p.length) : ordS p c = 0 := by
  unfold ordS; rw [if_neg (by omega), if_pos ⟨hi, hc⟩]
theorem ordS_no {p c : List Int} (hn : p.length ≤ 1024) (hc : ¬ c.length = p.length) : ordS p c = 2 := by
  unfold ordS; rw [if_neg (by omega), if_neg (fun h => hc h.2)]
theorem apply_ok {p c : List Int} (hn : p.length ≤ 1024) (hi : isP p = true) (hc : c.length = p.length) : applyS p c = (appL p c, 0) := by
  unfold applyS
  rw [if_pos (ordS_ok hn hi hc)]
theorem undo_ok {p c : List Int} (hn : p.length ≤ 1024) (hi : isP p = true) (hc : c.length = p.length) : undoS p c = (undoN p c p.length, 0) := by
  unfold undoS
  rw [if_pos (ordS_ok hn hi hc)]
theorem apply_no {p c : List Int} (hn : p.length ≤ 1024) (hc : ¬ c.length = p.length) : applyS p c = ([], 2) := by
  unfold applyS
  rw [ordS_no hn hc]; rfl
theorem undo_no {p c : List Int} (hn : p.length ≤ 1024) (hc : ¬ c.length = p.length) : undoS p c = ([], 2) := by
  unfold undoS
  rw [ordS_no hn hc]; rfl

theorem orderBack_any (c : CfgT) (l : List UnT) (cs : List Int) : law21_OrderBack (c, l, cs) = some true := by
  have ha : law21_alive () = some true := rfl
  unfold law21_OrderBack
  simp only [eta c]
  refine bind_to ha ?_
  obtain ⟨b1, h1, hb⟩ := gU_some l 40 (by omega)
  refine join_to (fun j => j = true ∨ (l.length ≤ 40 ∧ cs.length ≤ 100)) ?_ ?_
  · intro j hj
    cases j
    · obtain ⟨hl, hcs⟩ : l.length ≤ 40 ∧ cs.length ≤ 100 := by simpa using hj
      refine cond_f rfl ?_
      refine bind_to (order_Perm_spec c l) ?_
      unfold permA
      by_cases h : askS c l = 0
      · rw [if_pos h]
        obtain ⟨hm, _, hu⟩ := ask_ok h
        have hn := nLev_le hm
        refine cond_f rfl ?_
        try dsimp only
        refine loop_inv (fun s => ∃ i : Nat, i ≤ nLev c ∧ s = (i : Int)) (fun s => nLev c - s.toNat) ?_ ⟨0, by omega, rfl⟩ (mu_lt _ _ (by omega))
        rintro s k ⟨i, hi, rfl⟩ hk
        try dsimp only
        by_cases hlt : i < nLev c
        · have hlen : Dat.len ((List.range (nLev c)).map (permL c l)) = nLev c := by simp [Dat.len]
          have hpl : (permL c l i).length = 2 * l.length := by unfold permL; rw [permS_len, toldL_len]
          have hP : isP (permL c l i) = true := permS_isP (toldL_tl c l i)
          have hQ := isP_iff.1 hP
          have hg := get_map (permL c l) hlt
          generalize permL c l i = p at *
          have hk1 : k ((i : Int) + 1) = some true := hk _ ⟨i + 1, by omega, rfl⟩ (by show nLev c - ((i : Int) + 1).toNat < nLev c - ((i : Int)).toNat; omega)
          have hw : Dat.wrap .i64 (Dat.add (i : Int) 1) = (i : Int) + 1 := wrapI (by simp only [Dat.add]; omega)
          refine cond_t (decide_eq_true (by simp only [Dat.ofN, hlen]; omega)) ?_
          refine ite_some ⟨by omega, by rw [hlen]; omega⟩ ?_
          refine bnd_to hg ?_
          refine bind_to (order_Apply_spec p cs) ?_
          refine ite_some ⟨by omega, by rw [hlen]; omega⟩ ?_
          refine bnd_to hg ?_
          refine bind_to (order_Undo_spec p _) ?_
          refine ite_some ⟨by omega, by rw [hlen]; omega⟩ ?_
          refine bnd_to hg ?_
          refine bind_to (order_Undo_spec p cs) ?_
          refine ite_some ⟨by omega, by rw [hlen]; omega⟩ ?_
          refine bnd_to hg ?_
          refine bind_to (order_Apply_spec p _) ?_
          refine bnd_to (y := ((2 * l.length : Nat) : Int)) (by rw [wrapI] <;> simp only [Dat.mul, Dat.ofN, Dat.len] <;> omega) ?_
          by_cases hc : cs.length = p.length
          · refine cond_f (by simp only [Dat.ine, Dat.ofN, Dat.len, bne_eq_false_iff_eq]; omega) ?_
            rw [apply_ok (by omega) hP hc, undo_ok (by omega) hP hc]
            try dsimp only
            rw [undo_ok (by omega) hP (by rw [appL_len]), apply_ok (by omega) hP (by rw [undoN_len]), undo_app hQ hP hc, app_undo hQ hc]
            refine join_to (fun j => j = false) ?_ ?_
            · intro j hj
              subst hj
              refine cond_f rfl ?_
              exact bnd_to hw hk1
            · intro k2 hk2
              refine cond_f rfl ?_
              refine cond_f rfl ?_
              refine cond_f rfl ?_
              refine cond_f rfl ?_
              refine bind_to (ref21_SameCells_self cs (by omega)) ?_
              refine cond_f rfl ?_
              refine bind_to (ref21_SameCells_self cs (by omega)) ?_
              exact hk2 _ rfl
          · refine cond_t (by simp only [Dat.ine, Dat.ofN, Dat.len, bne_iff_ne]; omega) ?_
            rw [apply_no (by omega) hc, undo_no (by omega) hc]
            refine join_to (fun j => j = false) ?_ ?_
            · intro j hj
              subst hj
              refine cond_f rfl ?_
              exact bnd_to hw hk1
            · intro k2 hk2
              refine cond_f rfl ?_
              exact hk2 _ rfl
        · refine cond_f (decide_eq_false (by simp only [Dat.ofN, Dat.len, List.length_map, List.length_range]; omega)) ?_
          rfl
      · rw [if_neg h]
        exact cond_t (by simp only [Dat.ine, bne_iff_ne]; exact h) rfl
    · rfl
  · intro k hk
    refine bind_to h1 ?_
    cases b1
    · refine cond_f rfl ?_
      by_cases hc : cs.length > 100
      · refine cond_t ?_ (hk _ (.inl rfl))
        show Dat.igt (Dat.ofN (Dat.len cs)) 100 = true
        exact decide_eq_true (by simp only [Dat.ofN, Dat.len]; omega)
      · refine cond_f ?_ (hk _ (.inr ⟨hb rfl, by omega⟩))
        show Dat.igt (Dat.ofN (Dat.len cs)) 100 = false
        exact decide_eq_false (by simp only [Dat.ofN, Dat.len]; omega)
    · exact hk _ (.inl rfl)

theorem law21_OrderBack_true (d : Els p_law21_OrderBack.args) (hf : Fits p_law21_OrderBack.args d) : law21_OrderBack d = some true := orderBack_any d.1 d.2.1 d.2.2
end Go.Proofs.Ytfbabemgneaekaa
