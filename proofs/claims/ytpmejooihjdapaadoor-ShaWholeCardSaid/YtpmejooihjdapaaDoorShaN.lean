/- How bytes are parted counts for nothing. -/
import Derived.Test.YtpmejooihjdapaaDoorShaM
namespace Go.Proofs.YtpmejooihjdapaaDoor
open Go.Eng
set_option linter.unusedVariables false
set_option linter.unusedSimpArgs false

theorem shaWhole_any (a b : List Int) : law02_ShaWhole (a, b) = some true := by
  unfold law02_ShaWhole
  simp only [Dat.join_eq]
  refine bind_to alive02 ?_
  by_cases ha : a.length > 500
  · exact cond_t (decide_eq_true (by simp only [Dat.ofN, Dat.len]; omega)) (cond_t rfl rfl)
  refine cond_f (decide_eq_false (by simp only [Dat.ofN, Dat.len]; omega)) ?_
  by_cases hb : b.length > 500
  · exact cond_t (by rw [pk_f]; exact decide_eq_true (by simp only [Dat.ofN, Dat.len]; omega)) (cond_t rfl rfl)
  refine cond_f (by rw [pk_f]; exact decide_eq_false (by simp only [Dat.ofN, Dat.len]; omega)) ?_
  refine cond_f rfl ?_
  refine bind_to sha_Begin_spec ?_
  dsimp only
  rw [eight (map_len W0_len)]
  have e1 := sha_More_spec W0 [] a 0 W0_len (by simp) (by omega) (by omega)
  have m1 : moreS W0 [] 0 a = (((eat W0 a (a.length / 64)).map ofW, (a.drop (64 * (a.length / 64)), ((a.length : Int), ()))), 0) := by
    unfold moreS
    rw [show chk [] 0 = 0 from rfl, if_pos rfl, if_neg (by omega), List.nil_append, Int.zero_add]
  rw [m1] at e1
  refine bind_to e1 ?_
  have hV := eat_len W0 a W0_len (a.length / 64)
  dsimp only
  rw [eight (map_len hV)]
  have e2 := sha_More_spec (eat W0 a (a.length / 64)) (a.drop (64 * (a.length / 64))) b a.length hV (by simp; omega) (by omega) (by omega)
  have c1 : chk (a.drop (64 * (a.length / 64))) a.length = 0 := by rw [chk, if_pos ⟨by omega, by simp; omega⟩]
  have m2 : moreS (eat W0 a (a.length / 64)) (a.drop (64 * (a.length / 64))) a.length b = (((eat W0 (a ++ b) ((a ++ b).length / 64)).map ofW, ((a ++ b).drop (64 * ((a ++ b).length / 64)), (((a ++ b).length : Int), ()))), 0) := by
    unfold moreS
    rw [c1, if_pos rfl, if_neg (by omega), (eat_more W0 a b).1, (eat_more W0 a b).2, List.length_append, Int.natCast_add]
  rw [m2] at e2
  refine bind_to e2 ?_
  have hl : (a ++ b).length = a.length + b.length := List.length_append
  have hdg : digS (a ++ b) = toldW (fin (eat W0 (a ++ b) ((a ++ b).length / 64)) ((a ++ b).drop (64 * ((a ++ b).length / 64))) (a ++ b).length) := rfl
  have hX := eat_len W0 (a ++ b) W0_len ((a ++ b).length / 64)
  dsimp only
  rw [eight (map_len hX)]
  have c2 : chk ((a ++ b).drop (64 * ((a ++ b).length / 64))) (a ++ b).length = 0 := by rw [chk, if_pos ⟨by omega, by rw [List.length_drop]; omega⟩]
  have e3 := sha_End_spec (eat W0 (a ++ b) ((a ++ b).length / 64)) ((a ++ b).drop (64 * ((a ++ b).length / 64))) (a ++ b).length hX (by rw [List.length_drop]; omega) (by omega)
  rw [endS, c2, if_pos rfl, ← hdg] at e3
  refine bind_to e3 ?_
  refine ite_some (by decide) ?_
  refine cond_t rfl ?_
  refine cond_t (by rw [pk_t]; exact ieq_self _) ?_
  refine cond_t (by rw [pk_t]; exact ieq_self _) ?_
  refine cond_t (by rw [pk_t]; exact ieq_self _) ?_
  dsimp only
  rw [norm_same (digS_len _)]
  refine ite_some (digS_len _) ?_
  refine ite_some (by simp [Dat.Le, Dat.addN, Dat.len]) ?_
  have e4 := sha_Of_spec [a, b] (by simp) (by intro x hx; simp at hx; rcases hx with rfl | rfl <;> omega)
  rw [show ([a, b] : List (List Int)).flatten = a ++ b by simp] at e4
  refine bind_to e4 ?_
  refine cond_t (by rw [pk_t]; exact lq_self _ _) ?_
  refine ite_some (digS_len _) ?_
  refine ite_some (by decide) ?_
  refine ite_none (by simp only [Dat.Big, Dat.len, Dat.seg, List.drop_nil, List.take_nil, List.length_nil]; omega) ?_
  refine bnd_to (y := a) (by simp [Dat.app, Dat.seg]) ?_
  refine ite_none (by simp only [Dat.Big, Dat.len]; omega) ?_
  refine ite_some trivial ?_
  refine bnd_to (y := a ++ b) rfl ?_
  have e5 := sha_Of_spec [a ++ b] (by simp) (by intro x hx; simp only [List.mem_singleton] at hx; subst hx; omega)
  rw [show ([a ++ b] : List (List Int)).flatten = a ++ b by simp] at e5
  refine bind_to e5 ?_
  refine cond_t (by rw [pk_t]; exact lq_self _ _) ?_
  refine bnd_to (wrapI (by simp only [Dat.add, Dat.ofN, Dat.len]; omega)) ?_
  refine bnd_to (wrapU (by simp only [Dat.add, Dat.ofN, Dat.len]; omega)) ?_
  rw [pk_t, show Dat.ieq _ _ = true from by
    simp only [Dat.ieq, Dat.add, Dat.ofN, Dat.len, hl]; simp]

theorem law02_ShaWhole_true (d : Els p_law02_ShaWhole.args) (hf : Fits p_law02_ShaWhole.args d) : law02_ShaWhole d = some true := by
  obtain ⟨a, b⟩ := d
  exact shaWhole_any a b

theorem shaParts_any (W : List W32) (r a b : List Int) (m : Int) (hW : W.length = 8) (hm : 0 ≤ m ∧ m < 18446744073709551616) : law02_ShaParts ((W.map ofW, (r, (m, ()))), (a, b)) = some true := by
  have h8 := map_len hW
  unfold law02_ShaParts
  simp only [Dat.join_eq]
  rw [eight h8]
  refine bind_to alive02 ?_
  by_cases hr : r.length > 500
  · exact cond_t (decide_eq_true (by simp only [Dat.ofN, Dat.len]; omega)) (cond_t rfl rfl)
  refine cond_f (decide_eq_false (by simp only [Dat.ofN, Dat.len]; omega)) ?_
  by_cases ha : a.length > 500
  · exact cond_t (by rw [pk_f]; exact decide_eq_true (by simp only [Dat.ofN, Dat.len]; omega)) (cond_t rfl rfl)
  refine cond_f (by rw [pk_f]; exact decide_eq_false (by simp only [Dat.ofN, Dat.len]; omega)) ?_
  by_cases hb : b.length > 500
  · exact cond_t (by rw [pk_f]; exact decide_eq_true (by simp only [Dat.ofN, Dat.len]; omega)) (cond_t rfl rfl)
  refine cond_f (by rw [pk_f]; exact decide_eq_false (by simp only [Dat.ofN, Dat.len]; omega)) ?_
  refine cond_f rfl ?_
  have hab : (a ++ b).length = a.length + b.length := List.length_append
  have eX := sha_More_spec W r a m hW (by omega) (by omega) hm
  have eZ := sha_More_spec W r (a ++ b) m hW (by omega) (by omega) hm
  have eC := sha_Check_spec (W.map ofW) r m hm.1 (by omega)
  -- what is under way may not be, or too much comes at first
  have bad : ∀ c : Int, c ≠ 0 → (moreS W r m a).2 = c → (c = chk r m ∨ c = 4) → (moreS W r m (a ++ b)).2 ≠ 0 → law02_ShaParts ((W.map ofW, (r, (m, ()))), (a, b)) = some true := by
    intro c hc0 hc hcc hz
    unfold law02_ShaParts
    simp only [Dat.join_eq]
    rw [eight h8]
    refine bind_to alive02 ?_
    refine cond_f (decide_eq_false (by simp only [Dat.ofN, Dat.len]; omega)) ?_
    refine cond_f (by rw [pk_f]; exact decide_eq_false (by simp only [Dat.ofN, Dat.len]; omega)) ?_
    refine cond_f (by rw [pk_f]; exact decide_eq_false (by simp only [Dat.ofN, Dat.len]; omega)) ?_
    refine cond_f rfl ?_
    refine bind_to eX ?_
    obtain ⟨V, q, n, e, hS, hV, hq, _, hn1, hn2⟩ := moreS_shape W r m a hW hm (by omega) (by omega)
    rw [hS] at hc ⊢
    subst hc
    dsimp only at hc0 hcc ⊢
    rw [eight (map_len hV)]
    refine bind_to (sha_More_spec V q b n hV (by omega) (by omega) ⟨hn1, hn2⟩) ?_
    refine ite_some (by decide) ?_
    refine ite_none (by simp only [Dat.Big, Dat.len, Dat.seg, List.drop_nil, List.take_nil, List.length_nil]; omega) ?_
    refine bnd_to (y := a) (by simp [Dat.app, Dat.seg]) ?_
    refine ite_none (by simp only [Dat.Big, Dat.len]; omega) ?_
    refine ite_some trivial ?_
    refine bnd_to (y := a ++ b) rfl ?_
    refine bind_to eZ ?_
    refine cond_t (by simp only [Dat.ine, bne_iff_ne]; exact hc0) ?_
    refine cond_t rfl ?_
    refine cond_t rfl ?_
    refine cond_t (by rw [pk_t]; simp only [Dat.ine, bne_iff_ne]; exact hz) ?_
    refine cond_f (by simp only [Dat.ieq, beq_eq_false_iff_ne]; exact hc0) ?_
    refine bind_to eC ?_
    by_cases h9 : e = chk r m
    · exact cond_t (by rw [pk_f, h9]; exact ieq_self _) rfl
    · rcases hcc with h | h
      · exact absurd h h9
      · refine cond_f (by rw [pk_f]; simp only [Dat.ieq, beq_eq_false_iff_ne]; exact h9) ?_
        rw [h]; rfl
  rcases chk_cases r m with h | h
  · obtain ⟨h1, h1r⟩ := chk_ok h
    by_cases h2 : m + a.length ≥ 72057594037927936
    · have hgoal := bad 4 (by decide) (by rw [moreS_code, h, if_pos rfl, if_pos h2]) (.inr rfl) (by rw [moreS_code, h, if_pos rfl, if_pos (by omega)]; decide)
      unfold law02_ShaParts at hgoal
      simp only [Dat.join_eq] at hgoal
      rw [eight h8, alive02, Dat.bind_some] at hgoal
      rw [show Dat.igt (Dat.ofN (Dat.len r)) 500 = false from decide_eq_false (by simp only [Dat.ofN, Dat.len]; omega), cond_false, pk_f,
        show Dat.igt (Dat.ofN (Dat.len a)) 500 = false from decide_eq_false (by simp only [Dat.ofN, Dat.len]; omega), cond_false, pk_f,
        show Dat.igt (Dat.ofN (Dat.len b)) 500 = false from decide_eq_false (by simp only [Dat.ofN, Dat.len]; omega), cond_false, pk_f] at hgoal
      exact hgoal
    · have m1 : moreS W r m a = (((eat W (r ++ a) ((r ++ a).length / 64)).map ofW, ((r ++ a).drop (64 * ((r ++ a).length / 64)), (m + a.length, ()))), 0) := by
        unfold moreS
        rw [h, if_pos rfl, if_neg h2]
      have hra : (r ++ a).length = r.length + a.length := List.length_append
      rw [m1] at eX
      refine bind_to eX ?_
      have hV := eat_len W (r ++ a) hW ((r ++ a).length / 64)
      dsimp only
      rw [eight (map_len hV)]
      have c1 : chk ((r ++ a).drop (64 * ((r ++ a).length / 64))) (m + a.length) = 0 := by rw [chk, if_pos ⟨by omega, by rw [List.length_drop]; omega⟩]
      have e2 := sha_More_spec (eat W (r ++ a) ((r ++ a).length / 64)) ((r ++ a).drop (64 * ((r ++ a).length / 64))) b (m + a.length) hV (by rw [List.length_drop]; omega) (by omega) (by omega)
      by_cases h3 : m + a.length + b.length ≥ 72057594037927936
      · have m2 : moreS (eat W (r ++ a) ((r ++ a).length / 64)) ((r ++ a).drop (64 * ((r ++ a).length / 64))) (m + a.length) b = ((z8, ([], (0, ()))), 4) := by
          unfold moreS
          rw [c1, if_pos rfl, if_pos h3]
        have m3 : moreS W r m (a ++ b) = ((z8, ([], (0, ()))), 4) := by
          unfold moreS
          rw [h, if_pos rfl, if_pos (by omega)]
        rw [m2] at e2
        rw [m3] at eZ
        refine bind_to e2 ?_
        refine ite_some (by decide) ?_
        refine ite_none (by simp only [Dat.Big, Dat.len, Dat.seg, List.drop_nil, List.take_nil, List.length_nil]; omega) ?_
        refine bnd_to (y := a) (by simp [Dat.app, Dat.seg]) ?_
        refine ite_none (by simp only [Dat.Big, Dat.len]; omega) ?_
        refine ite_some trivial ?_
        refine bnd_to (y := a ++ b) rfl ?_
        refine bind_to eZ ?_
        refine cond_f rfl ?_
        refine cond_t rfl ?_
        refine cond_t rfl ?_
        refine cond_t rfl ?_
        exact cond_t rfl rfl
      · have m3 : moreS W r m (a ++ b) = (((eat W (r ++ (a ++ b)) ((r ++ (a ++ b)).length / 64)).map ofW, ((r ++ (a ++ b)).drop (64 * ((r ++ (a ++ b)).length / 64)), (m + a.length + b.length, ()))), 0) := by
          unfold moreS
          rw [h, if_pos rfl, if_neg (by omega), hab, Int.natCast_add, Int.add_assoc]
        have m2 : moreS (eat W (r ++ a) ((r ++ a).length / 64)) ((r ++ a).drop (64 * ((r ++ a).length / 64))) (m + a.length) b =
            (((eat W (r ++ (a ++ b)) ((r ++ (a ++ b)).length / 64)).map ofW, ((r ++ (a ++ b)).drop (64 * ((r ++ (a ++ b)).length / 64)), (m + a.length + b.length, ()))), 0) := by
          unfold moreS
          rw [c1, if_pos rfl, if_neg h3, (eat_more W (r ++ a) b).1, (eat_more W (r ++ a) b).2, List.append_assoc]
        rw [m2] at e2
        rw [m3] at eZ
        refine bind_to e2 ?_
        refine ite_some (by decide) ?_
        refine ite_none (by simp only [Dat.Big, Dat.len, Dat.seg, List.drop_nil, List.take_nil, List.length_nil]; omega) ?_
        refine bnd_to (y := a) (by simp [Dat.app, Dat.seg]) ?_
        refine ite_none (by simp only [Dat.Big, Dat.len]; omega) ?_
        refine ite_some trivial ?_
        refine bnd_to (y := a ++ b) rfl ?_
        refine bind_to eZ ?_
        refine cond_f rfl ?_
        refine cond_f rfl ?_
        have hrab : (r ++ (a ++ b)).length = r.length + a.length + b.length := by rw [List.length_append, hab]; omega
        have hX := eat_len W (r ++ (a ++ b)) hW ((r ++ (a ++ b)).length / 64)
        have hQ : ((r ++ (a ++ b)).drop (64 * ((r ++ (a ++ b)).length / 64))).length < 64 := by rw [List.length_drop]; omega
        have c2 : chk ((r ++ (a ++ b)).drop (64 * ((r ++ (a ++ b)).length / 64))) (m + a.length + b.length) = 0 := by rw [chk, if_pos ⟨by omega, by rw [List.length_drop]; omega⟩]
        generalize eat W (r ++ (a ++ b)) ((r ++ (a ++ b)).length / 64) = X at *
        generalize (r ++ (a ++ b)).drop (64 * ((r ++ (a ++ b)).length / 64)) = Q at *
        have e3 := sha_End_spec X Q (m + a.length + b.length) hX (by omega) (by omega)
        have e4 := sha_Check_spec (X.map ofW) Q (m + a.length + b.length) (by omega) (by omega)
        rw [endS, c2, if_pos rfl] at e3
        rw [c2] at e4
        dsimp only
        rw [eight (map_len hX)]
        refine bind_to e3 ?_
        refine ite_some (by decide) ?_
        refine bind_to e3 ?_
        refine ite_some (by decide) ?_
        refine cond_t rfl ?_
        refine cond_t rfl ?_
        refine cond_t rfl ?_
        refine cond_t rfl ?_
        dsimp only
        rw [norm_same (toldW_len _)]
        refine ite_some (toldW_len _) ?_
        refine ite_some (toldW_len _) ?_
        refine cond_t (by rw [pk_t]; exact lq_self _ _) ?_
        refine cond_t (by rw [pk_t]; simp [Dat.andB, Dat.ieq]) ?_
        refine bnd_to rfl ?_
        refine bnd_to rfl ?_
        refine cond_t (by rw [pk_t]; exact seq_self _) ?_
        refine cond_t (by rw [pk_t]; exact ieq_self _) ?_
        refine bind_to e4 ?_
        rfl
  · have hgoal := bad 8 (by decide) (by rw [moreS_code, h, if_neg (show ¬ (8 : Int) = 0 by decide)]) (.inl h.symm) (by rw [moreS_code, h, if_neg (show ¬ (8 : Int) = 0 by decide)]; decide)
    unfold law02_ShaParts at hgoal
    simp only [Dat.join_eq] at hgoal
    rw [eight h8, alive02, Dat.bind_some] at hgoal
    rw [show Dat.igt (Dat.ofN (Dat.len r)) 500 = false from decide_eq_false (by simp only [Dat.ofN, Dat.len]; omega), cond_false, pk_f,
      show Dat.igt (Dat.ofN (Dat.len a)) 500 = false from decide_eq_false (by simp only [Dat.ofN, Dat.len]; omega), cond_false, pk_f,
      show Dat.igt (Dat.ofN (Dat.len b)) 500 = false from decide_eq_false (by simp only [Dat.ofN, Dat.len]; omega), cond_false, pk_f] at hgoal
    exact hgoal

theorem law02_ShaParts_true (d : Els p_law02_ShaParts.args) (hf : Fits p_law02_ShaParts.args d) : law02_ShaParts d = some true := by
  obtain ⟨⟨X, r, m, ⟨⟩⟩, a, b⟩ := d
  obtain ⟨⟨⟨hX, hXw⟩, _, hm, _⟩, _⟩ := hf
  obtain ⟨W, hW, rfl⟩ := words_of (X := X) hX (fun x hx => fit_u32 (hXw x hx))
  exact shaParts_any W r a b m hW (fit_u64 hm)
end Go.Proofs.YtpmejooihjdapaaDoor
