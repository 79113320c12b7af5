/- The orders. -/
import Derived.Test.YtfbabemgneaekaaTold3
namespace Go.Proofs.Ytfbabemgneaekaa
open Go.Eng
set_option linter.unusedVariables false
set_option linter.unusedSimpArgs false

/-- Those that are not told, up to a number. -/
def restN (a : List Int) (n : Nat) : List Int := (nums n).filter fun x => !decide (x ∈ a)
theorem nums_succ (n : Nat) : nums (n + 1) = nums n ++ [(n : Int)] := by simp [nums, List.range_succ]
theorem restN_succ (a : List Int) (n : Nat) : restN a (n + 1) = restN a n ++ (if (n : Int) ∈ a then [] else [(n : Int)]) := by
  unfold restN
  rw [nums_succ, List.filter_append]
  congr 1
  by_cases h : (n : Int) ∈ a
  · simp [h]
  · simp [h]
theorem restN_prefix (a : List Int) : ∀ (d n : Nat), ∃ r, restN a (n + d) = restN a n ++ r
  | 0, n => ⟨[], by simp⟩
  | d + 1, n => by
    obtain ⟨r, hr⟩ := restN_prefix a d n
    exact ⟨r ++ (if ((n + d : Nat) : Int) ∈ a then [] else [((n + d : Nat) : Int)]), by rw [← Nat.add_assoc, restN_succ, hr, List.append_assoc]⟩
theorem restN_mem {a : List Int} {n : Nat} {x : Int} : x ∈ restN a n ↔ (0 ≤ x ∧ x < n) ∧ x ∉ a := by
  unfold restN
  rw [List.mem_filter, mem_nums]; simp
theorem restN_nodup (a : List Int) (n : Nat) : (restN a n).Nodup := by
  unfold restN
  exact (nums_nodup n).filter _
theorem restN_len {a : List Int} {n : Nat} (ha : a.Nodup) (hr : ∀ x ∈ a, 0 ≤ x ∧ x < (n : Int)) : (restN a n).length + a.length = n := by
  have hF : ((nums n).filter fun x => decide (x ∈ a)).Nodup := (nums_nodup n).filter _
  have hmem : ∀ x, x ∈ ((nums n).filter fun x => decide (x ∈ a)) ↔ x ∈ a := by
    intro x
    rw [List.mem_filter, mem_nums]
    simp only [decide_eq_true_eq]
    exact ⟨fun h => h.2, fun h => ⟨hr x h, h⟩⟩
  have hlen : ((nums n).filter fun x => decide (x ∈ a)).length = a.length := by
    by_cases h : a.length ≤ ((nums n).filter fun x => decide (x ∈ a)).length
    · exact (perm_of_sub hF (fun x hx => (hmem x).1 hx) h).length_eq
    · exact (perm_of_sub ha (fun x hx => (hmem x).2 hx) (by omega)).length_eq.symm
  have hsum : ∀ l : List Int, (l.filter fun x => decide (x ∈ a)).length + (l.filter fun x => !decide (x ∈ a)).length = l.length := by
    intro l
    induction l with
    | nil => rfl
    | cons x l ih =>
      by_cases h : x ∈ a
      · simp [h]; omega
      · simp [h]; omega
  have := hsum (nums n)
  rw [nums_len, hlen] at this
  unfold restN
  omega

/-- An order, place by place. -/
def permF (a r : List Int) (i : Nat) : Int := if i % 2 = 0 then a.getD (i / 2) 0 else r.getD (i / 2) 0
def permS (a : List Int) : List Int := (List.range (2 * a.length)).map (permF a (restN a (2 * a.length)))
theorem permS_len (a : List Int) : (permS a).length = 2 * a.length := by simp [permS]

theorem map_set {β : Type} (f : Nat → β) (N k : Nat) (v : β) (h : k < N) : ((List.range N).map f).set k v = (List.range N).map fun i => if i = k then v else f i := by
  apply List.ext_getElem?
  intro i
  rw [List.getElem?_set]
  simp only [List.getElem?_map, List.length_map, List.length_range]
  by_cases hi : i < N
  · rw [List.getElem?_range hi]
    by_cases hk : k = i
    · subst hk; simp [h]
    · rw [if_neg hk]; simp [Ne.symm hk]
  · have hn : (List.range N)[i]? = none := List.getElem?_eq_none (by simpa using hi)
    rw [hn]
    by_cases hk : k = i
    · omega
    · rw [if_neg hk]; rfl
theorem getD_app {r : List Int} {x : Int} {s : List Int} : (r ++ x :: s).getD r.length 0 = x := by simp [List.getD]

theorem order_Perm_1_spec (a : List Int) (hn : a.length ≤ 512) (hd : a.Nodup) (hr : ∀ x ∈ a, 0 ≤ x ∧ x < 2 * (a.length : Int)) : order_Perm_1 a = some (permS a) := by
  have hrl : (restN a (2 * a.length)).length = a.length := by
    have := restN_len (n := 2 * a.length) hd (fun x hx => by have := hr x hx; omega)
    omega
  unfold order_Perm_1
  refine bnd_to (y := ((2 * a.length : Nat) : Int)) (by rw [wrapI] <;> simp only [Dat.mul, Dat.ofN, Dat.len] <;> omega) ?_
  refine ite_some (mk_rows (n := 2 * a.length) (by omega) 1 (by decide)) ?_
  refine bnd_to (y := ((2 * a.length : Nat) : Int)) (by rw [wrapI] <;> simp only [Dat.mul, Dat.ofN, Dat.len] <;> omega) ?_
  refine ite_some (mk_rows (n := 2 * a.length) (by omega) 8 (by decide)) ?_
  have htn : Dat.toN ((2 * a.length : Nat) : Int) = 2 * a.length := by simp only [Dat.toN]; omega
  rw [htn]
  have h0 : Dat.rep (α := Bool) (2 * a.length) false = (List.range (2 * a.length)).map (fun (j : Nat) => decide ((j : Int) ∈ a.take 0)) := by
    apply List.ext_getElem?
    intro i
    by_cases hi : i < 2 * a.length
    · simp [Dat.rep, hi]
    · simp only [Dat.rep, List.getElem?_map]
      rw [List.getElem?_eq_none (by simpa using hi), List.getElem?_eq_none (by simpa using hi)]; rfl
  have h1 : Dat.rep (α := Int) (2 * a.length) 0 = (List.range (2 * a.length)).map (fun i => if i % 2 = 0 ∧ i / 2 < 0 then a.getD (i / 2) 0 else 0) := by
    apply List.ext_getElem?
    intro i
    by_cases hi : i < 2 * a.length
    · simp [Dat.rep, hi]
    · simp only [Dat.rep, List.getElem?_map]
      rw [List.getElem?_eq_none (by simpa using hi), List.getElem?_eq_none (by simpa using hi)]; rfl
  rw [h0, h1]
  refine loop_inv (fun s => ∃ t : Nat, t ≤ a.length ∧ s = ((t : Int), ((List.range (2 * a.length)).map (fun (j : Nat) => decide ((j : Int) ∈ a.take t)), (List.range (2 * a.length)).map (fun i => if i % 2 = 0 ∧ i / 2 < t then a.getD (i / 2) 0 else 0))))
    (fun s => a.length - s.1.toNat) ?_ ⟨0, by omega, rfl⟩ (mu_lt _ _ (by omega))
  rintro s k ⟨t, ht, rfl⟩ hk
  dsimp only
  by_cases h : t < a.length
  · have hx := hr a[t] (List.getElem_mem h)
    obtain ⟨X, hX⟩ := Int.eq_ofNat_of_zero_le hx.1
    have hXl : X < 2 * a.length := by omega
    refine cond_t (decide_eq_true (by simp only [Dat.ofN, Dat.len]; omega)) ?_
    refine ite_some ⟨by omega, by simp only [Dat.len]; omega⟩ ?_
    refine bnd_to (y := (X : Int)) (by rw [← hX]; simp [Dat.get, Dat.toN, List.getD, h]) ?_
    refine bnd_to (y := ((2 * t : Nat) : Int)) (by rw [wrapI] <;> simp only [Dat.mul] <;> omega) ?_
    refine ite_some ⟨by omega, by omega⟩ ?_
    refine ite_some (by simp only [Dat.Lt, Dat.addN, Dat.toN, Dat.len, Int.toNat_natCast, List.length_map, List.length_range]; omega) ?_
    refine bnd_to (y := (List.range (2 * a.length)).map (fun i => if i % 2 = 0 ∧ i / 2 < t + 1 then a.getD (i / 2) 0 else 0)) (by
      simp only [Dat.set, Dat.addN, Dat.toN, Int.toNat_natCast, Nat.zero_add]
      rw [map_set _ _ _ _ (by omega)]
      apply List.map_congr_left
      intro i hi
      by_cases e : i = 2 * t
      · subst e
        rw [if_pos rfl, if_pos ⟨by omega, by omega⟩, show 2 * t / 2 = t by omega, ← hX]
        simp [List.getD, h]
      · rw [if_neg e]
        by_cases c : i % 2 = 0 ∧ i / 2 < t
        · rw [if_pos c, if_pos ⟨c.1, by omega⟩]
        · rw [if_neg c, if_neg (by omega)]) ?_
    refine ite_some ⟨by omega, by omega⟩ ?_
    refine ite_some (by simp only [Dat.Lt, Dat.addN, Dat.toN, Dat.len, Int.toNat_natCast, List.length_map, List.length_range]; omega) ?_
    refine bnd_to (y := (List.range (2 * a.length)).map (fun (j : Nat) => decide ((j : Int) ∈ a.take (t + 1)))) (by
      simp only [Dat.set, Dat.addN, Dat.toN, Int.toNat_natCast, Nat.zero_add]
      rw [map_set _ _ _ _ hXl]
      apply List.map_congr_left
      intro j hj
      rw [List.take_succ_eq_append_getElem h, hX]
      by_cases e : j = X
      · subst e; simp
      · rw [if_neg e]
        have : ¬ (j : Int) = (X : Int) := by omega
        simp [this]) ?_
    refine bnd_to (wrapI (by simp only [Dat.add]; omega)) ?_
    exact hk _ ⟨t + 1, by omega, rfl⟩ (by show a.length - ((t : Int) + 1).toNat < a.length - ((t : Int)).toNat; omega)
  · obtain rfl : t = a.length := by omega
    refine cond_f (decide_eq_false (by simp only [Dat.ofN, Dat.len]; omega)) ?_
    rw [List.take_length]
    clear hk k
    refine loop_inv (fun s => ∃ j : Nat, j ≤ 2 * a.length ∧ s = ((j : Int), (((restN a j).length : Int), (List.range (2 * a.length)).map (fun i => if i % 2 = 0 then a.getD (i / 2) 0 else if i / 2 < (restN a j).length then (restN a (2 * a.length)).getD (i / 2) 0 else 0))))
      (fun s => 2 * a.length - s.1.toNat) ?_ ⟨0, by omega, ?_⟩ (mu_lt _ _ (by omega))
    · rintro s k ⟨j, hj, rfl⟩ hk
      dsimp only
      by_cases hlt : j < 2 * a.length
      · obtain ⟨s1, hs1⟩ := restN_prefix a (2 * a.length - (j + 1)) (j + 1)
        rw [show j + 1 + (2 * a.length - (j + 1)) = 2 * a.length by omega, restN_succ] at hs1
        refine cond_t (decide_eq_true (by simp only [Dat.ofN]; omega)) ?_
        refine ite_some ⟨by omega, by omega⟩ ?_
        refine ite_some (by simp only [Dat.Lt, Dat.addN, Dat.toN, Dat.len, Int.toNat_natCast, List.length_map, List.length_range]; omega) ?_
        refine bnd_to (y := decide ((j : Int) ∈ a)) (by simp [Dat.get, Dat.addN, Dat.toN, List.getD, hlt]) ?_
        by_cases hin : (j : Int) ∈ a
        · rw [decide_eq_true hin]
          refine cond_f rfl ?_
          refine bnd_to (wrapI (by simp only [Dat.add]; omega)) ?_
          refine hk _ ⟨j + 1, by omega, ?_⟩ (by show 2 * a.length - ((j : Int) + 1).toNat < 2 * a.length - ((j : Int)).toNat; omega)
          rw [restN_succ, if_pos hin, List.append_nil]; rfl
        · rw [decide_eq_false hin]
          rw [if_neg hin] at hs1
          have hro : (restN a j).length < a.length := by
            have := congrArg List.length hs1
            simp only [List.length_append, List.length_cons, List.length_nil] at this
            omega
          have hat : (restN a (2 * a.length)).getD (restN a j).length 0 = (j : Int) := by
            rw [hs1, List.append_assoc]; exact getD_app
          refine cond_t rfl ?_
          refine bnd_to (wrapI (by simp only [Dat.mul]; omega)) ?_
          refine bnd_to (y := ((2 * (restN a j).length + 1 : Nat) : Int)) (by rw [wrapI] <;> simp only [Dat.mul, Dat.add] <;> omega) ?_
          refine ite_some ⟨by omega, by omega⟩ ?_
          refine ite_some (by simp only [Dat.Lt, Dat.addN, Dat.toN, Dat.len, Int.toNat_natCast, List.length_map, List.length_range]; omega) ?_
          refine bnd_to (y := (List.range (2 * a.length)).map (fun i => if i % 2 = 0 then a.getD (i / 2) 0 else if i / 2 < (restN a j).length + 1 then (restN a (2 * a.length)).getD (i / 2) 0 else 0)) (by
            simp only [Dat.set, Dat.addN, Dat.toN, Int.toNat_natCast, Nat.zero_add]
            rw [map_set _ _ _ _ (by omega)]
            apply List.map_congr_left
            intro i hi
            by_cases e : i = 2 * (restN a j).length + 1
            · subst e
              rw [if_pos rfl, if_neg (by omega), if_pos (by omega), show (2 * (restN a j).length + 1) / 2 = (restN a j).length by omega, hat]
            · rw [if_neg e]
              by_cases c : i % 2 = 0
              · rw [if_pos c, if_pos c]
              · rw [if_neg c, if_neg c]
                by_cases c2 : i / 2 < (restN a j).length
                · rw [if_pos c2, if_pos (by omega)]
                · rw [if_neg c2, if_neg (by omega)]) ?_
          refine bnd_to (wrapI (by simp only [Dat.add]; omega)) ?_
          refine bnd_to (wrapI (by simp only [Dat.add]; omega)) ?_
          refine hk _ ⟨j + 1, by omega, ?_⟩ (by show 2 * a.length - ((j : Int) + 1).toNat < 2 * a.length - ((j : Int)).toNat; omega)
          rw [restN_succ, if_neg hin, List.length_append, List.length_cons, List.length_nil]
          rfl
      · obtain rfl : j = 2 * a.length := by omega
        refine cond_f (decide_eq_false (by simp only [Dat.ofN]; omega)) ?_
        refine ite_some (by simp [Dat.Le, Dat.addN, Dat.len]) ?_
        simp only [Dat.seg, List.drop_zero]
        rw [List.take_of_length_le (by simp)]
        unfold permS
        congr 1
        apply List.map_congr_left
        intro i hi
        simp at hi
        unfold permF
        by_cases c : i % 2 = 0
        · rw [if_pos c, if_pos c]
        · rw [if_neg c, if_neg c, if_pos (by omega)]
    · refine Prod.ext rfl (Prod.ext rfl ?_)
      apply List.map_congr_left
      intro i hi
      simp at hi
      by_cases c : i % 2 = 0
      · rw [if_pos ⟨c, by omega⟩, if_pos c]
      · rw [if_neg (fun h => c h.1), if_neg c, if_neg (by simp [restN, nums])]
end Go.Proofs.Ytfbabemgneaekaa
