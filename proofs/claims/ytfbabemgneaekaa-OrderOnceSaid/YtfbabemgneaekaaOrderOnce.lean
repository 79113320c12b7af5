/- OrderOnce answers true. -/
import Derived.Test.YtfbabemgneaekaaOrderTells
import Derived.Test.YtfbabemgneaekaaOrdnd
namespace Go.Proofs.Ytfbabemgneaekaa
open Go.Eng
set_option linter.unusedVariables false
set_option linter.unusedSimpArgs false

/-- Which numbers are met up to a place. -/
def metS (a : List Int) (k : Nat) : List Int := (List.range 80).map fun (x : Nat) => if (x : Int) ∈ (List.range k).map (pF a) then 1 else 0
theorem metS_zero (a : List Int) : Dat.rep (α := Int) (Dat.toN 80) 0 = metS a 0 := by rfl
theorem metS_len (a : List Int) (k : Nat) : (metS a k).length = 80 := by simp [metS]
theorem metS_get {a : List Int} (h : Tl a) {k X : Nat} (hk : k < 2 * a.length) (hX : pF a k = X) (h8 : X < 80) : (metS a k).getD X 0 = 0 := by
  have hn : ¬ (X : Int) ∈ (List.range k).map (pF a) := by
    intro hm
    obtain ⟨i, hi, e⟩ := List.mem_map.1 hm
    exact pF_inj h (List.mem_range.1 hi) hk (by rw [e, hX])
  unfold metS
  simp only [List.getD, List.getElem?_map]
  rw [List.getElem?_range h8]
  simp only [Option.map_some, Option.getD_some]
  rw [if_neg hn]
theorem metS_set {a : List Int} {k X : Nat} (hX : pF a k = X) (h8 : X < 80) : (metS a k).set X 1 = metS a (k + 1) := by
  unfold metS
  rw [map_set _ _ _ _ h8]
  apply List.map_congr_left
  intro j hj
  rw [List.range_succ, List.map_append, List.map_cons, List.map_nil, hX]
  by_cases e : j = X
  · subst e; simp
  · rw [if_neg e]
    have : ¬ (j : Int) = (X : Int) := by omega
    simp only [List.mem_append, List.mem_singleton, this, or_false]
def lastS (a : List Int) (k : Nat) : Int := if k / 2 = 0 then -1 else (restN a (2 * a.length)).getD (k / 2 - 1) 0
theorem lastS_even (a : List Int) (k : Nat) (h : k % 2 = 0) : lastS a (k + 1) = lastS a k := by
  unfold lastS; rw [show (k + 1) / 2 = k / 2 by omega]
theorem lastS_odd (a : List Int) (k : Nat) (h : k % 2 = 1) : lastS a (k + 1) = pF a k := by
  unfold lastS pF permF; rw [if_neg (by omega), if_neg (by omega), show (k + 1) / 2 - 1 = k / 2 by omega]
theorem lastS_lt {a : List Int} (ht : Tl a) {k : Nat} (h : k % 2 = 1) (hk : k < 2 * a.length) : lastS a k < pF a k := by
  have hrl := ht.rl
  unfold lastS pF permF
  rw [if_neg (show ¬ k % 2 = 0 by omega)]
  split
  · have := (restN_get a (2 * a.length) (j := k / 2) (by omega)).1; omega
  · exact restN_lt _ _ (by omega) (by omega)

theorem once_row (a : List Int) (ht : Tl a) (hl : a.length ≤ 40) (g : (Int × Int × List Int) → (Int × Int × List Int → Option Bool) → Option Bool)
    (hg : ∀ n : Nat, n < 2 * a.length → ∀ k5, k5 (lastS a (n + 1), ((n + 1 : Nat) : Int), metS a (n + 1)) = some true → g (lastS a n, (n : Int), metS a n) k5 = some true)
    (he : ∀ k5, g (lastS a (2 * a.length), ((2 * a.length : Nat) : Int), metS a (2 * a.length)) k5 = some true) :
    Dat.loop g (-1, 0, Dat.rep (α := Int) (Dat.toN 80) 0) = some true := by
  rw [metS_zero a]
  refine loop_inv (fun s => ∃ n : Nat, n ≤ 2 * a.length ∧ s = (lastS a n, (n : Int), metS a n)) (fun s => 2 * a.length - s.2.1.toNat) ?_ ⟨0, by omega, rfl⟩ (mu_lt _ _ (by omega))
  rintro s k ⟨n, hn, rfl⟩ hk
  by_cases hlt : n < 2 * a.length
  · exact hg n hlt k (hk _ ⟨n + 1, by omega, rfl⟩ (by show 2 * a.length - ((n + 1 : Nat) : Int).toNat < 2 * a.length - ((n : Int)).toNat; omega))
  · obtain rfl : n = 2 * a.length := by omega
    exact he k

theorem orderOnce_any (c : CfgT) (l : List UnT) : law21_OrderOnce (c, l) = some true := by
  have ha : law21_alive () = some true := rfl
  unfold law21_OrderOnce
  simp only [eta c]
  refine bind_to ha ?_
  obtain ⟨b1, h1, hb⟩ := gU_some l 40 (by omega)
  refine join_to (fun j => j = true ∨ l.length ≤ 40) ?_ ?_
  · intro j hj
    cases j
    · have hl : l.length ≤ 40 := by simpa using hj
      refine cond_f rfl ?_
      refine bind_to (order_Cells_spec c l) ?_
      refine bind_to (order_Perm_spec c l) ?_
      refine bind_to (conf_Levels_spec c) ?_
      unfold cellsS permA
      by_cases h : askS c l = 0
      · obtain ⟨hm, _, hu⟩ := ask_ok h
        have hn := nLev_le hm
        rw [if_pos h, if_pos h, if_pos hm]
        have hlc : Dat.len ((List.range (nLev c)).map (toldL c l)) = nLev c := by simp [Dat.len]
        have hlp : Dat.len ((List.range (nLev c)).map (permL c l)) = nLev c := by simp [Dat.len]
        have hla : Dat.len (allS c) = nLev c := allS_n c
        refine join_to (fun j => j = false) ?_ (fun k hk => hk _ rfl)
        intro j hj
        subst hj
        refine cond_f rfl ?_
        refine join_to (fun j => j = false) ?_ ?_
        · intro j hj
          subst hj
          refine cond_f rfl ?_
          try dsimp only
          refine loop_inv (fun s => ∃ i : Nat, i ≤ nLev c ∧ s = (i : Int)) (fun s => nLev c - s.toNat) ?_ ⟨0, by omega, rfl⟩ (mu_lt _ _ (by omega))
          rintro s k ⟨i, hi, rfl⟩ hk
          try dsimp only
          rw [hlc, hlp]
          by_cases hlt : i < nLev c
          · have hga := get_map (toldL c l) hlt
            have hgp := get_map (permL c l) hlt
            have ht := toldL_tl c l i
            have hal := toldL_len c l i
            have hpp : permL c l i = permS (toldL c l i) := rfl
            rw [hpp] at hgp
            generalize toldL c l i = a at *
            have hpl := permS_len a
            have hpg : ∀ n, n < 2 * a.length → (permS a).getD n 0 = pF a n := by
              intro n hn
              unfold permS pF
              simp [List.getD, hn]
            have hk1 : k ((i : Int) + 1) = some true := hk _ ⟨i + 1, by omega, rfl⟩ (by show nLev c - ((i : Int) + 1).toNat < nLev c - ((i : Int)).toNat; omega)
            have hw : Dat.wrap .i64 (Dat.add (i : Int) 1) = (i : Int) + 1 := wrapI (by simp only [Dat.add]; omega)
            have hix : Dat.Ix (i : Int) (nLev c) := ⟨by omega, by omega⟩
            have hw2 : Dat.wrap .i64 (Dat.mul 2 (Dat.ofN (Dat.len l))) = ((2 * a.length : Nat) : Int) := by
              rw [wrapI] <;> simp only [Dat.mul, Dat.ofN, Dat.len] <;> omega
            refine cond_t (decide_eq_true (by simp only [Dat.ofN]; omega)) ?_
            refine join_to (fun j => j = false) ?_ ?_
            · intro j hj
              subst hj
              refine cond_f rfl ?_
              refine ite_some (mk_rows (n := 80) (by omega) 8 (by decide)) ?_
              refine once_row a ht (by omega) _ ?_ ?_
              · intro n hnl k5 hk5
                obtain ⟨X, hX⟩ := Int.eq_ofNat_of_zero_le (pF_range ht hnl).1
                have hX2 := (pF_range ht hnl).2
                have h8 : X < 80 := by omega
                have hset := metS_set hX h8
                have hmget := metS_get ht hnl hX h8
                have hml := metS_len a n
                have hIn : Dat.In (X : Int) (Dat.toN 80) := ⟨by omega, by have h80 : Dat.toN 80 = 80 := rfl; rw [h80]; omega⟩
                have hLt : Dat.Lt (Dat.addN 0 (Dat.toN (X : Int))) (Dat.len (metS a n)) := by simp only [Dat.Lt, Dat.addN, Dat.toN, Dat.len, Int.toNat_natCast]; omega
                have hmg : Dat.get (metS a n) (Dat.addN 0 (Dat.toN (X : Int))) 0 = 0 := by
                  simp only [Dat.get, Dat.addN, Dat.toN, Int.toNat_natCast, Nat.zero_add]; exact hmget
                have hms : Dat.set (metS a n) (Dat.addN 0 (Dat.toN (X : Int))) 1 = metS a (n + 1) := by
                  simp only [Dat.set, Dat.addN, Dat.toN, Int.toNat_natCast, Nat.zero_add]; exact hset
                have hz : ¬ Dat.IsZ 2 := by decide
                have htm : Dat.tmod (n : Int) 2 = ((n % 2 : Nat) : Int) := rfl
                have htd : Dat.tdiv (n : Int) 2 = ((n / 2 : Nat) : Int) := rfl
                try dsimp only
                refine ite_some hix ?_
                refine bnd_to hgp ?_
                refine cond_t (decide_eq_true (by simp only [Dat.ofN, Dat.len]; omega)) ?_
                refine ite_some hix ?_
                refine bnd_to hgp ?_
                refine ite_some ⟨by omega, by simp only [Dat.len]; omega⟩ ?_
                refine bnd_to (y := (X : Int)) (by rw [← hX, ← hpg n hnl]; rfl) ?_
                refine join_to (fun j => j = false) ?_ ?_
                · intro j hj
                  subst hj
                  refine cond_f rfl ?_
                  refine ite_some hIn ?_
                  refine ite_some hLt ?_
                  refine bnd_to hmg ?_
                  refine bnd_to (y := 1) (wrapI (by simp only [Dat.add]; omega)) ?_
                  refine ite_some hIn ?_
                  refine ite_some hLt ?_
                  refine bnd_to hms ?_
                  refine ite_none hz ?_
                  refine bnd_to htm ?_
                  refine join_to (fun j => j = lastS a (n + 1)) ?_ ?_
                  · intro j hj
                    subst hj
                    refine bnd_to (y := ((n + 1 : Nat) : Int)) (wrapI (by simp only [Dat.add]; omega)) ?_
                    exact hk5
                  · intro k6 hk6
                    rcases Nat.mod_two_eq_zero_or_one n with e | e
                    · rw [e]
                      refine cond_f rfl (hk6 _ (lastS_even a n e).symm)
                    · rw [e]
                      refine cond_t rfl (hk6 _ ?_)
                      rw [lastS_odd a n e, hX]
                · intro k6 hk6
                  refine cond_f (decide_eq_false (by omega)) ?_
                  refine bnd_to hw2 ?_
                  refine cond_f (by show Dat.ige (X : Int) _ = false; exact decide_eq_false (by omega)) ?_
                  refine ite_some hIn ?_
                  refine ite_some hLt ?_
                  refine bnd_to hmg ?_
                  refine cond_f rfl ?_
                  refine ite_none hz ?_
                  refine bnd_to htm ?_
                  rcases Nat.mod_two_eq_zero_or_one n with e | e
                  · rw [e]
                    refine cond_t rfl ?_
                    refine ite_some hix ?_
                    refine bnd_to hga ?_
                    refine ite_none hz ?_
                    refine bnd_to (y := ((n / 2 : Nat) : Int)) (by rw [htd, wrapI] <;> omega) ?_
                    refine ite_some ⟨by omega, by simp only [Dat.len]; omega⟩ ?_
                    refine bnd_to (y := (X : Int)) (by
                      rw [← hX]
                      unfold pF permF
                      rw [if_pos e]; rfl) ?_
                    refine cond_f (by simp [Dat.ine]) ?_
                    refine ite_none hz ?_
                    refine bnd_to htm ?_
                    rw [e]
                    refine cond_f rfl ?_
                    exact hk6 _ rfl
                  · rw [e]
                    refine cond_f rfl ?_
                    refine ite_none hz ?_
                    refine bnd_to htm ?_
                    rw [e]
                    refine cond_t rfl ?_
                    refine hk6 _ ?_
                    show Dat.ile (X : Int) (lastS a n) = false
                    have := lastS_lt ht e hnl
                    exact decide_eq_false (by omega)
              · intro k5
                try dsimp only
                refine ite_some hix ?_
                refine bnd_to hgp ?_
                refine cond_f (decide_eq_false (by simp only [Dat.ofN, Dat.len]; omega)) ?_
                exact bnd_to hw hk1
            · intro k2 hk2
              refine ite_some hix ?_
              refine bnd_to hga ?_
              refine cond_f (by simp only [Dat.ine, Dat.ofN, Dat.len, bne_eq_false_iff_eq]; omega) ?_
              refine ite_some hix ?_
              refine bnd_to hgp ?_
              refine bnd_to hw2 ?_
              refine hk2 _ ?_
              show Dat.ine (Dat.ofN (Dat.len (permS a))) ((2 * a.length : Nat) : Int) = false
              simp only [Dat.ine, Dat.ofN, Dat.len, bne_eq_false_iff_eq]; omega
          · refine cond_f (decide_eq_false (by simp only [Dat.ofN]; omega)) ?_
            rfl
        · intro k hk
          refine cond_f rfl ?_
          try dsimp only
          rw [hlc, hlp, hla]
          have : Dat.ine (Dat.ofN (nLev c)) (Dat.ofN (nLev c)) = false := by simp [Dat.ine]
          rw [this]
          refine cond_f rfl ?_
          exact hk _ rfl
      · rw [if_neg h, if_neg h]
        refine join_to (fun j => j = true) ?_ (fun k hk => cond_t (by simp only [Dat.ine, bne_iff_ne]; exact h) (hk _ rfl))
        intro j hj
        subst hj
        refine cond_t rfl ?_
        refine join_to (fun j => j = true) (fun j hj => by rw [hj]) ?_
        intro k hk
        refine cond_t rfl ?_
        try dsimp only
        rw [ieq_self]
        refine cond_t rfl ?_
        refine cond_t rfl ?_
        exact hk _ rfl
    · rfl
  · intro k hk
    refine bind_to h1 ?_
    cases b1
    · exact hk _ (.inr (hb rfl))
    · exact hk _ (.inl rfl)

theorem law21_OrderOnce_true (d : Els p_law21_OrderOnce.args) (hf : Fits p_law21_OrderOnce.args d) : law21_OrderOnce d = some true := orderOnce_any d.1 d.2
end Go.Proofs.Ytfbabemgneaekaa
