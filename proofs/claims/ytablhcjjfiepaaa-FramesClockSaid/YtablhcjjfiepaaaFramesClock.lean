/- FramesClock answers true. -/
import Derived.Test.YtablhcjjfiepaaaFrvic
import Derived.Test.YtablhcjjfiepaaaFrref
namespace Go.Proofs.Ytablhcjjfiepaaa
open Go.Eng
set_option linter.unusedVariables false
set_option linter.unusedSimpArgs false

theorem ref25_Pinned_spec (x : FrT) (hl : x.2.2.2.1.length ≤ 1000) : ref25_Pinned x = some (pinB x.2.2.2.1) := by
  obtain ⟨k, pg, dt, p, rf, dr, _⟩ := x
  unfold ref25_Pinned
  dsimp only at hl ⊢
  refine loop_inv (fun (s : Int) => ∃ i : Nat, s = i ∧ i ≤ p.length ∧ pinB (p.take i) = false) (fun s => p.length - s.toNat) ?_ ⟨0, rfl, Nat.zero_le _, rfl⟩ (mu_lt _ _ (by omega))
  rintro s k ⟨i, rfl, hi, hp⟩ hk
  by_cases hlt : i < p.length
  · refine cond_t (decide_eq_true (by simp only [Dat.ofN, Dat.len]; omega)) ?_
    refine ite_some ⟨by omega, by simp only [Dat.len]; omega⟩ ?_
    refine bnd_to (iget p hlt) ?_
    by_cases h0 : 0 < p[i]
    · refine cond_t (decide_eq_true h0) ?_
      rw [pin_hit hlt h0]
    · refine cond_f (decide_eq_false h0) ?_
      refine bnd_to (wrapI (x := Dat.add (i : Int) 1) (by simp only [Dat.add]; omega)) ?_
      exact hk _ ⟨i + 1, rfl, hlt, by rw [pin_take hlt, hp, decide_eq_false h0]; rfl⟩ (by simp only [Dat.add]; omega)
  · refine cond_f (decide_eq_false (by simp only [Dat.ofN, Dat.len]; omega)) ?_
    rw [List.take_of_length_le (by omega)] at hp
    rw [hp]

def freeB (x : FrT) : Bool := decide (x.1 = 0) || (decide (x.1 = 2) && !pinB x.2.2.2.1)
theorem law25_free_spec (x : FrT) (hl : x.2.2.2.1.length ≤ 1000) : law25_free x = some (freeB x) := by
  unfold law25_free freeB
  by_cases h0 : x.1 = 0
  · refine cond_t (decide_eq_true h0) ?_
    simp [h0]
  · refine cond_f (decide_eq_false h0) ?_
    by_cases h2 : x.1 = 2
    · refine cond_t (decide_eq_true h2) ?_
      refine bind_to (ref25_Pinned_spec x hl) ?_
      simp [h0, h2, Dat.pickB, Dat.bnot]
    · refine cond_f (decide_eq_false h2) ?_
      simp [h0, h2, Dat.pickB]
theorem free_skip {c : CfgT} {x : FrT} (h : okF c x = true) : freeB x = !skipB x := by
  unfold okF at h
  unfold freeB skipB
  by_cases h0 : x.1 = 0
  · simp only [h0, if_pos, Bool.and_eq_true] at h
    have := h.2.1.1.2
    simp at this
    simp [h0, this]
  · by_cases h1 : x.1 = 1
    · simp [h1]
    · by_cases h2 : x.1 = 2
      · simp [h2]
      · simp [h0, h1, h2] at h

theorem okF_clr {c : CfgT} {x : FrT} (h : okF c x = true) : okF c (clr x) = true := by
  unfold okF at h ⊢
  simp only [clr] at h ⊢
  by_cases h0 : x.1 = 0
  · simp only [h0, if_pos, Bool.and_eq_true] at h ⊢
    simp_all
  · by_cases h1 : x.1 = 1
    · simp_all
    · simp_all
def keyF (x : FrT) : Int × Int := (x.1, x.2.1)
theorem pagesL_key (l : List FrT) : pagesL l = ((l.map keyF).filter fun x => decide (x.1 ≠ 0)).map fun x => x.2 := by
  unfold pagesL
  rw [List.filter_map, List.map_map]
  rfl

/-- What the clock leaves, in what the law asks. -/
structure VicR (l L : List FrT) (p : Nat) : Prop where
  lt : p < l.length
  free : skipB (l.getD p noF) = false
  len : L.length = l.length
  ref : (L.getD p noF).2.2.2.2.1 = false
  same : ∀ j, j < l.length → L.getD j noF = l.getD j noF ∨ (L.getD j noF = clr (l.getD j noF) ∧ skipB (l.getD j noF) = false)
  all : (l.getD p noF).2.2.2.2.1 = true → ∀ j, j < l.length → skipB (l.getD j noF) = false → (l.getD j noF).2.2.2.2.1 = true

theorem VicR.mem {l L : List FrT} {p : Nat} (R : VicR l L p) {x : FrT} (hx : x ∈ L) : ∃ y ∈ l, x = y ∨ x = clr y := by
  obtain ⟨j, hj, rfl⟩ := List.getElem_of_mem hx
  have hj' : j < l.length := by rw [← R.len]; exact hj
  refine ⟨l[j], List.getElem_mem hj', ?_⟩
  have := R.same j hj'
  rw [getD_get _ hj, getD_get _ hj'] at this
  exact this.imp id And.left
theorem VicR.small {l L : List FrT} {p : Nat} (R : VicR l L p) (h : smallF l) : smallF L := by
  refine ⟨by rw [R.len]; exact h.1, fun x hx => ?_⟩
  obtain ⟨y, hy, rfl | rfl⟩ := R.mem hx
  · exact h.2 _ hy
  · exact h.2 y hy
theorem VicR.chk {c : CfgT} {l L : List FrT} {p : Nat} {h : Int} (R : VicR l L p) (hc : chkF c l h = 0) : chkF c L (((p + 1) % l.length : Nat) : Int) = 0 := by
  obtain ⟨h1, h2, h3, h4, h5⟩ := chkF_ok hc
  have hn : 0 < l.length := by have := R.lt; omega
  refine chkF_of h1 ⟨by rw [R.len]; exact h2, ⟨Int.natCast_nonneg _, ?_⟩, List.all_eq_true.2 fun x hx => ?_, ?_⟩
  · rw [R.len]; exact Int.ofNat_lt.2 (Nat.mod_lt _ hn)
  · obtain ⟨y, hy, rfl | rfl⟩ := R.mem hx
    · exact List.all_eq_true.1 h4 _ hy
    · exact okF_clr (List.all_eq_true.1 h4 _ hy)
  · rw [pagesL_key] at h5 ⊢
    have : L.map keyF = l.map keyF := by
      refine List.ext_getElem (by simp [R.len]) fun j h1 h2 => ?_
      simp only [List.length_map] at h1 h2
      rw [List.getElem_map, List.getElem_map]
      have := R.same j h2
      rw [getD_get _ h1, getD_get _ h2] at this
      rcases this with e | ⟨e, _⟩
      · rw [e]
      · rw [e]; rfl
    rw [this]; exact h5

/-! ### The law -/
def twoC : CfgT := (4, 1, 2, 1, 4, 2, 2, 2, 4, ())
def rdy (page pins : Int) : FrT := (2, page, [7], [pins, 0], true, false, ())
theorem law25_two_spec : law25_two () = some twoC := rfl
theorem law25_ready_spec (a b : Int) : law25_ready (a, b) = some (rdy a b) := rfl
theorem chk_two (a b : Int) (ha : 0 ≤ a) (ha8 : a ≤ 8) (hb : 0 ≤ b) (hb8 : b ≤ 8) : chkF twoC [rdy 0 a, rdy 3 b] 1 = 0 := by
  refine chkF_of (by decide) ⟨rfl, ⟨by decide, by show (1 : Int) < 2; decide⟩, ?_, by show ([0, 3] : List Int).Nodup; decide⟩
  have key : ∀ p x : Int, 0 ≤ p → p ≤ 8 → 0 ≤ x → x < 4 → okF twoC (rdy x p) = true := by
    intro p x h1 h2 h3 h4
    simp [okF, twoC, rdy, pinsOk, h1, h2, h3, h4]
  simp only [List.all_cons, List.all_nil, key a 0 ha ha8 (by omega) (by omega), key b 3 hb hb8 (by omega) (by omega), Bool.and_self]
theorem small_two (a b : Int) : smallF [rdy 0 a, rdy 3 b] := ⟨by simp, fun x hx => by simp [rdy] at hx; rcases hx with rfl | rfl <;> simp⟩
theorem alive25 : law25_alive () = some true := by
  unfold law25_alive
  refine bind_to (law25_ready_spec _ _) ?_
  refine bind_to (law25_ready_spec _ _) ?_
  refine bind_to law25_two_spec ?_
  refine ite_some (Nat.le_refl _) ?_
  refine bind_to (frames_Victim_spec twoC [rdy 0 0, rdy 3 0] 1 (small_two _ _) (chk_two _ _ (by decide) (by decide) (by decide) (by decide))) ?_
  refine bind_to (law25_ready_spec _ _) ?_
  refine bind_to (law25_ready_spec _ _) ?_
  refine bind_to law25_two_spec ?_
  refine ite_some (Nat.le_refl _) ?_
  refine bind_to (frames_Victim_spec twoC [rdy 0 0, rdy 3 1] 1 (small_two _ _) (chk_two _ _ (by decide) (by decide) (by decide) (by decide))) ?_
  refine bind_to (law25_ready_spec _ _) ?_
  refine bind_to (law25_ready_spec _ _) ?_
  refine bind_to law25_two_spec ?_
  refine ite_some (Nat.le_refl _) ?_
  refine bind_to (frames_Victim_spec twoC [rdy 0 2, rdy 3 1] 1 (small_two _ _) (chk_two _ _ (by decide) (by decide) (by decide) (by decide))) ?_
  rfl

theorem framesClock_any (c : CfgT) (l : List FrT) (h : Int) (hlen : l.length ≤ 9223372036854775807) : law25_FramesClock (c, (l, h, ())) = some true := by
  unfold law25_FramesClock
  dsimp only
  refine bind_to alive25 ?_
  refine joinTo (fun j => j = true ∨ (smallF l ∧ chkF c l h = 0)) ?_ ?_
  rotate_left
  · intro k hk
    refine bind_to (ref25_Great_spec l h hlen) ?_
    cases hg : greatB l with
    | true => exact cond_t rfl (hk _ (.inl rfl))
    | false =>
      have hs := greatB_small hg
      refine cond_f rfl ?_
      refine bind_to (frames_Check_spec c l h (by have := hs.1; omega) (fun x hx => by have := hs.2 x hx; omega)) ?_
      rcases chkF_two c l h with h0 | h8
      · rw [h0]
        exact cond_f rfl (hk _ (.inr ⟨hs, h0⟩))
      · rw [h8]
        exact cond_t rfl (hk _ (.inl rfl))
  intro j hj
  cases j with
  | true => exact cond_t rfl rfl
  | false =>
    obtain ⟨hs, hc⟩ : smallF l ∧ chkF c l h = 0 := by rcases hj with h | h; cases h; exact h
    refine cond_f rfl ?_
    obtain ⟨hm, hn, ⟨hh0, hh1⟩, hall, hnd⟩ := chkF_ok hc
    have hl0 : 0 < l.length := by omega
    have hl20 := hs.1
    have hsz : ∀ {i : Nat} (hi : i < l.length), l[i].2.2.2.1.length ≤ 1000 := fun {i} hi => by have := hs.2 _ (List.getElem_mem hi); omega
    have hfs : ∀ {i : Nat} (hi : i < l.length), freeB l[i] = !skipB l[i] := fun {i} hi => free_skip (List.all_eq_true.1 hall _ (List.getElem_mem hi))
    refine bind_to (frames_Victim_spec c l h hs hc) ?_
    -- what the clock has done
    have hv : (vicS l h = (([], 0, ()), 0, 250) ∧ (∀ j, j < l.length → skipB (l.getD j noF) = true)) ∨ ∃ L p, vicS l h = ((L, (((p + 1) % l.length : Nat) : Int), ()), (p : Int), 0) ∧ VicR l L p := by
      have R := clk_all (l := l) (h := h.toNat) hl0
      unfold vicS
      generalize clk l.length h.toNat (2 * l.length) 0 l = V at R
      obtain ⟨L, o⟩ := V
      cases o with
      | none => exact .inl ⟨rfl, R.none rfl⟩
      | some p =>
        obtain ⟨a1, a2, a3, a4, a5, a6⟩ := R.some p rfl
        exact .inr ⟨L, p, rfl, ⟨a1, a2, a3, a4, a5, a6⟩⟩
    refine loop_inv (fun (s : Bool × (Bool × Int)) => ∃ i : Nat, s.2.2 = i ∧ i ≤ l.length ∧ s.1 = (l.take i).any freeB ∧ s.2.1 = (l.take i).all (fun x => !freeB x || x.2.2.2.2.1)) (fun s => l.length - s.2.2.toNat) ?_ ⟨0, rfl, Nat.zero_le _, rfl, rfl⟩ (mu_lt _ _ (by omega))
    rintro ⟨s1, s2, s3⟩ k ⟨i, rfl, hi, hs1, hs2⟩ hk
    dsimp only at hs1 hs2 hk ⊢
    by_cases hlt : i < l.length
    · refine cond_t (decide_eq_true (by simp only [Dat.ofN, Dat.len]; omega)) ?_
      have hix : Dat.Ix (i : Int) (Dat.len l) := ⟨by omega, by simp only [Dat.len]; omega⟩
      refine ite_some hix ?_
      refine bnd_to (fget l hlt) ?_
      refine bind_to (law25_free_spec l[i] (hsz hlt)) ?_
      refine joinTo (fun j => j.1 = (l.take (i + 1)).any freeB ∧ j.2 = (l.take (i + 1)).all (fun x => !freeB x || x.2.2.2.2.1)) ?_ ?_
      · rintro ⟨j1, j2⟩ ⟨e1, e2⟩
        refine bnd_to (wrapI (x := Dat.add (i : Int) 1) (by simp only [Dat.add]; omega)) ?_
        exact hk _ ⟨i + 1, rfl, hlt, e1, e2⟩ (by simp only [Dat.add]; omega)
      · intro k' hk'
        have ea : (l.take (i + 1)).any freeB = ((l.take i).any freeB || freeB l[i]) := by rw [List.take_succ_eq_append_getElem hlt, List.any_append]; simp
        have eb : (l.take (i + 1)).all (fun x => !freeB x || x.2.2.2.2.1) = ((l.take i).all (fun x => !freeB x || x.2.2.2.2.1) && (!freeB l[i] || l[i].2.2.2.2.1)) := by rw [List.take_succ_eq_append_getElem hlt, List.all_append]; simp
        rw [← hs1] at ea
        rw [← hs2] at eb
        cases hf : freeB l[i] with
        | true =>
          rw [hf] at ea eb
          refine cond_t rfl ?_
          refine joinTo (fun j => j = (s2 && l[i].2.2.2.2.1)) (fun j hj => hk' _ ⟨by rw [ea]; simp, by rw [eb, hj]; simp⟩) ?_
          intro k2 hk2
          cases s2 with
          | true =>
            refine cond_t rfl ?_
            refine ite_some hix ?_
            refine bnd_to (fget l hlt) ?_
            exact hk2 _ (by simp [Dat.pickB])
          | false => exact cond_f rfl (hk2 _ (by simp))
        | false =>
          rw [hf] at ea eb
          exact cond_f rfl (hk' _ ⟨by rw [ea]; simp, by rw [eb]; simp⟩)
    · refine cond_f (decide_eq_false (by simp only [Dat.ofN, Dat.len]; omega)) ?_
      rw [List.take_of_length_le (by omega)] at hs1 hs2
      clear hk hlt
      rcases hv with ⟨hv, hno⟩ | ⟨L, p, hv, R⟩
      · rw [hv]
        refine cond_t rfl ?_
        have hs1' : s1 = false := by
          rw [hs1, List.any_eq_false]
          intro x hx
          obtain ⟨j, hj, rfl⟩ := List.getElem_of_mem hx
          rw [hfs hj]
          have := hno j hj
          rw [getD_get _ hj] at this
          simp [this]
        subst hs1'
        refine joinTo (fun j => j = true) (fun j hj => by rw [hj]) ?_
        intro k2 hk2
        exact cond_t rfl (cond_t rfl (hk2 _ rfl))
      · rw [hv]
        dsimp only
        refine cond_f rfl ?_
        have hp := R.lt
        have hpL : p < L.length := by rw [R.len]; exact hp
        have hfree : freeB l[p] = true := by
          have := R.free
          rw [getD_get _ hp] at this
          rw [hfs hp, this]; rfl
        have hs1' : s1 = true := by rw [hs1, List.any_eq_true]; exact ⟨l[p], List.getElem_mem hp, hfree⟩
        subst hs1'
        have hLref : L[p].2.2.2.2.1 = false := by have := R.ref; rwa [getD_get _ hpL] at this
        have hix : Dat.Ix (p : Int) (Dat.len l) := ⟨by omega, by simp only [Dat.len]; omega⟩
        have hixL : Dat.Ix (p : Int) (Dat.len L) := ⟨by omega, by simp only [Dat.len]; omega⟩
        have hsL := R.small hs
        have hchk := R.chk hc
        have hLlen := R.len
        refine joinTo (fun j => j = false) ?_ ?_
        rotate_left
        · intro k2 hk2
          refine cond_f rfl ?_
          refine cond_f (by simp [Dat.pickB, Dat.ilt]) ?_
          refine cond_f (by simp [Dat.pickB, Dat.ige, Dat.ofN, Dat.len]; omega) ?_
          refine ite_some hix ?_
          refine bnd_to (fget l hp) ?_
          refine bind_to (law25_free_spec l[p] (hsz hp)) ?_
          rw [hfree]
          refine cond_f rfl ?_
          refine ite_some hix ?_
          refine bnd_to (fget l hp) ?_
          have hw : Dat.wrap .i64 (Dat.add (p : Int) 1) = ((p + 1 : Nat) : Int) := (wrapI (x := Dat.add (p : Int) 1) (by simp only [Dat.add]; omega)).trans (by simp [Dat.add])
          have hmod : Dat.tmod ((p + 1 : Nat) : Int) (Dat.ofN (Dat.len l)) = (((p + 1) % l.length : Nat) : Int) := by
            simp only [Dat.tmod, Dat.ofN, Dat.len]; exact (Int.ofNat_tmod _ _).symm
          cases hr : l[p].2.2.2.2.1 with
          | true =>
            refine cond_t rfl ?_
            have hs2' : s2 = true := by
              rw [hs2, List.all_eq_true]
              intro x hx
              obtain ⟨j, hj, rfl⟩ := List.getElem_of_mem hx
              have := R.all (by rw [getD_get _ hp]; exact hr) j hj
              rw [getD_get _ hj] at this
              rw [hfs hj]
              cases hk : skipB l[j] with
              | true => rfl
              | false => rw [this hk]; rfl
            subst hs2'
            refine cond_f rfl ?_
            refine cond_f (by simp [Dat.pickB, Dat.ine, Dat.ofN, Dat.len, hLlen]) ?_
            refine bnd_to hw ?_
            refine ite_none (show ¬ ((l.length : Int) = 0) by omega) ?_
            refine bnd_to hmod ?_
            refine cond_f (by simp [Dat.pickB, Dat.ine]) ?_
            refine ite_some hixL ?_
            refine bnd_to (fget L hpL) ?_
            exact hk2 _ (by rw [hLref]; rfl)
          | false =>
            refine cond_f rfl ?_
            refine cond_f (by simp [Dat.pickB, Dat.ine, Dat.ofN, Dat.len, hLlen]) ?_
            refine bnd_to hw ?_
            refine ite_none (show ¬ ((l.length : Int) = 0) by omega) ?_
            refine bnd_to hmod ?_
            refine cond_f (by simp [Dat.pickB, Dat.ine]) ?_
            refine ite_some hixL ?_
            refine bnd_to (fget L hpL) ?_
            exact hk2 _ (by rw [hLref]; rfl)
        intro j hj
        subst hj
        refine cond_f rfl ?_
        refine bind_to (ref25_Twin_spec L _ hsL) ?_
        refine iteN (show ¬ L.length = 0 by omega) ?_
        refine loop_inv (fun (s : Int × List FrT) => ∃ i : Nat, s.1 = i ∧ i ≤ l.length ∧ s.2 = l.take i ++ L.drop i) (fun s => l.length - s.1.toNat) ?_ ⟨0, rfl, Nat.zero_le _, by simp⟩ (mu_lt _ _ (by omega))
        rintro ⟨t1, t2⟩ k ⟨i, rfl, hi, rfl⟩ hk
        dsimp only at hk ⊢
        by_cases hlt : i < l.length
        · have hltL : i < L.length := by omega
          refine cond_t (decide_eq_true (by simp only [Dat.ofN, Dat.len]; omega)) ?_
          have hix : Dat.Ix (i : Int) (Dat.len l) := ⟨by omega, by simp only [Dat.len]; omega⟩
          have hixL : Dat.Ix (i : Int) (Dat.len L) := ⟨by omega, by simp only [Dat.len]; omega⟩
          have hsm := R.same i hlt
          rw [getD_get _ hlt, getD_get _ hltL] at hsm
          refine joinTo (fun j => j = false) ?_ ?_
          · intro j hj
            subst hj
            refine cond_f rfl ?_
            refine ite_some hix ?_
            refine bnd_to (fget l hlt) ?_
            have hlen2 : (l.take i ++ L.drop i).length = L.length := by simp; omega
            refine ite_some (show Dat.In (i : Int) (Dat.len L) from ⟨by omega, by simp only [Dat.len]; omega⟩) ?_
            refine ite_some (by simp only [Dat.Lt, Dat.len, hlen2, Dat.addN, Dat.toN]; omega) ?_
            have hgi : (l.take i ++ L.drop i)[i]'(by omega) = L[i] := by
              have ht : (l.take i).length = i := by rw [List.length_take]; omega
              rw [List.getElem_append_right (by omega)]
              simp [ht]
            refine bnd_to ((fget0 (l.take i ++ L.drop i) (by omega)).trans hgi) ?_
            have hval : ((L[i].1, (L[i].2.1, (L[i].2.2.1, (L[i].2.2.2.1, (l[i].2.2.2.2.1, (L[i].2.2.2.2.2.1, ())))))) : FrT) = l[i] := by
              rcases hsm with e | ⟨e, _⟩
              · rw [e]
              · rw [e]; rfl
            have hset : Dat.set (l.take i ++ L.drop i) (Dat.addN 0 (Dat.toN (i : Int))) l[i] = l.take (i + 1) ++ L.drop (i + 1) := by
              have ei : Dat.addN 0 (Dat.toN (i : Int)) = i := by simp [Dat.toN]
              rw [ei]
              show (l.take i ++ L.drop i).set i l[i] = _
              have ht : (l.take i).length = i := by rw [List.length_take]; omega
              rw [List.set_append_right _ _ (by omega), ht, Nat.sub_self, List.drop_eq_getElem_cons hltL, List.set_cons_zero, List.take_succ_eq_append_getElem hlt, List.append_assoc]
              rfl
            refine bnd_to ((congrArg (Dat.set (l.take i ++ L.drop i) (Dat.addN 0 (Dat.toN (i : Int)))) hval).trans hset) ?_
            refine bnd_to (wrapI (x := Dat.add (i : Int) 1) (by simp only [Dat.add]; omega)) ?_
            exact hk _ ⟨i + 1, rfl, hlt, rfl⟩ (by simp only [Dat.add]; omega)
          · intro k2 hk2
            refine ite_some hix ?_
            refine bnd_to (fget l hlt) ?_
            refine bind_to (law25_free_spec l[i] (hsz hlt)) ?_
            have fin : ∀ b, b = L[i].2.2.2.2.1 → b = true → l[i].2.2.2.2.1 = true := by
              intro b hb hbt
              rcases hsm with e | ⟨e, _⟩
              · rw [← e, ← hb]; exact hbt
              · rw [hb, e] at hbt; simp [clr] at hbt
            cases hf : freeB l[i] with
            | true =>
              refine cond_f rfl ?_
              refine ite_some hixL ?_
              refine bnd_to (fget L hltL) ?_
              cases hb : L[i].2.2.2.2.1 with
              | true =>
                refine cond_t rfl ?_
                refine ite_some hix ?_
                refine bnd_to (fget l hlt) ?_
                exact hk2 _ (by rw [fin true hb.symm rfl]; rfl)
              | false => exact cond_f rfl (hk2 _ rfl)
            | false =>
              have hsame : L[i] = l[i] := by
                rcases hsm with e | ⟨_, e⟩
                · exact e
                · rw [hfs hlt, e] at hf; cases hf
              refine cond_t rfl ?_
              refine ite_some hixL ?_
              refine bnd_to (fget L hltL) ?_
              refine ite_some hix ?_
              refine bnd_to (fget l hlt) ?_
              refine cond_f (by rw [hsame]; simp [Dat.pickB, Dat.bnot, Dat.beq]) ?_
              refine ite_some hixL ?_
              refine bnd_to (fget L hltL) ?_
              cases hb : L[i].2.2.2.2.1 with
              | true =>
                refine cond_t rfl ?_
                refine ite_some hix ?_
                refine bnd_to (fget l hlt) ?_
                exact hk2 _ (by rw [fin true hb.symm rfl]; rfl)
              | false => exact cond_f rfl (hk2 _ rfl)
        · refine cond_f (decide_eq_false (by simp only [Dat.ofN, Dat.len]; omega)) ?_
          have hi' : i = l.length := by omega
          subst hi'
          refine joinTo (fun j => j = true) (fun j hj => by rw [hj]) ?_
          intro k2 hk2
          refine cond_t rfl ?_
          have hE : l.take l.length ++ L.drop l.length = l := by
            rw [List.take_length, List.drop_of_length_le (by omega), List.append_nil]
          rw [hE]
          refine ite_some (by simp only [Dat.Le, Dat.addN, Dat.len]; omega) ?_
          have hsg : Dat.seg l 0 (Dat.len L) = l := by
            simp only [Dat.seg, Dat.len, List.drop_zero]
            rw [List.take_of_length_le (by omega)]
          rw [hsg]
          refine bind_to (ref25_Same_self l h hs) ?_
          refine cond_t rfl ?_
          refine bind_to (frames_Check_spec c L _ (by have := hsL.1; omega) (fun x hx => by have := hsL.2 x hx; omega)) ?_
          rw [hchk]
          exact hk2 _ rfl

theorem law25_FramesClock_true (d : Els p_law25_FramesClock.args) (hf : Fits p_law25_FramesClock.args d) : law25_FramesClock d = some true := by
  obtain ⟨c, ⟨l, h, _⟩⟩ := d
  have hl : l.length ≤ maxLen := hf.2.1.1
  exact framesClock_any c l h (by rw [maxLen_eq] at hl; exact hl)
end Go.Proofs.Ytablhcjjfiepaaa
