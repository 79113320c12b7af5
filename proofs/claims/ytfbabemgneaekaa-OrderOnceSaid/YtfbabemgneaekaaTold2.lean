/- Which cells are told: a level's, a tick's. -/
import Derived.Test.YtfbabemgneaekaaTold
namespace Go.Proofs.Ytfbabemgneaekaa
open Go.Eng
set_option linter.unusedVariables false
set_option linter.unusedSimpArgs false

theorem rb_pos {F : Int} (h2 : 2 ≤ F) (h8 : F ≤ 8) : ∀ (m : Nat) (b : Int), 0 ≤ b → b ≤ 64 → ∀ x ∈ rb F m b, 0 ≤ x ∧ x ≤ 64
  | 0, b, _, _, x, hx => by simp [rb] at hx
  | m + 1, b, h0, h64, x, hx => by
    simp only [rb, List.mem_cons] at hx
    have := div_le h2 h8 h0
    rcases hx with rfl | hx
    · exact ⟨h0, h64⟩
    · exact rb_pos h2 h8 m (b / F) this.1 (by omega) x hx

/-- What a unit's page has at a level; below 0: there is none. -/
noncomputable def keyU (c : CfgT) (lv : Nat) (u : UnT) : Int := if u.1 = 0 then -1 else (rb c.2.2.1 (nLev c) u.2.1).getD lv 0
def u0 : UnT := (0, (0, (0, (([] : List Int), ()))))
noncomputable def ksU (c : CfgT) (l : List UnT) (lv i : Nat) : Int := keyU c lv (l.getD i u0)
/-- The last one before, with that. -/
noncomputable def lastI (ks : Nat → Int) (b : Int) : Nat → Option Nat
  | 0 => none
  | i + 1 => if ks i = b then some i else lastI ks b i
noncomputable def cellT (ks : Nat → Int) (t : Nat) : Int := if ks t = -1 then 2 * t + 1 else match lastI ks (ks t) t with | some i => 2 * (i : Int) | none => 2 * t + 1
theorem lastI_lt {ks : Nat → Int} {b : Int} : ∀ {n i : Nat}, lastI ks b n = some i → i < n ∧ ks i = b ∧ ∀ j, i < j → j < n → ks j ≠ b
  | 0, i, h => by simp [lastI] at h
  | n + 1, i, h => by
    simp only [lastI] at h
    split at h
    · simp at h; subst h
      exact ⟨by omega, by assumption, fun j h1 h2 => by omega⟩
    · rename_i hn
      obtain ⟨h1, h2, h3⟩ := lastI_lt h
      refine ⟨by omega, h2, fun j g1 g2 => ?_⟩
      by_cases hj : j = n
      · subst hj; exact hn
      · exact h3 j g1 (by omega)
theorem lastI_none {ks : Nat → Int} {b : Int} : ∀ {n : Nat}, lastI ks b n = none → ∀ j, j < n → ks j ≠ b
  | 0, h, j, hj => by omega
  | n + 1, h, j, hj => by
    simp only [lastI] at h
    split at h
    · simp at h
    · rename_i hn
      by_cases e : j = n
      · subst e; exact hn
      · exact lastI_none h j (by omega)

theorem key_pos {c : CfgT} (hm : mayB c = true) {u : UnT} (hu : unitOk c u = true) {lv : Nat} (hlv : lv < nLev c) : u.1 ≠ 0 → 0 ≤ keyU c lv u ∧ 0 ≤ u.2.1 ∧ u.2.1 < c.1 ∧ u.2.1 ≤ 64 := by
  intro h
  obtain ⟨N, _⟩ := mayB_nums hm
  have hp : 0 ≤ u.2.1 ∧ u.2.1 < c.1 := by
    simp only [unitOk, decide_eq_true_eq] at hu
    omega
  have p2 := N.p2
  refine ⟨?_, hp.1, hp.2, by omega⟩
  rw [keyU, if_neg h]
  have hl : lv < (rb c.2.2.1 (nLev c) u.2.1).length := by rw [rb_len]; exact hlv
  simp only [List.getD, List.getElem?_eq_getElem hl, Option.getD_some]
  exact (rb_pos N.f1 N.f2 _ _ hp.1 (by omega) _ (List.getElem_mem hl)).1

theorem road_at {c : CfgT} (hm : mayB c = true) {p : Int} (h0 : 0 ≤ p) (h1 : p < c.1) : roadS c p = (rb c.2.2.1 (nLev c) p, rp c.2.2.1 (nLev c) p, 0) := by
  rw [roadS, if_pos hm, if_pos ⟨h0, h1⟩]; rfl

theorem mk_rows {n : Nat} (h : n ≤ 4096) (b : Nat) (hb : b ≤ 64) : Dat.MkOk (Dat.ofN n) (Dat.ofN n) b :=
  Dat.MkOk_iff.2 ⟨by simp only [Dat.ofN]; omega, Int.le_refl _, by simp only [Dat.ofN]; omega, by
    simp only [Dat.ofN]
    have : b * n ≤ 64 * 4096 := Nat.mul_le_mul hb h
    omega⟩

theorem order_told_spec (c : CfgT) (l : List UnT) (lv : Nat) (hm : mayB c = true) (hl : l.length ≤ 512) (hu : ∀ u ∈ l, unitOk c u = true) (hlv : lv < nLev c) :
    order_told (c, (l, (lv : Int))) = some ((List.range l.length).map (cellT (ksU c l lv))) := by
  unfold order_told
  simp only [eta c]
  refine ite_some (mk_rows (by simp only [Dat.len]; omega) 8 (by decide)) ?_
  have htn : Dat.toN (Dat.ofN (Dat.len l)) = l.length := by simp [Dat.toN, Dat.ofN, Dat.len]
  rw [htn]
  generalize hks : ksU c l lv = ks
  have h0 : ∃ (i : Nat) (M : List (Int × Int)), i ≤ l.length ∧ (∀ b, mval M b = if b = -1 then none else (lastI ks b i).map (fun (n : Nat) => (n : Int))) ∧
      (((0 : Int), (Dat.rep (α := Int) l.length 0, ([] : List (Int × Int)))) : Int × (List Int × List (Int × Int))) = ((i : Int), (flG 0 (cellT ks) l.length i, M)) :=
    ⟨0, [], by omega, fun b => by simp [mval, Dat.mfind, lastI], by rw [flG_zero]; rfl⟩
  refine loop_inv (fun s => ∃ (i : Nat) (M : List (Int × Int)), i ≤ l.length ∧ (∀ b, mval M b = if b = -1 then none else (lastI ks b i).map (fun (n : Nat) => (n : Int))) ∧ s = ((i : Int), (flG 0 (cellT ks) l.length i, M)))
    (fun s => l.length - s.1.toNat) ?_ h0 (mu_lt l.length _ (by omega))
  rintro s k ⟨i, M, hi, hM, rfl⟩ hk
  dsimp only
  by_cases h : i < l.length
  · refine cond_t (decide_eq_true (by simp only [Dat.ofN, Dat.len]; omega)) ?_
    refine ite_some ⟨by omega, by simp only [Dat.len]; omega⟩ ?_
    refine bnd_to (y := l[i]) (by simp [Dat.get, Dat.toN, List.getD, h]) ?_
    have hui := hu l[i] (List.getElem_mem h)
    have hki : ks i = keyU c lv l[i] := by rw [← hks, ksU]; simp [List.getD, h]
    refine bnd_to (wrapI (by simp only [Dat.mul]; omega)) ?_
    refine bnd_to (y := 2 * (i : Int) + 1) (wrapI (by simp only [Dat.mul, Dat.add]; omega)) ?_
    refine ite_some ⟨by omega, by omega⟩ ?_
    refine ite_some (by simp only [Dat.Lt, Dat.addN, Dat.toN, Dat.len, Int.toNat_natCast, flG_len]; omega) ?_
    refine bnd_to (y := (flG 0 (cellT ks) l.length i).set i (2 * (i : Int) + 1)) (by simp only [Dat.set, Dat.addN, Dat.toN, Int.toNat_natCast, Nat.zero_add]) ?_
    have hnext : ∀ M', (∀ b, mval M' b = if b = -1 then none else (lastI ks b (i + 1)).map (fun (n : Nat) => (n : Int))) → k ((i : Int) + 1, (flG 0 (cellT ks) l.length (i + 1), M')) = some ((List.range l.length).map (cellT ks)) := fun M' hM' =>
      hk _ ⟨i + 1, M', by omega, hM', rfl⟩ (by show l.length - ((i : Int) + 1).toNat < l.length - ((i : Int)).toNat; omega)
    by_cases h1 : l[i].1 = 0
    · refine cond_t (by simp [Dat.ieq, h1]) ?_
      have hk1 : ks i = -1 := by rw [hki, keyU, if_pos h1]
      refine bnd_to (wrapI (by simp only [Dat.add]; omega)) ?_
      have e1 : (flG 0 (cellT ks) l.length i).set i (2 * (i : Int) + 1) = flG 0 (cellT ks) l.length (i + 1) := by
        rw [← flG_set _ _ _ _ h]; congr 1; rw [cellT, if_pos hk1]
      rw [e1]
      refine hnext M fun b => ?_
      rw [hM b]
      by_cases hb : b = -1
      · rw [if_pos hb, if_pos hb]
      · rw [if_neg hb, if_neg hb, lastI, if_neg (by rw [hk1]; exact fun e => hb e.symm)]
    · obtain ⟨kp, p0, p1, p64⟩ := key_pos hm hui hlv h1
      refine cond_f (by simp [Dat.ieq, h1]) ?_
      refine bind_to (conf_Road_spec c l[i].2.1) ?_
      rw [road_at hm p0 p1]
      dsimp only
      have hbl : lv < (rb c.2.2.1 (nLev c) l[i].2.1).length := by rw [rb_len]; exact hlv
      have hb : (rb c.2.2.1 (nLev c) l[i].2.1).getD lv 0 = ks i := by rw [hki, keyU, if_neg h1]
      rw [← hki] at kp
      have hne : ¬ ks i = -1 := by omega
      refine ite_some ⟨by omega, by simp only [Dat.len]; omega⟩ ?_
      refine bnd_to (y := ks i) (by simp only [Dat.get, Dat.toN, Int.toNat_natCast]; exact hb) ?_
      refine bnd_to (y := (mval M (ks i)).getD 0) (mget_eq _ _) ?_
      refine bnd_to (y := (mval M (ks i)).isSome) (mhas_eq _ _) ?_
      have hv := hM (ks i)
      rw [if_neg hne] at hv
      have hM' : ∀ b, mval (Dat.mput M (ks i) (i : Int)) b = if b = -1 then none else (lastI ks b (i + 1)).map (fun (n : Nat) => (n : Int)) := by
        intro b
        rw [mval_put]
        by_cases e : b = ks i
        · rw [if_pos e, if_neg (by omega), lastI, if_pos e.symm]; rfl
        · rw [if_neg e, hM b]
          by_cases hb1 : b = -1
          · rw [if_pos hb1, if_pos hb1]
          · rw [if_neg hb1, if_neg hb1, lastI, if_neg (fun e2 => e e2.symm)]
      rw [hv]
      cases hla : lastI ks (ks i) i with
      | some j =>
        have hj := (lastI_lt hla).1
        refine cond_t rfl ?_
        refine bnd_to (y := 2 * (j : Int)) (by simp only [Option.map_some, Option.getD_some, Dat.mul]; rw [wrapI]; omega) ?_
        refine ite_some ⟨by omega, by omega⟩ ?_
        refine ite_some (by simp only [Dat.Lt, Dat.addN, Dat.toN, Dat.len, Int.toNat_natCast, List.length_set, flG_len]; omega) ?_
        refine bnd_to (y := flG 0 (cellT ks) l.length (i + 1)) (by
          simp only [Dat.set, Dat.addN, Dat.toN, Int.toNat_natCast, Nat.zero_add, List.set_set]
          rw [← flG_set _ _ _ _ h]; congr 1; rw [cellT, if_neg hne, hla]) ?_
        refine ite_some ⟨by omega, by simp only [Dat.len]; omega⟩ ?_
        refine bnd_to (y := ks i) (by simp only [Dat.get, Dat.toN, Int.toNat_natCast]; exact hb) ?_
        refine bnd_to rfl ?_
        refine bnd_to (wrapI (by simp only [Dat.add]; omega)) ?_
        exact hnext _ hM'
      | none =>
        refine cond_f rfl ?_
        refine ite_some ⟨by omega, by simp only [Dat.len]; omega⟩ ?_
        refine bnd_to (y := ks i) (by simp only [Dat.get, Dat.toN, Int.toNat_natCast]; exact hb) ?_
        refine bnd_to rfl ?_
        refine bnd_to (wrapI (by simp only [Dat.add]; omega)) ?_
        have e1 : (flG 0 (cellT ks) l.length i).set i (2 * (i : Int) + 1) = flG 0 (cellT ks) l.length (i + 1) := by
          rw [← flG_set _ _ _ _ h]; congr 1; rw [cellT, if_neg hne, hla]
        rw [e1]
        exact hnext _ hM'
  · obtain rfl : i = l.length := by omega
    refine cond_f (decide_eq_false (by simp only [Dat.ofN, Dat.len]; omega)) ?_
    refine ite_some (by simp only [Dat.Le, Dat.addN, Dat.len, flG_len]; omega) ?_
    rw [flG_full]
    simp only [Dat.seg, List.drop_zero]
    rw [List.take_of_length_le (by simp)]

theorem ref21_block_spec (c : CfgT) (u : UnT) (lv : Nat) (hm : mayB c = true) (hu : unitOk c u = true) (hlv : lv < nLev c) : ref21_block (c, (u, (lv : Int))) = some (keyU c lv u) := by
  obtain ⟨N, _⟩ := mayB_nums hm
  unfold ref21_block
  simp only [eta c]
  by_cases h1 : u.1 = 0
  · refine cond_t (by simp [Dat.ieq, h1]) ?_
    rw [keyU, if_pos h1]
  · obtain ⟨_, p0, p1, p64⟩ := key_pos hm hu hlv h1
    refine cond_f (by simp [Dat.ieq, h1]) ?_
    refine bind_to (ref08_Way_spec N p0 p64) ?_
    dsimp only
    refine ite_some ⟨by omega, by simp only [Dat.len, rb_len]; have := hlv; unfold nLev at this; omega⟩ ?_
    refine bnd_to rfl ?_
    rw [keyU, if_neg h1]
    simp only [Dat.get, Dat.toN, Int.toNat_natCast]; rfl

theorem ref21_Told_spec (c : CfgT) (l : List UnT) (lv t : Nat) (hm : mayB c = true) (hl : l.length ≤ 512) (hu : ∀ u ∈ l, unitOk c u = true) (hlv : lv < nLev c) (ht : t < l.length) :
    ref21_Told (c, (l, ((lv : Int), (t : Int)))) = some (cellT (ksU c l lv) t) := by
  unfold ref21_Told
  simp only [eta c]
  have key : ∀ i (h : i < l.length), ksU c l lv i = keyU c lv l[i] := fun i h => by rw [ksU]; simp [List.getD, h]
  refine ite_some ⟨by omega, by simp only [Dat.len]; omega⟩ ?_
  refine bnd_to (y := l[t]) (by simp [Dat.get, Dat.toN, List.getD, ht]) ?_
  refine bind_to (ref21_block_spec c l[t] lv hm (hu _ (List.getElem_mem ht)) hlv) ?_
  rw [← key t ht]
  generalize hks : ksU c l lv = ks at *
  refine bnd_to (wrapI (by simp only [Dat.sub]; omega)) ?_
  have hpos : ¬ ks t = -1 → 0 ≤ ks t := by
    intro h
    rw [key t ht] at h ⊢
    have h1 : l[t].1 ≠ 0 := fun e => h (by rw [keyU, if_pos e])
    exact (key_pos hm (hu _ (List.getElem_mem ht)) hlv h1).1
  by_cases hb : ks t = -1
  · refine loop_inv (fun s => s = (t : Int) - 1) (fun s => 0) ?_ rfl (by decide)
    rintro s k rfl hk
    have fin : (Dat.bnd (Dat.wrap .i64 (Dat.mul 2 (t : Int))) fun (x14 : Int) => Dat.bnd (Dat.wrap .i64 (Dat.add x14 1)) fun (x15 : Int) => some x15) = some (cellT ks t) := by
      refine bnd_to (wrapI (by simp only [Dat.mul]; omega)) ?_
      refine bnd_to (wrapI (by simp only [Dat.mul, Dat.add]; omega)) ?_
      rw [cellT, if_pos hb]
    by_cases h0 : (t : Int) - 1 ≥ 0
    · refine cond_t (decide_eq_true h0) ?_
      refine cond_f (by rw [hb]; rfl) ?_
      exact fin
    · exact cond_f (decide_eq_false h0) fin
  · have hp := hpos hb
    refine loop_inv (fun s => ∃ j : Nat, j ≤ t ∧ s = (j : Int) - 1 ∧ lastI ks (ks t) t = lastI ks (ks t) j) (fun s => (s + 1).toNat) ?_ ⟨t, Nat.le_refl _, rfl, rfl⟩ (by show ((t : Int) - 1 + 1).toNat < _; omega)
    rintro s k ⟨j, hj, rfl, hlast⟩ hk
    cases j with
    | zero =>
      refine cond_f (by decide) ?_
      refine bnd_to (wrapI (by simp only [Dat.mul]; omega)) ?_
      refine bnd_to (wrapI (by simp only [Dat.mul, Dat.add]; omega)) ?_
      rw [cellT, if_neg hb, hlast]; rfl
    | succ j =>
      have ej : ((j + 1 : Nat) : Int) - 1 = (j : Int) := by omega
      rw [ej] at *
      refine cond_t (decide_eq_true (by omega)) ?_
      refine cond_t (by show Dat.pickB true (Dat.ige (ks t) 0) false = true; simp [Dat.pickB, Dat.ige, hp]) ?_
      have hjl : j < l.length := by omega
      refine ite_some ⟨by omega, by simp only [Dat.len]; omega⟩ ?_
      refine bnd_to (y := l[j]) (by simp [Dat.get, Dat.toN, List.getD, hjl]) ?_
      refine bind_to (ref21_block_spec c l[j] lv hm (hu _ (List.getElem_mem hjl)) hlv) ?_
      rw [← key j hjl]
      by_cases he : ks j = ks t
      · refine cond_t (by simp [Dat.ieq, he]) ?_
        refine bnd_to (wrapI (by simp only [Dat.mul]; omega)) ?_
        rw [cellT, if_neg hb, hlast, lastI, if_pos he]
      · refine cond_f (by simp [Dat.ieq, he]) ?_
        refine bnd_to (wrapI (by simp only [Dat.sub]; omega)) ?_
        refine hk _ ⟨j, by omega, rfl, by rw [hlast, lastI, if_neg he]⟩ ?_
        show ((j : Int) - 1 + 1).toNat < (((j + 1 : Nat) : Int) - 1 + 1).toNat
        omega
end Go.Proofs.Ytfbabemgneaekaa
