/- SHA-256: the document's digests, and digests of parts. -/
import Derived.Test.YtecoonecmmbggaaDoorShaD
namespace Go.Proofs.YtecoonecmmbggaaDoor
open Go.Eng
set_option linter.unusedVariables false
set_option linter.unusedSimpArgs false

def l8 (m : Int) (j : Nat) : List Int := (List.range j).map fun t => lenB m (7 - t)
theorem l8_len (m : Int) (j : Nat) : (l8 m j).length = j := by simp [l8]
theorem l8_succ (m : Int) (j : Nat) : l8 m (j + 1) = l8 m j ++ [lenB m (7 - j)] := by simp [l8, List.range_succ]

def padk (r : Nat) : Nat := if r < 56 then 55 - r else 119 - r

theorem fin_eat (W : List W32) (r : List Int) (m : Int) (hr : r.length < 64) (L : List Int) (hL : L = r ++ [128] ++ List.replicate (padk r.length) 0 ++ l8 m 8) : fin W r m = eat W L (L.length / 64) := by
  have e8 : l8 m 8 = len8 m := rfl
  rw [e8] at hL
  have h8 : (len8 m).length = 8 := rfl
  unfold fin padk at *
  split at hL
  · rename_i h
    have hlen : L.length = 64 := by rw [hL]; simp [h8]; omega
    rw [if_pos h, hlen]
    have e : r ++ 128 :: List.replicate (55 - r.length) 0 ++ len8 m = L := by rw [hL]; simp
    rw [e]
    show _ = trn (eat W L 0) ((L.drop (64 * 0)).take 64)
    rw [Nat.mul_zero, List.drop_zero, List.take_of_length_le (by omega)]; rfl
  · rename_i h
    have hlen : L.length = 128 := by rw [hL]; simp [h8]; omega
    rw [if_neg h, hlen]
    show _ = trn (trn (eat W L 0) ((L.drop (64 * 0)).take 64)) ((L.drop (64 * 1)).take 64)
    have e : L = (r ++ 128 :: List.replicate (63 - r.length) 0) ++ (List.replicate 56 0 ++ len8 m) := by
      rw [hL, show 119 - r.length = (63 - r.length) + 56 by omega, ← List.replicate_append_replicate]; simp
    have h1 : (r ++ 128 :: List.replicate (63 - r.length) (0 : Int)).length = 64 := by simp; omega
    rw [Nat.mul_zero, List.drop_zero, Nat.mul_one, e, List.take_append_of_le_length (by omega), List.take_of_length_le (by omega), List.drop_append_of_le_length (by omega), List.drop_of_length_le (by omega), List.nil_append, List.take_of_length_le (by simp [h8])]
    rfl

theorem ref02_Ended_spec (W : List W32) (r : List Int) (m : Int) (hW : W.length = 8) (hr : r.length < 64) (hm : 0 ≤ m ∧ m < 18446744073709551616) :
    ref02_Ended (W.map ofW, (r, (m, ()))) = some (toldW (fin W r m)) := by
  unfold ref02_Ended
  dsimp only
  rw [eight (map_len hW)]
  refine ite_some (by decide) ?_
  refine ite_none (by simp only [Dat.Big, Dat.len, Dat.seg, List.drop_nil, List.take_nil, List.length_nil]; omega) ?_
  refine bnd_to (y := r) (by simp [Dat.app, Dat.seg]) ?_
  refine ite_some (by decide) ?_
  refine ite_none (by simp only [Dat.Big, Dat.len, Dat.seg, List.drop_zero, List.take_succ_cons, List.take_zero, List.length_cons, List.length_nil]; omega) ?_
  refine ite_some rfl ?_
  refine bnd_to (y := r ++ [128]) rfl ?_
  refine ite_some rfl ?_
  refine loop_inv (fun s => ∃ k : Nat, k ≤ padk r.length ∧ s = r ++ [128] ++ List.replicate k 0) (fun s => 200 - s.length) ?_ ⟨0, by omega, by simp⟩ (mu_lt 200 _ (by omega))
  rintro s k ⟨j, hj, rfl⟩ hk
  have hlen : (r ++ [128] ++ List.replicate j (0 : Int)).length = r.length + 1 + j := by simp; omega
  have hp : padk r.length + r.length + 1 = 56 ∨ padk r.length + r.length + 1 = 120 ∧ 56 ≤ r.length := by unfold padk; split <;> omega
  refine ite_none (by decide) ?_
  refine bnd_to (y := (((r.length + 1 + j) % 64 : Nat) : Int)) (by simp only [Dat.tmod, Dat.ofN, Dat.len, hlen]; rw [Int.tmod_eq_emod_of_nonneg (by omega)]; omega) ?_
  by_cases h : j = padk r.length
  · refine cond_f (by have : (r.length + 1 + j) % 64 = 56 := by omega
                      rw [this]; rfl) ?_
    refine bnd_to rfl ?_
    refine ite_some rfl ?_
    subst h
    clear hk k
    generalize hb2 : r ++ [128] ++ List.replicate (padk r.length) (0 : Int) = b2 at hlen
    refine loop_inv (fun s => ∃ t : Nat, t ≤ 8 ∧ s = (b2 ++ l8 m t, (7 : Int) - t)) (fun s => (s.2 + 1).toNat) ?_ ⟨0, by omega, by simp [l8]⟩ (by show ((7 : Int) + 1).toNat < _; decide)
    rintro s k ⟨t, ht, rfl⟩ hk
    dsimp only
    have hl2 : (b2 ++ l8 m t).length = r.length + 1 + padk r.length + t := by simp [hlen, l8_len]
    by_cases h8 : t < 8
    · refine cond_t (decide_eq_true (by omega)) ?_
      refine bnd_to (wrapI (by simp only [Dat.mul]; omega)) ?_
      refine bnd_to (y := ((8 * (7 - t) : Nat) : Int)) (by rw [wrapU] <;> simp only [Dat.mul] <;> omega) ?_
      refine ite_none (by simp only [Dat.Neg]; omega) ?_
      refine bnd_to rfl ?_
      refine bnd_to (y := lenB m (7 - t)) rfl ?_
      refine ite_some (by simp [Dat.Le, Dat.addN, Dat.len]) ?_
      refine ite_none (by simp only [Dat.Big, Dat.len, Dat.seg, List.drop_zero, List.take_succ_cons, List.take_zero, List.length_cons, List.length_nil, hl2]; omega) ?_
      refine ite_some rfl ?_
      refine bnd_to (y := b2 ++ l8 m (t + 1)) (by simp only [Dat.app, Dat.seg, List.drop_zero, List.take_succ_cons, List.take_zero, l8_succ, List.append_assoc]) ?_
      refine bnd_to (wrapI (by simp only [Dat.sub]; omega)) ?_
      refine ite_some rfl ?_
      refine hk _ ⟨t + 1, by omega, Prod.ext rfl (by simp only [Dat.sub]; omega)⟩ ?_
      show ((7 : Int) - t - 1 + 1).toNat < ((7 : Int) - t + 1).toNat
      omega
    · obtain rfl : t = 8 := by omega
      refine cond_f (by decide) ?_
      refine ite_some (by simp [hW]) ?_
      clear hk k
      generalize hLL : b2 ++ l8 m 8 = L at hl2
      have hfin : fin W r m = eat W L (L.length / 64) := fin_eat W r m hr L (by rw [← hLL, ← hb2])
      have hL64 : L.length % 64 = 0 := by omega
      refine loop_inv (fun s => ∃ n, 64 * n ≤ L.length ∧ s = (L.drop (64 * n), (eat W L n).map ofW)) (fun s => s.1.length) ?_ ⟨0, by omega, rfl⟩ (by show L.length < _; omega)
      rintro s k ⟨n, hn, rfl⟩ hk
      dsimp only
      have hE := eat_len W L hW n
      by_cases h0 : 64 * n < L.length
      · have hge : 64 ≤ L.length - 64 * n := by omega
        refine cond_t (decide_eq_true (by simp only [Dat.ofN, Dat.len, List.length_drop]; omega)) ?_
        refine ite_some (map_len hE) ?_
        refine ite_some ⟨by omega, by simp only [Dat.len, List.length_drop]; omega⟩ ?_
        refine bnd_to (y := (L.drop (64 * n)).take 64) (by simp [Dat.slice, Dat.toN]) ?_
        refine bind_to (ref02_Turn_spec (eat W L n) _ hE (by simp; omega)) ?_
        refine ite_some (map_len hE) ?_
        refine ite_some ⟨by omega, by simp only [Dat.len, List.length_drop]; omega⟩ ?_
        refine bnd_to (y := L.drop (64 * (n + 1))) (by simp only [Dat.slice, Dat.toN, Dat.len, List.take_length, List.drop_drop]; rfl) ?_
        rw [norm_same (map_len (trn_len _ _ hE))]
        refine hk _ ⟨n + 1, by omega, rfl⟩ ?_
        show (L.drop (64 * (n + 1))).length < (L.drop (64 * n)).length
        simp; omega
      · have hq : L.length / 64 = n := by omega
        rw [hfin, hq]
        refine cond_f (decide_eq_false (by simp only [Dat.ofN, Dat.len, List.length_drop]; omega)) ?_
        generalize eat W L n = X at hE
        clear hk k
        have hm32 : ∀ s : Int × List Int, 32 - s.1.toNat < 18446744073709551616 := fun s => mu_lt 32 _ (by omega)
        refine loop_inv (fun s => ∃ i : Nat, i ≤ 32 ∧ s = ((i : Int), fl (byteAt X) 32 i)) (fun s => 32 - s.1.toNat) ?_ ⟨0, by omega, by rw [fl_zero]; rfl⟩ (hm32 _)
        rintro s k ⟨i, hi, rfl⟩ hk
        dsimp only
        by_cases h32 : i < 32
        · refine cond_t (decide_eq_true (by omega)) ?_
          refine ite_none (by decide) ?_
          refine bnd_to (y := ((i / 4 : Nat) : Int)) (by
            have : Dat.tdiv (i : Int) 4 = ((i / 4 : Nat) : Int) := by show Int.tdiv _ _ = _; rw [Int.tdiv_eq_ediv_of_nonneg (by omega)]; omega
            rw [this, wrapI]; omega) ?_
          refine ite_some ⟨by omega, by omega⟩ ?_
          refine ite_some (by simp only [Dat.Lt, Dat.toN, Dat.len, Int.toNat_natCast, List.length_map, hE]; omega) ?_
          refine bnd_to (get_map _ _) ?_
          refine ite_none (by decide) ?_
          refine bnd_to (y := ((i % 4 : Nat) : Int)) (by show Int.tmod _ _ = _; rw [Int.tmod_eq_emod_of_nonneg (by omega)]; omega) ?_
          refine bnd_to (wrapI (by simp only [Dat.mul]; omega)) ?_
          refine bnd_to (wrapI (by simp only [Dat.mul, Dat.sub]; omega)) ?_
          refine bnd_to (y := ((24 - 8 * (i % 4) : Nat) : Int)) (by rw [wrapU] <;> simp only [Dat.sub, Dat.mul] <;> omega) ?_
          refine ite_none (by simp only [Dat.Neg]; omega) ?_
          refine bnd_to rfl ?_
          refine bnd_to (y := byteAt X i) (by rw [byteAt]; simp only [Dat.toN, Int.toNat_natCast]) ?_
          refine ite_some ⟨by omega, by omega⟩ ?_
          refine ite_some (by simp only [Dat.Lt, Dat.toN, Dat.len, Int.toNat_natCast, fl_len]; omega) ?_
          refine bnd_to (y := fl (byteAt X) 32 (i + 1)) (by simp only [Dat.set, Dat.toN, Int.toNat_natCast]; exact fl_set _ _ _ (by omega)) ?_
          refine bnd_to (wrapI (by simp only [Dat.add]; omega)) ?_
          refine hk _ ⟨i + 1, by omega, rfl⟩ ?_
          show 32 - ((i : Int) + 1).toNat < 32 - ((i : Int)).toNat; omega
        · obtain rfl : i = 32 := by omega
          refine cond_f rfl ?_
          refine ite_some (fl_len _ _ _) ?_
          refine ite_some (by decide) ?_
          rw [norm_same (fl_len _ _ _)]
          refine ite_some (fl_len _ _ _) ?_
          rw [fl_full]; rfl
  · refine cond_t (by
      have : ¬ (r.length + 1 + j) % 64 = 56 := by omega
      simp only [Dat.ine, bne_iff_ne, ne_eq]; omega) ?_
    refine ite_some (by decide) ?_
    refine ite_none (by simp only [Dat.Big, Dat.len, Dat.seg, List.drop_zero, List.take_succ_cons, List.take_zero, List.length_cons, List.length_nil, hlen]; omega) ?_
    refine ite_some rfl ?_
    refine bnd_to (y := r ++ [128] ++ List.replicate (j + 1) 0) (by simp only [Dat.app, Dat.seg, List.drop_zero, List.take_succ_cons, List.take_zero, List.replicate_succ', List.append_assoc]) ?_
    refine ite_some rfl ?_
    refine hk _ ⟨j + 1, by omega, rfl⟩ ?_
    simp; omega

/-! ### From the beginning on -/
def W0 : List W32 := [1779033703#32, 3144134277#32, 1013904242#32, 2773480762#32, 1359893119#32, 2600822924#32, 528734635#32, 1541459225#32]
theorem W0_len : W0.length = 8 := rfl
theorem sha_Begin_spec : sha_Begin () = some (W0.map ofW, ([], (0, ()))) := by unfold sha_Begin; rfl
theorem ref02_Begin_spec : ref02_Begin () = some (W0.map ofW, ([], (0, ()))) := by unfold ref02_Begin; rfl

/-- A digest of all. -/
def digS (l : List Int) : List Int := toldW (fin (eat W0 l (l.length / 64)) (l.drop (64 * (l.length / 64))) l.length)
theorem digS_len (l : List Int) : (digS l).length = 32 := toldW_len _

theorem ref02_Of_spec (l : List Int) (hl : l.length ≤ 100000) : ref02_Of l = some (digS l) := by
  unfold ref02_Of
  refine bind_to ref02_Begin_spec ?_
  dsimp only
  rw [eight (map_len W0_len)]
  refine bind_to (ref02_Came_spec W0 [] l 0 W0_len (by simp) hl (by omega)) ?_
  dsimp only
  rw [List.nil_append, eight (map_len (eat_len _ _ W0_len _))]
  refine bind_to (ref02_Ended_spec _ _ _ (eat_len _ _ W0_len _) (by simp; omega) (by omega)) ?_
  refine ite_some (by decide) ?_
  rw [norm_same (toldW_len _)]
  refine ite_some (toldW_len _) ?_
  rw [Int.zero_add]; rfl

/-- Parts, one behind the other. -/
theorem sha_Of_spec (l : List (List Int)) (hl : l.length ≤ 50) (he : ∀ x ∈ l, x.length ≤ 1000) : sha_Of l = some (digS l.flatten) := by
  unfold sha_Of
  refine bind_to sha_Begin_spec ?_
  have hsum : ∀ q : List (List Int), (∀ x ∈ q, x.length ≤ 1000) → q.flatten.length ≤ 1000 * q.length := by
    intro q
    induction q with
    | nil => intro _; simp
    | cons x q ih => intro h; have := ih (fun y hy => h y (by simp [hy])); have := h x (by simp); simp at *; omega
  have h0 : ∃ (i : Nat) (X : List W32) (r : List Int), i ≤ l.length ∧ X = eat W0 (l.take i).flatten ((l.take i).flatten.length / 64) ∧ r = (l.take i).flatten.drop (64 * ((l.take i).flatten.length / 64)) ∧
      (((0 : Int), pk8 (W0.map ofW) (([] : List Int), (0 : Int))) : Int × _) = ((i : Int), pk8 (X.map ofW) (r, ((l.take i).flatten.length : Int))) := ⟨0, W0, [], by omega, by simp [eat], by simp, by simp⟩
  refine loop_inv (fun s => ∃ (i : Nat) (X : List W32) (r : List Int), i ≤ l.length ∧ X = eat W0 (l.take i).flatten ((l.take i).flatten.length / 64) ∧ r = (l.take i).flatten.drop (64 * ((l.take i).flatten.length / 64)) ∧ s = ((i : Int), pk8 (X.map ofW) (r, ((l.take i).flatten.length : Int))))
    (fun s => l.length - s.1.toNat) ?_ h0 (mu_lt l.length _ (by omega))
  rintro s k ⟨i, X, r, hi, hX, hr, rfl⟩ hk
  have hX8 : X.length = 8 := by rw [hX]; exact eat_len _ _ W0_len _
  simp only [pk8]
  rw [eight (map_len hX8)]
  have hb := hsum (l.take i) (fun x hx => he x (List.mem_of_mem_take hx))
  have hb' : (l.take i).flatten.length ≤ 50000 := by simp only [List.length_take] at hb; omega
  have hrl : r.length = (l.take i).flatten.length % 64 := by rw [hr, List.length_drop]; omega
  by_cases h : i < l.length
  · refine cond_t (decide_eq_true (by simp only [Dat.ofN, Dat.len]; omega)) ?_
    refine ite_some ⟨by omega, by simp only [Dat.len]; omega⟩ ?_
    refine bnd_to (y := l[i]) (by simp [Dat.get, Dat.toN, List.getD, h]) ?_
    have hx := he l[i] (List.getElem_mem h)
    refine bind_to (sha_More_spec X r l[i] _ hX8 (by omega) (by omega) (by omega)) ?_
    refine bnd_to (wrapI (by simp only [Dat.add]; omega)) ?_
    have hfl : (l.take (i + 1)).flatten = (l.take i).flatten ++ l[i] := by rw [List.take_succ_eq_append_getElem h, List.flatten_append, List.flatten_cons, List.flatten_nil, List.append_nil]
    generalize hF : (l.take i).flatten = F at *
    have hc : chk r (F.length : Int) = 0 := by rw [chk, if_pos ⟨by omega, by omega⟩]
    unfold moreS
    rw [hc, if_pos rfl, if_neg (by omega)]
    have hq : F.length / 64 + (r ++ l[i]).length / 64 = (F ++ l[i]).length / 64 := by simp; omega
    have hdr : F.drop (64 * (F.length / 64)) ++ l[i] = (F ++ l[i]).drop (64 * (F.length / 64)) := by rw [List.drop_append_of_le_length (by omega)]
    refine hk _ ⟨i + 1, eat W0 (F ++ l[i]) ((F ++ l[i]).length / 64), (F ++ l[i]).drop (64 * ((F ++ l[i]).length / 64)), by omega, by rw [hfl], by rw [hfl], ?_⟩ ?_
    · have e1 : eat X (r ++ l[i]) ((r ++ l[i]).length / 64) = eat W0 (F ++ l[i]) ((F ++ l[i]).length / 64) := by
        rw [← hq, eat_add W0 (F ++ l[i]), eat_app W0 F l[i] _ (by omega), ← hX, ← hdr, ← hr]
      have e2 : (r ++ l[i]).drop (64 * ((r ++ l[i]).length / 64)) = (F ++ l[i]).drop (64 * ((F ++ l[i]).length / 64)) := by
        rw [← hq, Nat.mul_add, ← List.drop_drop, ← hdr, ← hr]
      refine Prod.ext rfl ?_
      have eL : ((F ++ l[i]).length : Int) = (F.length : Int) + (l[i].length : Int) := by simp
      rw [← e1, ← e2, hfl, eL]
      rfl
    · show l.length - ((i : Int) + 1).toNat < l.length - ((i : Int)).toNat
      omega
  · refine cond_f (decide_eq_false (by simp only [Dat.ofN, Dat.len]; omega)) ?_
    rw [List.take_of_length_le (by omega)] at *
    generalize l.flatten = F at *
    have hc : chk r (F.length : Int) = 0 := by rw [chk, if_pos ⟨by omega, by omega⟩]
    refine bind_to (sha_End_spec X r _ hX8 (by omega) (by omega)) ?_
    unfold endS
    rw [hc, if_pos rfl]
    dsimp only
    rw [norm_same (toldW_len _), norm_same (toldW_len _)]
    refine ite_some (by decide) ?_
    refine ite_some (toldW_len _) ?_
    refine ite_some (by decide) ?_
    refine ite_some (toldW_len _) ?_
    rw [hX, hr]; rfl
end Go.Proofs.YtecoonecmmbggaaDoor
