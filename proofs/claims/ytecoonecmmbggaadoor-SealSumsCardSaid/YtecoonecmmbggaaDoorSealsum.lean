/- Sealed buckets' digests. -/
import Derived.Test.YtecoonecmmbggaaDoorShaX
import Derived.Test.YtecoonecmmbggaaDoorNumput
import Derived.Test.YtecoonecmmbggaaDoorSpoil
import Derived.Test.YtecoonecmmbggaaDoorSame
import Derived.Test.YtecoonecmmbggaaDoorStep2
namespace Go.Proofs.YtecoonecmmbggaaDoor
open Go.Eng
set_option linter.unusedVariables false
set_option linter.unusedSimpArgs false

theorem sha_Of_two (l : List (List Int)) (hl : l.length ≤ 25) (he : ∀ x ∈ l, x.length ≤ 2000) : sha_Of l = some (digS l.flatten) := by
  unfold sha_Of
  refine bind_to sha_Begin_spec ?_
  have hsum : ∀ q : List (List Int), (∀ x ∈ q, x.length ≤ 2000) → q.flatten.length ≤ 2000 * q.length := by
    intro q
    induction q with
    | nil => intro _; simp
    | cons x q ih => intro h; have := ih (fun y hy => h y (by simp [hy])); have := h x (by simp); simp at *; omega
  have h0 : ∃ (i : Nat) (X : List W32) (r : List Int), i ≤ l.length ∧ X = eat W0 (l.take i).flatten ((l.take i).flatten.length / 64) ∧ r = (l.take i).flatten.drop (64 * ((l.take i).flatten.length / 64)) ∧
      (((0 : Int), pk8 (W0.map ofW) (([] : List Int), (0 : Int))) : Int × _) = ((i : Int), pk8 (X.map ofW) (r, ((l.take i).flatten.length : Int))) := ⟨0, W0, [], by omega, by simp [eat], by simp, by simp⟩
  refine loop_inv (fun s => ∃ (i : Nat) (X : List W32) (r : List Int), i ≤ l.length ∧ X = eat W0 (l.take i).flatten ((l.take i).flatten.length / 64) ∧ r = (l.take i).flatten.drop (64 * ((l.take i).flatten.length / 64)) ∧ s = ((i : Int), pk8 (X.map ofW) (r, ((l.take i).flatten.length : Int))))
    (fun s => l.length - s.1.toNat) ?_ h0 (mu_lt l.length _ (by omega))
  rintro s k ⟨i, X, r, hi, hX, hr, rfl⟩ hk
  have hX8 : X.length = 8 := by rw [hX]; exact eat_len _ _ W0_len _
  simp only [pk8]
  rw [eight (map_len hX8)]
  have hb := hsum (l.take i) (fun x hx => he x (List.mem_of_mem_take hx))
  have hb' : (l.take i).flatten.length ≤ 50000 := by simp only [List.length_take] at hb; omega
  have hrl : r.length = (l.take i).flatten.length % 64 := by rw [hr, List.length_drop]; omega
  by_cases h : i < l.length
  · refine cond_t (decide_eq_true (by simp only [Dat.ofN, Dat.len]; omega)) ?_
    refine ite_some ⟨by omega, by simp only [Dat.len]; omega⟩ ?_
    refine bnd_to (y := l[i]) (by simp [Dat.get, Dat.toN, List.getD, h]) ?_
    have hx := he l[i] (List.getElem_mem h)
    refine bind_to (sha_More_spec X r l[i] _ hX8 (by omega) (by omega) (by omega)) ?_
    refine bnd_to (wrapI (by simp only [Dat.add]; omega)) ?_
    have hfl : (l.take (i + 1)).flatten = (l.take i).flatten ++ l[i] := by rw [List.take_succ_eq_append_getElem h, List.flatten_append, List.flatten_cons, List.flatten_nil, List.append_nil]
    generalize hF : (l.take i).flatten = F at *
    have hc : chk r (F.length : Int) = 0 := by rw [chk, if_pos ⟨by omega, by omega⟩]
    unfold moreS
    rw [hc, if_pos rfl, if_neg (by omega)]
    have hq : F.length / 64 + (r ++ l[i]).length / 64 = (F ++ l[i]).length / 64 := by simp; omega
    have hdr : F.drop (64 * (F.length / 64)) ++ l[i] = (F ++ l[i]).drop (64 * (F.length / 64)) := by rw [List.drop_append_of_le_length (by omega)]
    refine hk _ ⟨i + 1, eat W0 (F ++ l[i]) ((F ++ l[i]).length / 64), (F ++ l[i]).drop (64 * ((F ++ l[i]).length / 64)), by omega, by rw [hfl], by rw [hfl], ?_⟩ ?_
    · have e1 : eat X (r ++ l[i]) ((r ++ l[i]).length / 64) = eat W0 (F ++ l[i]) ((F ++ l[i]).length / 64) := by
        rw [← hq, eat_add W0 (F ++ l[i]), eat_app W0 F l[i] _ (by omega), ← hX, ← hdr, ← hr]
      have e2 : (r ++ l[i]).drop (64 * ((r ++ l[i]).length / 64)) = (F ++ l[i]).drop (64 * ((F ++ l[i]).length / 64)) := by
        rw [← hq, Nat.mul_add, ← List.drop_drop, ← hdr, ← hr]
      refine Prod.ext rfl ?_
      have eL : ((F ++ l[i]).length : Int) = (F.length : Int) + (l[i].length : Int) := by simp
      rw [← e1, ← e2, hfl, eL]
      rfl
    · show l.length - ((i : Int) + 1).toNat < l.length - ((i : Int)).toNat
      omega
  · refine cond_f (decide_eq_false (by simp only [Dat.ofN, Dat.len]; omega)) ?_
    rw [List.take_of_length_le (by omega)] at *
    generalize l.flatten = F at *
    have hc : chk r (F.length : Int) = 0 := by rw [chk, if_pos ⟨by omega, by omega⟩]
    refine bind_to (sha_End_spec X r _ hX8 (by omega) (by omega)) ?_
    unfold endS
    rw [hc, if_pos rfl]
    dsimp only
    rw [norm_same (toldW_len _), norm_same (toldW_len _)]
    refine ite_some (by decide) ?_
    refine ite_some (toldW_len _) ?_
    refine ite_some (by decide) ?_
    refine ite_some (toldW_len _) ?_
    rw [hX, hr]; rfl

theorem bigB {a b : Nat} (ha : a ≤ 100000) (hb : b ≤ 100000) : ¬ Dat.Big a b 1 := by
  simp only [Dat.Big]
  have : (2 : Nat) ^ 44 = 17592186044416 := by decide
  omega

/-- Parts joined in one row. -/
theorem Concat_spec (l : List (List Int)) (hl : l.length ≤ 20) (he : ∀ x ∈ l, x.length ≤ 2000) (hne : l.flatten ≠ []) : slices_Concat_byte_byte l = some l.flatten := by
  unfold slices_Concat_byte_byte
  have hsum : ∀ q : List (List Int), (∀ x ∈ q, x.length ≤ 2000) → q.flatten.length ≤ 2000 * q.length := by
    intro q
    induction q with
    | nil => intro _; simp
    | cons x q ih => intro h; have := ih (fun y hy => h y (by simp [hy])); have := h x (by simp); simp at *; omega
  have hall := hsum l he
  have hpos : 0 < l.flatten.length := List.length_pos_iff.2 hne
  have hgen : ∀ i, (l.take i).flatten.length ≤ 40000 := by
    intro i
    have := hsum (l.take i) (fun x hx => he x (List.mem_of_mem_take hx))
    simp only [List.length_take] at this
    omega
  have hstep : ∀ i (h : i < l.length), (l.take (i + 1)).flatten = (l.take i).flatten ++ l[i] := fun i h => by
    rw [List.take_succ_eq_append_getElem h, List.flatten_append, List.flatten_cons, List.flatten_nil, List.append_nil]
  refine loop_inv (fun s => ∃ i : Nat, i ≤ l.length ∧ s = (((l.take i).flatten.length : Int), (i : Int))) (fun s => l.length - s.2.toNat) ?_ ⟨0, by omega, rfl⟩ (mu_lt l.length _ (by omega))
  rintro s k ⟨i, hi, rfl⟩ hk
  dsimp only
  by_cases h : i < l.length
  · refine cond_t (decide_eq_true (by simp only [Dat.ofN, Dat.len]; omega)) ?_
    refine ite_some ⟨by omega, by simp only [Dat.len]; omega⟩ ?_
    refine bnd_to (y := l[i]) (by simp [Dat.get, Dat.toN, List.getD, h]) ?_
    have hx := he l[i] (List.getElem_mem h)
    have h1 := hgen i
    refine bnd_to (y := ((l.take (i + 1)).flatten.length : Int)) ((wrapI (by simp only [Dat.add, Dat.ofN, Dat.len]; omega)).trans (by rw [hstep i h]; simp [Dat.add, Dat.ofN, Dat.len])) ?_
    refine cond_f (decide_eq_false (by omega)) ?_
    refine bnd_to (wrapI (by simp only [Dat.add]; omega)) ?_
    refine hk _ ⟨i + 1, by omega, rfl⟩ ?_
    show l.length - ((i : Int) + 1).toNat < l.length - ((i : Int)).toNat
    omega
  · refine cond_f (decide_eq_false (by simp only [Dat.ofN, Dat.len]; omega)) ?_
    rw [List.take_of_length_le (by omega)]
    refine cond_f (decide_eq_false (by omega)) ?_
    refine bnd_to (y := 0) (wrapI (by simp [Dat.sub])) ?_
    refine bnd_to (y := (l.flatten.length : Int)) ((wrapI (by simp only [Dat.sub]; omega)).trans (by simp [Dat.sub])) ?_
    refine cond_t (decide_eq_true (by omega)) ?_
    refine ite_some ⟨by omega, by omega⟩ ?_
    refine ite_some (Dat.ZOk_iff.2 ⟨by omega, by omega, by omega⟩) ?_
    have hrep : Dat.rep (α := Int) (Dat.toN (l.flatten.length : Int)) 0 = List.replicate l.flatten.length 0 := by simp [Dat.rep, Dat.toN]
    refine bnd_to hrep ?_
    refine ite_none (by simp only [Dat.EqN, Dat.len, List.length_replicate]; omega) ?_
    refine ite_none (bigB (by simp [Dat.len]) (by simp only [Dat.len, List.length_replicate]; omega)) ?_
    refine bnd_to (y := List.replicate l.flatten.length 0) (by simp [Dat.app]) ?_
    refine ite_some ⟨by omega, by simp only [Dat.len]; omega⟩ ?_
    refine ite_some (by simp only [Dat.Lt, Dat.len, List.length_replicate]; omega) ?_
    refine ite_some rfl ?_
    refine ite_some rfl ?_
    refine loop_inv (fun s => ∃ i : Nat, i ≤ l.length ∧ s = ((l.take i).flatten, (i : Int))) (fun s => l.length - s.2.toNat) ?_ ⟨0, by omega, rfl⟩ (mu_lt l.length _ (by omega))
    rintro s k ⟨i, hi, rfl⟩ hk
    dsimp only
    by_cases h : i < l.length
    · refine cond_t (decide_eq_true (by simp only [Dat.ofN, Dat.len]; omega)) ?_
      refine ite_some ⟨by omega, by simp only [Dat.len]; omega⟩ ?_
      refine bnd_to (y := l[i]) (by simp [Dat.get, Dat.toN, List.getD, h]) ?_
      have hx := he l[i] (List.getElem_mem h)
      have h1 := hgen i
      refine ite_none (bigB (by simp only [Dat.len]; omega) (by simp only [Dat.len]; omega)) ?_
      refine ite_some rfl ?_
      refine bnd_to (y := (l.take (i + 1)).flatten) (hstep i h).symm ?_
      refine bnd_to (wrapI (by simp only [Dat.add]; omega)) ?_
      refine ite_some rfl ?_
      refine hk _ ⟨i + 1, by omega, rfl⟩ ?_
      show l.length - ((i : Int) + 1).toNat < l.length - ((i : Int)).toNat
      omega
    · refine cond_f (decide_eq_false (by simp only [Dat.ofN, Dat.len]; omega)) ?_
      refine ite_some rfl ?_
      rw [List.take_of_length_le (by omega)]

theorem join_spec (l : List (List Int)) (hl : l.length ≤ 20) (he : ∀ x ∈ l, x.length ≤ 2000) (hne : l.flatten ≠ []) : seal_join l = some l.flatten := by
  unfold seal_join
  refine bind_to (Concat_spec l hl he hne) ?_
  rw [if_neg (show ¬ l.flatten.length = 0 from fun h => hne (List.length_eq_zero_iff.1 h))]
  refine ite_some (by simp [Dat.Le, Dat.addN, Dat.len]) ?_
  congr 1
  show (l.flatten.drop 0).take l.flatten.length = l.flatten
  rw [List.drop_zero, List.take_length]

def mayP (lv bk : Int) : Bool := decide (0 ≤ lv ∧ lv < 4 ∧ 1 ≤ bk ∧ bk ≤ 127)
def hashT (lv bk : Int) (b : List Int) : List Int := lv :: (digs bk 4 ++ b)
def hashS (lv bk : Int) (b : List Int) : List Int × Int := if mayP lv bk = true then (hashT lv bk b, 0) else ([], 2)
theorem hashT_len (lv bk : Int) (b : List Int) : (hashT lv bk b).length = b.length + 5 := by simp [hashT, digs_len]; omega
theorem digs_one {n : Int} (h0 : 0 ≤ n) (h1 : n < 256) : digs n 1 = [n] := by
  simp [digs]; omega
theorem put_place {a b : Int} (a0 : 0 ≤ a) (a1 : a < 4) (b0 : 1 ≤ b) (b1 : b ≤ 127) : putS [a, b] [1, 4] = (a :: digs b 4, 0) := by
  have ok : okS 1 8 [1, 4] = true := by decide
  have h4 : (256 : Int) ^ (4 : Int).toNat = 4294967296 := by decide
  have h1 : (256 : Int) ^ (1 : Int).toNat = 256 := by decide
  have hf : fitsAll (([a, b] : List Int).zip [1, 4]) = true := by
    simp only [List.zip_cons_cons, List.zip_nil_right, fitsAll, List.all_cons, List.all_nil, Bool.and_true, Bool.and_eq_true, decide_eq_true_eq, h4, h1]
    omega
  unfold putS
  rw [if_neg (by rw [ok]; simp), if_neg (by simp), if_pos hf]
  have h1 : digs a 1 = [a] := digs_one a0 (by omega)
  simp [putB, h1]

theorem seal_Hashed_spec (lv bk : Int) (b : List Int) (hb : b.length ≤ 1000) : seal_Hashed (lv, bk, b) = some (hashS lv bk b) := by
  unfold seal_Hashed hashS
  dsimp only
  by_cases h1 : lv < 0
  · rw [if_neg (by simp [mayP]; omega)]; exact cond_t (decide_eq_true h1) rfl
  refine cond_f (decide_eq_false h1) ?_
  by_cases h2 : lv ≥ 4
  · rw [if_neg (by simp [mayP]; omega)]; exact cond_t (by simp [Dat.pickB, Dat.ige, h2]) rfl
  refine cond_f (by simp only [Dat.pickB, Dat.ige]; simp; omega) ?_
  by_cases h3 : bk < 1
  · rw [if_neg (by simp [mayP]; omega)]; exact cond_t (by simp [Dat.pickB, Dat.ilt, h3]) rfl
  refine cond_f (by simp only [Dat.pickB, Dat.ilt]; simp; omega) ?_
  by_cases h4 : bk > 127
  · rw [if_neg (by simp [mayP]; omega)]; exact cond_t (by simp [Dat.pickB, Dat.igt, h4]) rfl
  refine cond_f (by simp only [Dat.pickB, Dat.igt]; simp; omega) ?_
  rw [if_pos (by simp [mayP]; omega)]
  refine bnd_to (y := lv) (wrapU ⟨by omega, by omega⟩) ?_
  refine bnd_to (y := bk) (wrapU ⟨by omega, by omega⟩) ?_
  refine ite_some (by simp [Dat.Le, Dat.addN, Dat.len]) ?_
  refine ite_some (by simp [Dat.Le, Dat.addN, Dat.len]) ?_
  have hp : num_Put (Dat.seg [lv, bk] 0 2, Dat.seg [1, 4] 0 2) = some (lv :: digs bk 4, 0) := by
    show num_Put ([lv, bk], [1, 4]) = _
    rw [num_Put_spec [lv, bk] [1, 4] (by simp) (by simp) (by intro n hn; simp at hn; rcases hn with rfl | rfl <;> omega), put_place (by omega) (by omega) (by omega) (by omega)]
  refine bind_to hp ?_
  refine cond_f rfl ?_
  refine ite_some (by simp [Dat.Le, Dat.addN, Dat.len]) ?_
  have hj : seal_join (Dat.seg [lv :: digs bk 4, b] 0 2) = some (hashT lv bk b) := by
    show seal_join [lv :: digs bk 4, b] = _
    rw [join_spec _ (by simp) (by
      intro x hx
      simp at hx
      rcases hx with rfl | rfl
      · simp [digs_len]
      · omega) (by simp)]
    simp [hashT]
  refine bind_to hj ?_
  have hl := hashT_len lv bk b
  rw [if_neg (show ¬ (hashT lv bk b).length = 0 by omega)]
  refine ite_some (by simp [Dat.Le, Dat.addN, Dat.len]) ?_
  congr 2
  simp [Dat.seg, Dat.len]

theorem ref11_may_spec (lv bk : Int) : ref11_may (lv, bk) = some (mayP lv bk) := by
  unfold ref11_may mayP
  dsimp only
  have e : decide (bk ≤ 127) = decide (bk < 128) := decide_eq_decide.2 (by omega)
  simp only [Dat.ige, Dat.ilt, Dat.pickB, ge_iff_le, Bool.decide_and, e]
  cases decide (0 ≤ lv) <;> cases decide (lv < 4) <;> cases decide (1 ≤ bk) <;> cases decide (bk < 128) <;> rfl
theorem ref11_Text_spec (lv bk : Int) (b : List Int) (hm : mayP lv bk = true) (hb : b.length ≤ 1000) : ref11_Text (lv, bk, b) = some (hashT lv bk b) := by
  simp only [mayP, decide_eq_true_eq] at hm
  unfold ref11_Text
  dsimp only
  refine bnd_to (y := lv) ((Dat.wrap_u8 lv).trans (by omega)) ?_
  refine bnd_to (y := bk) (wrapU ⟨by omega, by omega⟩) ?_
  refine bind_to (ref01_Digits_spec bk 4 (by omega) (by omega) (by omega) (by omega)) ?_
  refine ite_some (by simp [Dat.Le, Dat.addN, Dat.len]) ?_
  have hd : (digs bk (4 : Int).toNat).length = 4 := digs_len _ _
  refine ite_none (bigB (by simp [Dat.len, Dat.seg]) (by simp only [Dat.len]; omega)) ?_
  refine bnd_to (y := lv :: digs bk 4) (by simp [Dat.app, Dat.seg]) ?_
  have hd4 : (digs bk 4).length = 4 := digs_len _ _
  refine ite_none (bigB (by simp only [Dat.len, List.length_cons]; omega) (by simp only [Dat.len]; omega)) ?_
  refine ite_some rfl ?_
  refine bnd_to (y := hashT lv bk b) (by simp [Dat.app, hashT]) ?_
  rfl
theorem ref11_Hashed_spec (lv bk : Int) (b : List Int) (hb : b.length ≤ 1000) : ref11_Hashed (lv, bk, b) = some (hashS lv bk b) := by
  unfold ref11_Hashed hashS
  dsimp only
  refine bind_to (ref11_may_spec lv bk) ?_
  cases hm : mayP lv bk with
  | false => exact cond_t rfl rfl
  | true =>
    refine cond_f rfl ?_
    refine bind_to (ref11_Text_spec lv bk b hm hb) ?_
    rfl

noncomputable def sumS (lv bk : Int) (b : List Int) : List Int × Int := if mayP lv bk = true then (digS (hashT lv bk b), 0) else (List.replicate 32 0, 2)
theorem sumS_len (lv bk : Int) (b : List Int) : (sumS lv bk b).1.length = 32 := by
  unfold sumS
  split
  · exact digS_len _
  · simp
theorem seal_Sum_spec (lv bk : Int) (b : List Int) (hb : b.length ≤ 1000) : seal_Sum (lv, bk, b) = some (sumS lv bk b) := by
  unfold seal_Sum sumS
  dsimp only
  refine bind_to (seal_Hashed_spec lv bk b hb) ?_
  unfold hashS
  cases hm : mayP lv bk with
  | false =>
    refine cond_t rfl ?_
    rfl
  | true =>
    rw [if_pos rfl, if_pos rfl]
    refine cond_f rfl ?_
    refine ite_some (by simp [Dat.Le, Dat.addN, Dat.len]) ?_
    have ho : sha_Of (Dat.seg [hashT lv bk b] 0 1) = some (digS (hashT lv bk b)) := by
      show sha_Of [hashT lv bk b] = _
      rw [sha_Of_two _ (by simp) (by intro x hx; simp at hx; subst hx; rw [hashT_len]; omega)]
      simp
    refine bind_to ho ?_
    refine ite_some (by simp [Dat.len, Dat.rep]) ?_
    rw [norm_same (digS_len _)]
    refine ite_some (digS_len _) rfl
theorem ref11_Sum_spec (lv bk : Int) (b : List Int) (hb : b.length ≤ 1000) : ref11_Sum (lv, bk, b) = some (sumS lv bk b) := by
  unfold ref11_Sum sumS
  dsimp only
  refine bind_to (ref11_may_spec lv bk) ?_
  cases hm : mayP lv bk with
  | false => exact cond_t rfl rfl
  | true =>
    rw [if_pos rfl]
    refine cond_f rfl ?_
    have hd : ref11_Digest (lv, bk, b) = some (digS (hashT lv bk b)) := by
      unfold ref11_Digest
      dsimp only
      refine bind_to (ref11_Text_spec lv bk b hm hb) ?_
      refine bind_to (ref02_Of_spec _ (by rw [hashT_len]; omega)) ?_
      refine ite_some (by simp [Dat.len, Dat.rep]) ?_
      rw [norm_same (digS_len _)]
      exact ite_some (digS_len _) rfl
    refine bind_to hd ?_
    refine ite_some (by simp [Dat.len, Dat.rep]) ?_
    rw [norm_same (digS_len _)]
    exact ite_some (digS_len _) rfl

theorem lqs (n : Nat) (l : List Int) : Dat.lq n l l = true := by simp [Dat.lq]
theorem sealSums_any (lv bk : Int) (b : List Int) : law11_SealSums (lv, bk, b) = some true := by
  unfold law11_SealSums
  dsimp only
  by_cases hb : b.length > 1000
  · exact cond_t (decide_eq_true (by simp only [Dat.ofN, Dat.len]; omega)) rfl
  refine cond_f (decide_eq_false (by simp only [Dat.ofN, Dat.len]; omega)) ?_
  refine ite_some (by decide) ?_
  refine ite_none (bigB (by simp [Dat.len, Dat.seg]) (by simp only [Dat.len]; omega)) ?_
  refine bnd_to (y := b) (by simp [Dat.app, Dat.seg]) ?_
  have hb' : b.length ≤ 1000 := by omega
  have hlen : (hashS lv bk b).1.length ≤ 2000 := by
    unfold hashS
    split
    · rw [hashT_len]; omega
    · simp
  refine bind_to (seal_Hashed_spec lv bk b hb') ?_
  have hseq : ref01_Same (b, b) = some true := by rw [ref01_Same_spec]; simp
  have last : ∀ j : Bool, j = true → (Dat.join (σ := Bool) (fun k => (bif j then Dat.bind (ref01_Same (b, b)) fun (x : Bool) => k (Dat.pickB true x false) else k false)) fun (q : Bool) => some q) = some true := by
    rintro j rfl
    rw [Dat.join_eq]
    refine cond_t rfl ?_
    refine bind_to hseq rfl
  by_cases h0 : (hashS lv bk b).1.length = 0
  · rw [if_pos h0]
    refine bind_to (ref11_Hashed_spec lv bk b hb') ?_
    refine bind_to (seal_Sum_spec lv bk b hb') ?_
    refine ite_some (by simp [Dat.len, Dat.rep]) ?_
    refine bind_to (ref11_Sum_spec lv bk b hb') ?_
    refine ite_some (by simp [Dat.len, Dat.rep]) ?_
    rw [norm_same (sumS_len lv bk b)]
    refine joinTo (fun j => j = true) (fun j hj => ?_) (fun k hk => ?_)
    · exact spoil_nil _ h0 true _ (last j hj) _
    · refine bind_to (ref01_Same_spec _ _) ?_
      refine cond_t (by simp) ?_
      refine cond_t (by simp [Dat.pickB, Dat.ieq]) ?_
      refine ite_some (sumS_len lv bk b) (ite_some (sumS_len lv bk b) ?_)
      refine cond_t (by simp [Dat.pickB, lqs]) ?_
      exact hk _ (by simp [Dat.pickB, Dat.ieq])
  · rw [if_neg h0]
    refine bind_to (ref11_Hashed_spec lv bk b hb') ?_
    refine bind_to (seal_Sum_spec lv bk b hb') ?_
    refine ite_some (by simp [Dat.len, Dat.rep]) ?_
    refine bind_to (ref11_Sum_spec lv bk b hb') ?_
    refine ite_some (by simp [Dat.len, Dat.rep]) ?_
    rw [norm_same (sumS_len lv bk b)]
    refine joinTo (fun j => j = true) (fun j hj => ?_) (fun k hk => ?_)
    · exact spoil_ok .u8 _ _ rfl (by omega) true _ (last j hj)
    · refine ite_some (by simp [Dat.Le, Dat.addN, Dat.len]) ?_
      have hsg : Dat.seg (hashS lv bk b).1 0 (Dat.len (hashS lv bk b).1) = (hashS lv bk b).1 := by
        show ((hashS lv bk b).1.drop 0).take (hashS lv bk b).1.length = _
        rw [List.drop_zero, List.take_length]
      rw [hsg]
      refine bind_to (ref01_Same_spec _ _) ?_
      refine cond_t (by simp) ?_
      refine cond_t (by simp [Dat.pickB, Dat.ieq]) ?_
      refine ite_some (sumS_len lv bk b) (ite_some (sumS_len lv bk b) ?_)
      refine cond_t (by simp [Dat.pickB, lqs]) ?_
      exact hk _ (by simp [Dat.pickB, Dat.ieq])

theorem law11_SealSums_true (d : Els p_law11_SealSums.args) (hf : Fits p_law11_SealSums.args d) : law11_SealSums d = some true := by
  obtain ⟨lv, bk, b⟩ := d
  exact sealSums_any lv bk b
end Go.Proofs.YtecoonecmmbggaaDoor
