/- NumTakes answers true. -/
import Derived.Test.YtgaijhlncgakeaaTake
import Derived.Test.YtgaijhlncgakeaaNumber
import Derived.Test.YtgaijhlncgakeaaSame
import Derived.Test.YtgaijhlncgakeaaSameInts
import Derived.Test.YtgaijhlncgakeaaSameNumbers
import Derived.Test.YtgaijhlncgakeaaCutr
namespace Go.Proofs.Ytgaijhlncgakeaa
open Go.Eng
set_option linter.unusedVariables false
set_option linter.unusedSimpArgs false

theorem ref01_Take_spec (b sizes : List Int) (hs : sizes.length < 9223372036854775807) (hb : isB b) : ref01_Take (b, sizes) = some (takeS b sizes) := by
  unfold ref01_Take takeS
  dsimp only
  refine bind_to (ref01_numbers_spec sizes hs) ?_
  cases hok : okS 1 8 sizes with
  | false => exact cond_t rfl rfl
  | true =>
    obtain ⟨hlen, hall, hsum⟩ := ok_num hok
    have hall0 : ∀ s ∈ sizes, 0 ≤ s := fun s h => by have := hall s h; omega
    refine cond_f rfl ?_
    refine bind_to (ref01_Total_spec sizes hs) ?_
    rw [← ok_18 hall, hok, if_pos rfl, if_pos rfl]
    by_cases he : (b.length : Int) = sizes.sum
    · rw [if_pos he]
      refine cond_f (by simp [Dat.ine, he]) ?_
      refine ite_some rfl ?_
      refine loop_inv (fun (s : List Int × (Int × Int)) => ∃ i : Nat, i ≤ sizes.length ∧ s = ((parts b sizes).map val |>.take i, (upto sizes i : Int), (i : Int))) (fun s => sizes.length - s.2.2.toNat) ?_ ⟨0, Nat.zero_le _, by simp [upto]⟩ (mu_lt _ _ (by omega))
      rintro s k ⟨i, hi, rfl⟩ hk
      dsimp only
      by_cases hlt : i < sizes.length
      · have hu := upto_succ hall0 hlt
        have hle : upto sizes (i + 1) ≤ b.length := by
          have h1 := upto_eq hall0 (i + 1)
          have h2 := sum_take_le hall0 (i + 1)
          omega
        have h0 := hall sizes[i] (List.getElem_mem hlt)
        have hw : Dat.wrap .i64 (Dat.add (upto sizes i : Int) sizes[i]) = (upto sizes (i + 1) : Int) := by
          rw [wrapI] <;> simp only [Dat.add] <;> omega
        have hg : Dat.get sizes (Dat.toN (i : Int)) 0 = sizes[i] := by simp [Dat.get, Dat.toN, List.getD, hlt]
        have hpl := part_len hall0 he hlt
        have hml : (((parts b sizes).map val).take i).length = i := by simp [parts]; omega
        have hmi : i < ((parts b sizes).map val).length := by simp [parts]; exact hlt
        have hmv : ((parts b sizes).map val)[i] = val (part b sizes i) := by simp [parts]
        refine cond_t (decide_eq_true (by simp only [Dat.ofN, Dat.len]; omega)) ?_
        refine ite_some ⟨by omega, by simp only [Dat.len]; omega⟩ ?_
        refine bnd_to hg ?_
        refine bnd_to hw ?_
        refine ite_some ⟨by omega, by simp only [Dat.len]; omega⟩ ?_
        refine ite_some ⟨by omega, by simp only [Dat.toN]; omega⟩ ?_
        refine bnd_to (y := part b sizes i) rfl ?_
        refine bind_to (ref01_Number_spec _ (isB_drop (isB_take hb _) _) (by omega)) ?_
        refine ite_some (by simp [Dat.Le, Dat.addN, Dat.len]) ?_
        refine ite_none (by simp only [Dat.Big, Dat.len, Dat.seg, List.drop_zero, List.length_take, List.length_cons, List.length_nil, List.length_map]; have : (2 : Nat) ^ 44 = 17592186044416 := by decide
                            have hp : (parts b sizes).length = sizes.length := by simp [parts]
                            omega) ?_
        refine ite_some rfl ?_
        refine bnd_to (y := ((parts b sizes).map val).take (i + 1)) (by rw [List.take_succ_eq_append_getElem hmi, hmv]; rfl) ?_
        refine ite_some ⟨by omega, by simp only [Dat.len]; omega⟩ ?_
        refine bnd_to hg ?_
        refine bnd_to hw ?_
        refine bnd_to (y := ((i + 1 : Nat) : Int)) (Dat.succ_i64 (by omega)) ?_
        refine ite_some rfl ?_
        exact hk _ ⟨i + 1, hlt, rfl⟩ (by show sizes.length - (((i + 1 : Nat) : Int)).toNat < sizes.length - ((i : Int)).toNat; omega)
      · obtain rfl : i = sizes.length := by omega
        refine cond_f (decide_eq_false (by simp only [Dat.ofN, Dat.len]; omega)) ?_
        rw [List.take_of_length_le (by simp [parts])]
    · rw [if_neg he]
      exact cond_t (by simp [Dat.ine, he]) rfl

theorem ref01_Cut_spec (b sizes : List Int) (hs : sizes.length < 9223372036854775807) : ref01_Cut (b, sizes) = some (cutS b sizes) := by
  unfold ref01_Cut cutS
  dsimp only
  refine bind_to (ref01_Total_spec sizes hs) ?_
  cases hok : okS 0 65536 sizes with
  | false => exact cond_t rfl rfl
  | true =>
    obtain ⟨hlen, hall, hsum⟩ := ok_cut hok
    have hall0 : ∀ s ∈ sizes, 0 ≤ s := fun s h => (hall s h).1
    have hs0 : 0 ≤ sizes.sum := by have := sum_take_nonneg hall0 sizes.length; rwa [List.take_length] at this
    rw [if_pos rfl, if_pos rfl]
    refine cond_f (by simp [Dat.ilt]; omega) ?_
    by_cases he : (b.length : Int) = sizes.sum
    · rw [if_pos he]
      refine cond_f (by simp [Dat.ine, he]) ?_
      refine ite_some rfl ?_
      refine loop_inv (fun (s : List (List Int) × (Int × Int)) => ∃ i : Nat, i ≤ sizes.length ∧ s = ((parts b sizes).take i, (upto sizes i : Int), (i : Int))) (fun s => sizes.length - s.2.2.toNat) ?_ ⟨0, Nat.zero_le _, by simp [upto]⟩ (mu_lt _ _ (by omega))
      rintro s k ⟨i, hi, rfl⟩ hk
      dsimp only
      by_cases hlt : i < sizes.length
      · have hu := upto_succ hall0 hlt
        have hle : upto sizes (i + 1) ≤ b.length := by
          have h1 := upto_eq hall0 (i + 1)
          have h2 := sum_take_le hall0 (i + 1)
          omega
        have h0 := hall sizes[i] (List.getElem_mem hlt)
        have hw : Dat.wrap .i64 (Dat.add (upto sizes i : Int) sizes[i]) = (upto sizes (i + 1) : Int) := by
          rw [wrapI] <;> simp only [Dat.add] <;> omega
        have hg : Dat.get sizes (Dat.toN (i : Int)) 0 = sizes[i] := by simp [Dat.get, Dat.toN, List.getD, hlt]
        have hpl := part_len hall0 he hlt
        have hmi : i < (parts b sizes).length := by simp [parts]; exact hlt
        have hmv : (parts b sizes)[i] = part b sizes i := by simp [parts]
        have hp : (parts b sizes).length = sizes.length := by simp [parts]
        have h44 : (2 : Nat) ^ 44 = 17592186044416 := by decide
        refine cond_t (decide_eq_true (by simp only [Dat.ofN, Dat.len]; omega)) ?_
        refine ite_some ⟨by omega, by simp only [Dat.len]; omega⟩ ?_
        refine bnd_to hg ?_
        refine bnd_to hw ?_
        refine ite_some ⟨by omega, by simp only [Dat.len]; omega⟩ ?_
        refine ite_some ⟨by omega, by simp only [Dat.toN]; omega⟩ ?_
        refine bnd_to (y := part b sizes i) rfl ?_
        refine ite_some (by simp [Dat.Le, Dat.addN, Dat.len]) ?_
        refine ite_none (by simp only [Dat.Big, Dat.len, Dat.seg, List.drop_zero, List.length_take, List.length_nil]; omega) ?_
        refine bnd_to (y := part b sizes i) rfl ?_
        refine ite_some (by simp [Dat.Le, Dat.addN, Dat.len]) ?_
        refine ite_none (by simp only [Dat.Big, Dat.len, Dat.seg, List.drop_zero, List.length_take, List.length_cons, List.length_nil]; omega) ?_
        refine ite_some rfl ?_
        refine bnd_to (y := (parts b sizes).take (i + 1)) (by rw [List.take_succ_eq_append_getElem hmi, hmv]; rfl) ?_
        refine ite_some ⟨by omega, by simp only [Dat.len]; omega⟩ ?_
        refine bnd_to hg ?_
        refine bnd_to hw ?_
        refine bnd_to (y := ((i + 1 : Nat) : Int)) (Dat.succ_i64 (by omega)) ?_
        refine ite_some rfl ?_
        exact hk _ ⟨i + 1, hlt, rfl⟩ (by show sizes.length - (((i + 1 : Nat) : Int)).toNat < sizes.length - ((i : Int)).toNat; omega)
      · obtain rfl : i = sizes.length := by omega
        refine cond_f (decide_eq_false (by simp only [Dat.ofN, Dat.len]; omega)) ?_
        rw [List.take_of_length_le (by simp [parts])]
    · rw [if_neg he]
      exact cond_t (by simp [Dat.ine, he]) rfl

theorem ref01_SameAll_self (l : List (List Int)) (hl : l.length < 1000000) : ref01_SameAll (l, l) = some true := by
  unfold ref01_SameAll
  dsimp only
  refine cond_f (by simp [Dat.ine]) ?_
  refine loop_inv (fun (s : Int) => ∃ i : Nat, s = i ∧ i ≤ l.length) (fun s => l.length - s.toNat) ?_ ⟨0, rfl, Nat.zero_le _⟩ (mu_lt _ _ (by omega))
  rintro d k ⟨i, rfl, hi⟩ hk
  by_cases h1 : i < l.length
  · have hg : Dat.get l (Dat.toN (i : Int)) ([] : List Int) = l[i] := by simp [Dat.get, Dat.toN, List.getD, h1]
    refine cond_t (decide_eq_true (by simp only [Dat.ofN, Dat.len]; omega)) ?_
    refine ite_some ⟨by omega, by simp only [Dat.len]; omega⟩ ?_
    refine bnd_to hg ?_
    refine ite_some ⟨by omega, by simp only [Dat.len]; omega⟩ ?_
    refine bnd_to hg ?_
    refine bind_to (ref01_Same_spec _ _) ?_
    refine cond_f (by simp [Dat.bnot]) ?_
    refine bnd_to (wrapI (by simp only [Dat.add]; omega)) ?_
    exact hk _ ⟨i + 1, by simp, h1⟩ (by show l.length - ((i : Int) + 1).toNat < l.length - ((i : Int)).toNat; omega)
  · exact cond_f (decide_eq_false (by simp only [Dat.ofN, Dat.len]; omega)) rfl

theorem numTakes_any (b sizes : List Int) (hb : isB b) : law01_NumTakes (b, sizes) = some true := by
  unfold law01_NumTakes
  dsimp only
  by_cases h1 : 5000 < b.length
  · refine joinTo (fun j => j = true) (r := some true) ?_ ?_
    · rintro j rfl; exact cond_t rfl rfl
    · intro k hk
      rw [show Dat.igt (Dat.ofN (Dat.len b)) 5000 = true by simp [Dat.igt, Dat.ofN, Dat.len]; omega, cond_true]
      exact hk _ rfl
  by_cases h2 : 100 < sizes.length
  · refine joinTo (fun j => j = true) (r := some true) ?_ ?_
    · rintro j rfl; exact cond_t rfl rfl
    · intro k hk
      rw [show Dat.igt (Dat.ofN (Dat.len b)) 5000 = false by simp [Dat.igt, Dat.ofN, Dat.len]; omega, cond_false]
      exact hk _ (by simp [Dat.pickB, Dat.igt, Dat.ofN, Dat.len]; omega)
  have h44 : (2 : Nat) ^ 44 = 17592186044416 := by decide
  refine joinTo (fun j => j = false) (r := some true) ?_ ?_
  rotate_left
  · intro k hk
    rw [show Dat.igt (Dat.ofN (Dat.len b)) 5000 = false by simp [Dat.igt, Dat.ofN, Dat.len]; omega, cond_false]
    exact hk _ (by simp [Dat.pickB, Dat.igt, Dat.ofN, Dat.len]; omega)
  rintro j rfl
  have hs : sizes.length < 9223372036854775807 := by omega
  refine cond_f rfl ?_
  refine ite_some (by simp [Dat.Le, Dat.addN, Dat.len]) ?_
  refine ite_none (by simp only [Dat.Big, Dat.len, Dat.seg, List.drop_zero, List.length_take, List.length_nil]; omega) ?_
  refine bnd_to (y := b) rfl ?_
  refine ite_some (by simp [Dat.Le, Dat.addN, Dat.len]) ?_
  refine ite_none (by simp only [Dat.Big, Dat.len, Dat.seg, List.drop_zero, List.length_take, List.length_nil]; omega) ?_
  refine bnd_to (y := sizes) rfl ?_
  refine bind_to (num_Take_spec b sizes hs hb) ?_
  refine bind_to (ref01_Take_spec b sizes hs hb) ?_
  obtain ⟨Q, R, m, l, hcut, hm, hl⟩ := num_Cut_r_spec b sizes hs
  refine bind_to hcut ?_
  refine bind_to (ref01_Cut_spec b sizes hs) ?_
  have hpl : (cutS b sizes).1.length ≤ 100 := by
    unfold cutS
    split
    · split <;> simp [parts]; omega
    · simp
  have hnl : (takeS b sizes).1.length ≤ 100 := by
    unfold takeS
    split
    · split <;> simp [parts]; omega
    · simp
  have hpw : ∀ d ∈ (cutS b sizes).1, d.length ≤ 5000 := by
    unfold cutS
    intro d hd
    split at hd
    · split at hd
      · simp only [parts, List.mem_map] at hd
        obtain ⟨i, _, rfl⟩ := hd
        unfold part
        rw [List.length_drop, List.length_take]; omega
      · simp at hd
    · simp at hd
  generalize takeS b sizes = T at *
  generalize cutS b sizes = C at *
  obtain ⟨T1, T2⟩ := T
  obtain ⟨C1, C2⟩ := C
  dsimp only at *
  refine joinTo (fun j => j = true) (r := some true) ?_ ?_
  rotate_left
  · intro k hk
    have hq : ref01_SameNumbers (T1, T1) = some true := ref01_SameNumbers_self _ (by omega)
    rw [hq, Dat.bind_some, cond_true, show Dat.ieq T2 T2 = true by simp [Dat.ieq], Dat.pick_tt, cond_true, if_pos (seg_ok hm)]
    rw [seg_get hm, segs_map hl (fun e he => by rw [if_pos he]), Dat.bind_some, ref01_SameAll_self C1 (by omega), Dat.bind_some, Dat.pick_tt, cond_true, show Dat.ieq C2 C2 = true by simp [Dat.ieq], Dat.pick_tt]
    exact hk _ rfl
  rintro j rfl
  have hxl := seg_len hm
  have hll : l.length ≤ 100 := by rw [hl.1]; exact hpl
  refine loop_inv (fun (s : Int × List (List Int)) => ∃ i : Nat, s.1 = (i : Int) ∧ i ≤ l.length ∧ Shape s.2 Q) (fun s => l.length - s.1.toNat) ?_ ⟨0, rfl, Nat.zero_le _, shape_refl Q⟩ (mu_lt _ _ (by omega))
  rintro ⟨s1, s2⟩ k ⟨i, rfl, hi, hsh⟩ hk
  dsimp only at hsh ⊢
  by_cases hlt : i < l.length
  · refine cond_t (decide_eq_true (by simp only [Dat.ofN, hxl]; omega)) ?_
    have hpt : Dat.XPt R m (Dat.toN (i : Int)) := seg_pt hm (shape_refl R) hlt
    have hd : i < C1.length := by rw [← hl.1]; exact hlt
    have hat := seg_at hm hlt (MixE.nil : MixE Int)
    have hsg : Seg Q l[i] C1[i] := hl.2 i _ _ (List.getElem?_eq_getElem hlt) (List.getElem?_eq_getElem hd)
    have hix := seg_ix hm hlt
    have hdl := hpw _ (List.getElem_mem hd)
    generalize l[i] = e at *
    generalize C1[i] = dd at *
    have hel := seg_len hsg
    have hk' : ∀ Q', Shape Q' Q → k (((i + 1 : Nat) : Int), Q') = some true := fun Q' hq => hk _ ⟨i + 1, rfl, hlt, hq⟩ (by show l.length - (((i + 1 : Nat) : Int)).toNat < l.length - ((i : Int)).toNat; omega)
    refine loop_inv (fun (s : Int × List (List Int)) => ∃ q : Nat, s.1 = (q : Int) ∧ q ≤ dd.length ∧ Shape s.2 Q) (fun s => dd.length - s.1.toNat) ?_ ⟨0, rfl, Nat.zero_le _, hsh⟩ (mu_lt _ _ (by omega))
    rintro ⟨u1, u2⟩ k2 ⟨q, rfl, hq, hsh2⟩ hk2
    dsimp only at hsh2 ⊢
    refine ite_some hix ?_
    refine ite_some hpt ?_
    refine ite_some hpt ?_
    refine bnd_to hat ?_
    by_cases hql : q < dd.length
    · have hp2 : Dat.XPt u2 e (Dat.toN (q : Int)) := seg_pt hsg hsh2 hql
      have hx2 := seg_ix hsg hql
      refine cond_t (decide_eq_true (by simp only [Dat.ofN, hel]; omega)) ?_
      refine ite_some hix ?_
      refine ite_some hpt ?_
      refine ite_some hpt ?_
      refine bnd_to hat ?_
      refine ite_some hix ?_
      refine ite_some hpt ?_
      refine ite_some hpt ?_
      refine bnd_to hat ?_
      refine ite_some hx2 ?_
      refine ite_some hp2 ?_
      refine ite_some hp2 ?_
      refine bnd_to rfl ?_
      refine bnd_to rfl ?_
      refine ite_some hx2 ?_
      refine ite_some hp2 ?_
      refine ite_some hp2 ?_
      refine bnd_to rfl ?_
      refine bnd_to (y := ((q + 1 : Nat) : Int)) (Dat.succ_i64 (by omega)) ?_
      exact hk2 _ ⟨q + 1, rfl, hql, shape_set hsh2 _ _ _⟩ (by show dd.length - (((q + 1 : Nat) : Int)).toNat < dd.length - ((q : Int)).toNat; omega)
    · refine cond_f (decide_eq_false (by simp only [Dat.ofN, hel]; omega)) ?_
      refine bnd_to (y := ((i + 1 : Nat) : Int)) (Dat.succ_i64 (by omega)) ?_
      exact hk' _ hsh2
  · refine cond_f (decide_eq_false (by simp only [Dat.ofN, hxl]; omega)) ?_
    refine joinTo (fun j => j = true) (r := some true) (by rintro j rfl; rfl) ?_
    intro k2 hk2
    refine (cond_t rfl ?_ : _ = some true)
    have e1 : ref01_Same (b, b) = some true := by rw [ref01_Same_spec]; simp
    have e2 : ref01_SameInts (sizes, sizes) = some true := ref01_SameInts_self _ hs
    rw [e1, Dat.bind_some, Dat.pick_tt, cond_true, e2, Dat.bind_some, Dat.pick_tt]
    exact hk2 _ rfl

theorem law01_NumTakes_true (d : Els p_law01_NumTakes.args) (hf : Fits p_law01_NumTakes.args d) : law01_NumTakes d = some true := by
  obtain ⟨b, sizes⟩ := d
  obtain ⟨⟨h1, h2⟩, h3, h4⟩ := hf
  exact numTakes_any b sizes fun n hn => fit_u8 (h2 n hn)
end Go.Proofs.Ytgaijhlncgakeaa
