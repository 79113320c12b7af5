/- BucketReads answers true. -/
import Derived.Test.YthhjkmefpmmleaaBktreadref
namespace Go.Proofs.Ythhjkmefpmmleaa
open Go.Eng
set_option linter.unusedVariables false
set_option linter.unusedSimpArgs false
set_option maxRecDepth 20000 in
theorem bucketReads_any (B S H W : Int) (t : List Int) (hB : isB t) : law10_BucketReads ((B, S, H, W, ()), t) = some true := by
 unfold law10_BucketReads
 simp only [norm32]
 have h44 : (2 : Nat) ^ 44 = 17592186044416 := by decide
 by_cases h1 : 1000 < t.length
 ·exact cond_t (by simp [Dat.igt, Dat.ofN, Dat.len]; omega) rfl
 refine cond_f (by simp [Dat.igt, Dat.ofN, Dat.len]; omega) ?_
 refine ite_some (by simp [Dat.Le, Dat.addN, Dat.len]) ?_
 refine ite_none (by simp only [Dat.Big, Dat.len, Dat.seg, List.drop_zero, List.length_take, List.length_nil]; omega) ?_
 refine bnd_to (y := t) rfl ?_
 obtain ⟨r, hr, nb, he, harr, hbs, hm⟩ := bucketRead_r B S H W t hB
 refine bind_to hr ?_
 refine bind_to (ref10_Read_spec B S H W t hB) ?_
 have hdat : ∀ b ∈ (readB B S H W t).1.1, b.2.2.1.length ≤ 1000 := by
  rcases readB_cases B S H W t hB with ⟨_, h2⟩ | ⟨l, X, Y, h2, _, _, hw, _⟩
  ·rw [h2]; intro b hb; simp [noK] at hb
  ·rw [h2]
   intro b hb
   unfold writeB at hw
   split at hw
   ·rename_i h0
    obtain ⟨hs, _, hbb, _⟩ := bchk_ok h0
    have := check_ok (hbb b hb)
    obtain ⟨l1, l2, l3, l4, l5, l6⟩ := lvl_iff.1 (slots_lvl hs)
    omega
   ·rename_i h0
    simp only [Prod.mk.injEq] at hw
    exact absurd hw.2 h0
 have hll : (readB B S H W t).1.1.length ≤ 4 := by
  rcases readB_cases B S H W t hB with ⟨_, h2⟩ | ⟨l, X, Y, h2, _, _, hw, h4⟩
  ·rw [h2]; simp [noK]
  ·rw [h2]; exact h4
 generalize readB B S H W t = p at *
 obtain ⟨⟨l, X, Y, u⟩, e⟩ := p
 obtain ⟨⟨Q, R⟩, ⟨m, X', Y', u'⟩, e'⟩ := r
 dsimp only at he harr hbs hm hdat hll ⊢
 simp only [Prod.mk.injEq] at harr
 obtain ⟨rfl, rfl, _⟩ := harr
 subst he
 have hok : Dat.XOk R m := by
  rcases hm with ⟨rfl, _⟩ | ⟨rfl, rfl⟩
  ·rfl
  ·simp [Dat.XOk, MixE.xok]
 have hget : Dat.xget R m = nb := by
  rcases hm with ⟨rfl, rfl⟩ | ⟨rfl, rfl⟩
  ·rfl
  ·show (nb.drop 0).take nb.length = nb
   rw [List.drop_zero, List.take_length]
 have hrd : RowD R m (nb.map fun e => e.2.2.1) := by
  rcases hm with ⟨rfl, rfl⟩ | ⟨rfl, rfl⟩
  ·exact .inl ⟨rfl, rfl⟩
  ·exact .inr ⟨nb, rfl, rfl, rfl⟩
 have e2 := ref10_Same_spec l l (arr32 X') (arr32 Y') (arr32 X') (arr32 Y') (by omega)
 rw [eqA_self, eqA_self, sameBs_self, Bool.true_and, Bool.true_and] at e2
 refine joinTo (fun j => j = true) (r := some true) ?_ ?_
 rotate_left
 ·intro k hk
  rw [if_pos hok, hget, blkSegs_view hbs (fun e he => by rw [if_pos he]), Dat.bind_some, e2, Dat.bind_some, cond_true, show Dat.ieq e' e' = true by simp [Dat.ieq], Dat.pick_tt]
  exact hk _ rfl
 rintro j rfl
 have hdl : (nb.map fun e => e.2.2.1).length = l.length := by rw [List.length_map]; exact hbs.1
 have hat0 := fun {i : Nat} (hi : i < l.length) (d : MixE Int) (hd : (nb.map fun e => e.2.2.1)[i]? = some d) => blkSegs_at hbs hi hd
 generalize (nb.map fun e => e.2.2.1) = ds at *
 rw [rowD_len hrd, hdl]
 refine loop_inv (fun (s : Int × (List (List Int) × List (List MBlk))) => ∃ i : Nat, s.1 = (i : Int) ∧ i ≤ l.length ∧ Shape s.2.1 Q ∧ RowD s.2.2 m ds) (fun s => l.length - s.1.toNat) ?_ ⟨0, rfl, Nat.zero_le _, shape_refl _, hrd⟩ (mu_lt _ _ (by omega))
 rintro ⟨s1, s2, s3⟩ k ⟨i, rfl, hi, hsh, hbl⟩ hk
 dsimp only at hsh hbl ⊢
 by_cases hlt : i < l.length
 ·have hid : i < ds.length := by omega
  have hix : Dat.Ix (i : Int) l.length := ⟨by omega, by omega⟩
  have hpt := rowD_pt hbl hid
  obtain ⟨b, hat, hed⟩ := rowD_at hbl hid (0, (0, ((MixE.nil : MixE (Int)), ())))
  have hbl2 := rowD_set hbl hid (e := ((-7), (b.2.1, (b.2.2.1, ())))) hed
  have hpt2 := rowD_pt hbl2 hid
  obtain ⟨b', hat2, hed2⟩ := rowD_at hbl2 hid (0, (0, ((MixE.nil : MixE (Int)), ())))
  refine cond_t (decide_eq_true (by simp only [Dat.ofN]; omega)) ?_
  refine ite_some hix ?_
  refine ite_some hpt ?_
  refine ite_some hpt ?_
  refine ite_some hpt ?_
  refine bnd_to hat ?_
  refine bnd_to rfl ?_
  generalize Dat.xset s3 m (Dat.toN (i : Int)) ((-7), (b.2.1, (b.2.2.1, ()))) = s4 at *
  have hseg : Seg Q b'.2.2.1 l[i].2.2.1 := by
   rw [hed2]
   exact hat0 hlt _ (List.getElem?_eq_getElem hid)
  have hdl2 := hdat _ (List.getElem_mem hlt)
  generalize l[i].2.2.1 = dd at *
  have hel := seg_len hseg
  have hk' : ∀ Q', Shape Q' Q → k (((i + 1 : Nat) : Int), Q', s4) = some true := fun Q' hq => hk _ ⟨i + 1, rfl, hlt, hq, hbl2⟩ (by show l.length - (((i + 1 : Nat) : Int)).toNat < l.length - ((i : Int)).toNat; omega)
  refine loop_inv (fun (s : Int × List (List Int)) => ∃ q : Nat, s.1 = (q : Int) ∧ q ≤ dd.length ∧ Shape s.2 Q) (fun s => dd.length - s.1.toNat) ?_ ⟨0, rfl, Nat.zero_le _, hsh⟩ (mu_lt _ _ (by omega))
  rintro ⟨u1, u2⟩ k2 ⟨q, rfl, hq, hsh2⟩ hk2
  dsimp only at hsh2 ⊢
  refine ite_some hix ?_
  refine ite_some hpt2 ?_
  refine ite_some hpt2 ?_
  refine ite_some hpt2 ?_
  refine bnd_to hat2 ?_
  by_cases hql : q < dd.length
  ·have hp2 : Dat.XPt u2 b'.2.2.1 (Dat.toN (q : Int)) := seg_pt hseg hsh2 hql
   have hx2 := seg_ix hseg hql
   refine cond_t (decide_eq_true (by simp only [Dat.ofN, hel]; omega)) ?_
   refine ite_some hix ?_
   refine ite_some hpt2 ?_
   refine ite_some hpt2 ?_
   refine ite_some hpt2 ?_
   refine bnd_to hat2 ?_
   refine ite_some hix ?_
   refine ite_some hpt2 ?_
   refine ite_some hpt2 ?_
   refine ite_some hpt2 ?_
   refine bnd_to hat2 ?_
   refine ite_some hx2 ?_
   refine ite_some hp2 ?_
   refine ite_some hp2 ?_
   refine bnd_to rfl ?_
   refine bnd_to rfl ?_
   refine ite_some hx2 ?_
   refine ite_some hp2 ?_
   refine ite_some hp2 ?_
   refine bnd_to rfl ?_
   refine bnd_to (y := ((q + 1 : Nat) : Int)) (Dat.succ_i64 (by omega)) ?_
   exact hk2 _ ⟨q + 1, rfl, hql, shape_set hsh2 _ _ _⟩ (by show dd.length - (((q + 1 : Nat) : Int)).toNat < dd.length - ((q : Int)).toNat; omega)
  ·refine cond_f (decide_eq_false (by simp only [Dat.ofN, hel]; omega)) ?_
   refine bnd_to (y := ((i + 1 : Nat) : Int)) (Dat.succ_i64 (by omega)) ?_
   exact hk' _ hsh2
 ·refine cond_f (decide_eq_false (by simp only [Dat.ofN]; omega)) ?_
  refine joinTo (fun j => j = true) (r := some true) (by rintro j rfl; rfl) ?_
  intro k2 hk2
  have e1 : ref01_Same (t, t) = some true := by rw [ref01_Same_spec]; simp
  rw [cond_true, e1, Dat.bind_some, Dat.pick_tt]
  exact hk2 _ rfl
theorem law10_BucketReads_true (d : Els p_law10_BucketReads.args) (hf : Fits p_law10_BucketReads.args d) : law10_BucketReads d = some true := by
 obtain ⟨⟨B, S, H, W, _⟩, t⟩ := d
 obtain ⟨_, h1, h2⟩ := hf
 exact bucketReads_any B S H W t fun n hn => fit_u8 (h2 n hn)
end Go.Proofs.Ythhjkmefpmmleaa
