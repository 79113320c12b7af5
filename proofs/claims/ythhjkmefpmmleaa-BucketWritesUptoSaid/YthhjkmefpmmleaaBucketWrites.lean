/- BucketWrites answers true, of a bounded bulk. -/
import Derived.Test.YthhjkmefpmmleaaBktwin
import Derived.Test.YthhjkmefpmmleaaM6
namespace Go.Proofs.Ythhjkmefpmmleaa
open Go.Eng
set_option linter.unusedVariables false
set_option linter.unusedSimpArgs false
theorem great_ten {l : List Blk} (h : greatS l 10 = false) : l.length ≤ 10 := by
 unfold greatS at h
 simp only [Bool.or_eq_false_iff, decide_eq_false_iff_not] at h
 omega
set_option maxRecDepth 20000 in
theorem bucketWrites_any (B S H W : Int) (lb lo : List Blk) (Lb Rb Lo Ro : List Int) (hsz : ∀ x ∈ lb, x.2.2.1.length ≤ 2000000) :
  law10_BucketWrites ((B, S, H, W, ()), (lb, Lb, Rb, ()), (lo, Lo, Ro, ())) = some true := by
 unfold law10_BucketWrites
 simp only [norm32]
 refine joinTo (fun j => j = (greatS lb 10 || greatS lo 10)) (r := some true) ?_ ?_
 rotate_left
 ·intro k hk
  rw [ref10_Great_spec, Dat.bind_some]
  cases hb : greatS lb 10 with
  | true => rw [hb] at hk; exact hk true rfl
  | false =>
   rw [hb] at hk
   rw [cond_false, ref10_Great_spec, Dat.bind_some, Dat.pick_ft]
   exact hk _ (by simp)
 rintro j rfl
 cases hg : (greatS lb 10 || greatS lo 10) with
 | true => rfl
 | false =>
  rw [Bool.or_eq_false_iff] at hg
  have hl1 := great_ten hg.1
  have hl2 := great_ten hg.2
  rw [cond_false]
  refine bind_to (ref10_Twin_spec lb _ _ (by omega) hsz) ?_
  dsimp only
  refine bind_to (bucket_Write_spec B S H W lb _ _) ?_
  refine bind_to (ref10_Write_spec B S H W lb _ _) ?_
  refine bind_to (bucket_Twin_r_spec lb _ _ (by omega) hsz) ?_
  simp only [arr32_twice]
  generalize hw : writeB B S H W lb (arr32 Lb) (arr32 Rb) = w
  have e1 : ∀ x : List Int, ref01_Same (x, x) = some true := fun x => by rw [ref01_Same_spec]; simp
  have hlb : lb.length < 4611686018427387904 := by omega
  have e2 := ref10_Same_spec lb lb (arr32 Lb) (arr32 Rb) (arr32 Lb) (arr32 Rb) hlb
  rw [eqA_self, eqA_self, sameBs_self, Bool.true_and, Bool.true_and] at e2
  have e3 := bucket_Same_spec lb lb (arr32 Lb) (arr32 Rb) (arr32 Lb) (arr32 Rb) hlb
  rw [eqA_self, eqA_self, sameBs_self, Bool.true_and, Bool.true_and] at e3
  have e4 := bucket_Same_spec lb lo (arr32 Lb) (arr32 Rb) (arr32 Lo) (arr32 Ro) hlb
  have e5 := ref10_Same_spec lb lo (arr32 Lb) (arr32 Rb) (arr32 Lo) (arr32 Ro) hlb
  generalize (eqA (arr32 Lb) (arr32 Lo) && (eqA (arr32 Rb) (arr32 Ro) && sameBs lb lo)) = both at e4 e5
  refine joinTo (fun j => j = true) (r := some true) ?_ ?_
  rotate_left
  ·intro k hk
   rw [e1, Dat.bind_some, cond_true, show Dat.ieq w.2 w.2 = true by simp [Dat.ieq], Dat.pick_tt, cond_true, bucket_Check_spec, Dat.bind_some, ref10_Check_spec, Dat.bind_some, show ∀ x : Int, Dat.ieq x x = true from fun x => by simp [Dat.ieq], Dat.pick_tt]
   exact hk _ rfl
  rintro j rfl
  have hbr := blkRow_nest lb
  refine joinTo (fun j => j = true) (r := some true) ?_ ?_
  rotate_left
  ·intro k hk
   have hok : Dat.XOk [nestB 0 lb] (.ref 0 0 lb.length lb.length) := by simp [Dat.XOk, MixE.xok, nestB_len]
   have hget : Dat.xget [nestB 0 lb] (.ref 0 0 lb.length lb.length) = nestB 0 lb := by
    show ((nestB 0 lb).drop 0).take lb.length = nestB 0 lb
    rw [List.drop_zero, ← nestB_len 0 lb, List.take_length]
   rw [e4, Dat.bind_some, e5, Dat.bind_some, show Dat.beq both both = true by simp [Dat.beq], cond_true, e3, Dat.bind_some, Dat.pick_tt, cond_true, if_pos hok, hget]
   rw [nestB_view (Q := lb.map fun x => x.2.2.1) (fun e he => by rw [if_pos he]) 0 lb fun i hi => by simp [hi], Dat.bind_some, e2, Dat.bind_some, Dat.pick_tt]
   exact hk _ rfl
  rintro j rfl
  refine loop_inv (fun (s : Int × (List (List Int) × List (List MBlk))) => ∃ i : Nat, s.1 = (i : Int) ∧ i ≤ lb.length ∧ Shape s.2.1 (lb.map fun x => x.2.2.1) ∧ BlkRow s.2.2 lb) (fun s => lb.length - s.1.toNat) ?_ ⟨0, rfl, Nat.zero_le _, shape_refl _, hbr⟩ (mu_lt _ _ (by omega))
  rintro ⟨s1, s2, s3⟩ k ⟨i, rfl, hi, hsh, hbl⟩ hk
  dsimp only at hsh hbl ⊢
  have hxl : Dat.xlen (MixE.ref 0 0 lb.length lb.length : MixE MBlk) = lb.length := rfl
  rw [hxl]
  by_cases hlt : i < lb.length
  ·have hix : Dat.Ix (i : Int) lb.length := ⟨by omega, by omega⟩
   have hpt := blk_pt hbl hlt
   obtain ⟨e, hat, hed⟩ := blk_at hbl hlt (0, (0, ((MixE.nil : MixE (Int)), ())))
   have hbl2 := blk_set hbl hlt (e := ((-7), (e.2.1, (e.2.2.1, ())))) hed
   have hpt2 := blk_pt hbl2 hlt
   obtain ⟨e', hat2, hed2⟩ := blk_at hbl2 hlt (0, (0, ((MixE.nil : MixE (Int)), ())))
   refine cond_t (decide_eq_true (by simp only [Dat.ofN]; omega)) ?_
   refine ite_some hix ?_
   refine ite_some hpt ?_
   refine ite_some hpt ?_
   refine ite_some hpt ?_
   refine bnd_to hat ?_
   refine bnd_to rfl ?_
   generalize Dat.xset s3 (.ref 0 0 lb.length lb.length) (Dat.toN (i : Int)) ((-7), (e.2.1, (e.2.2.1, ()))) = s4 at *
   have hseg : Seg (lb.map fun x => x.2.2.1) e'.2.2.1 lb[i].2.2.1 := by
    rw [hed2]
    exact xrow_seg (by simp [hlt])
   have hdl := hsz _ (List.getElem_mem hlt)
   generalize lb[i].2.2.1 = dd at *
   have hel := seg_len hseg
   have hk' : ∀ Q', Shape Q' (lb.map fun x => x.2.2.1) → k (((i + 1 : Nat) : Int), Q', s4) = some true := fun Q' hq => hk _ ⟨i + 1, rfl, hlt, hq, hbl2⟩ (by show lb.length - (((i + 1 : Nat) : Int)).toNat < lb.length - ((i : Int)).toNat; omega)
   refine loop_inv (fun (s : Int × List (List Int)) => ∃ q : Nat, s.1 = (q : Int) ∧ q ≤ dd.length ∧ Shape s.2 (lb.map fun x => x.2.2.1)) (fun s => dd.length - s.1.toNat) ?_ ⟨0, rfl, Nat.zero_le _, hsh⟩ (mu_lt _ _ (by omega))
   rintro ⟨u1, u2⟩ k2 ⟨q, rfl, hq, hsh2⟩ hk2
   dsimp only at hsh2 ⊢
   refine ite_some hix ?_
   refine ite_some hpt2 ?_
   refine ite_some hpt2 ?_
   refine ite_some hpt2 ?_
   refine bnd_to hat2 ?_
   by_cases hql : q < dd.length
   ·have hp2 : Dat.XPt u2 e'.2.2.1 (Dat.toN (q : Int)) := seg_pt hseg hsh2 hql
    have hx2 := seg_ix hseg hql
    refine cond_t (decide_eq_true (by simp only [Dat.ofN, hel]; omega)) ?_
    refine ite_some hix ?_
    refine ite_some hpt2 ?_
    refine ite_some hpt2 ?_
    refine ite_some hpt2 ?_
    refine bnd_to hat2 ?_
    refine ite_some hix ?_
    refine ite_some hpt2 ?_
    refine ite_some hpt2 ?_
    refine ite_some hpt2 ?_
    refine bnd_to hat2 ?_
    refine ite_some hx2 ?_
    refine ite_some hp2 ?_
    refine ite_some hp2 ?_
    refine bnd_to rfl ?_
    refine bnd_to rfl ?_
    refine ite_some hx2 ?_
    refine ite_some hp2 ?_
    refine ite_some hp2 ?_
    refine bnd_to rfl ?_
    refine bnd_to (y := ((q + 1 : Nat) : Int)) (Dat.succ_i64 (by omega)) ?_
    exact hk2 _ ⟨q + 1, rfl, hql, shape_set hsh2 _ _ _⟩ (by show dd.length - (((q + 1 : Nat) : Int)).toNat < dd.length - ((q : Int)).toNat; omega)
   ·refine cond_f (decide_eq_false (by simp only [Dat.ofN, hel]; omega)) ?_
    refine bnd_to (y := ((i + 1 : Nat) : Int)) (Dat.succ_i64 (by omega)) ?_
    exact hk' _ hsh2
  ·refine cond_f (decide_eq_false (by simp only [Dat.ofN]; omega)) ?_
   refine joinTo (fun j => j = true) (r := some true) (by rintro j rfl; rfl) ?_
   intro k2 hk2
   rw [cond_true, Dat.pick_tt, cond_true, e2, Dat.bind_some, Dat.pick_tt]
   exact hk2 _ rfl
theorem sum_mem_le {l : List Nat} {n : Nat} (h : n ∈ l) : n ≤ l.sum := by
 induction l with
 | nil => cases h
 | cons x l ih =>
  rcases List.mem_cons.1 h with rfl | h
  ·simp
  ·have := ih h; simp only [List.sum_cons]; omega
theorem siz_bytes (d : List Int) : siz (.list (.int .u8)) d = d.length + 1 := by
 have key : ∀ d : List Int, (List.map (siz (.int .u8)) d).sum = d.length := by
  intro d
  induction d with
  | nil => rfl
  | cons x d ih =>
   rw [List.map_cons, List.sum_cons, ih, List.length_cons]
   show 1 + d.length = d.length + 1
   omega
 show (List.map (siz (.int .u8)) d).sum + 1 = d.length + 1
 rw [key]
theorem siz_blk (x : Blk) : x.2.2.1.length ≤ siz (.pair (.int .i64) (.pair (.int .i64) (.pair (.list (.int .u8)) .unit))) x := by
 have := siz_bytes x.2.2.1
 simp only [siz] at this ⊢
 omega
theorem siz_blks {l : List Blk} {n : Nat} (h : siz (.list (.pair (.int .i64) (.pair (.int .i64) (.pair (.list (.int .u8)) .unit)))) l ≤ n) : ∀ x ∈ l, x.2.2.1.length ≤ n := by
 intro x hx
 have h1 := siz_blk x
 have h2 := sum_mem_le (List.mem_map_of_mem (f := siz (.pair (.int .i64) (.pair (.int .i64) (.pair (.list (.int .u8)) .unit)))) hx)
 have h3 : siz (.list (.pair (.int .i64) (.pair (.int .i64) (.pair (.list (.int .u8)) .unit)))) l = (l.map (siz (.pair (.int .i64) (.pair (.int .i64) (.pair (.list (.int .u8)) .unit))))).sum + 1 := by simp only [siz]
 omega
theorem law10_BucketWrites_true (d : Els p_law10_BucketWrites.args) (hf : Fits p_law10_BucketWrites.args d) (hz : sizs p_law10_BucketWrites.args d ≤ 1048576) : law10_BucketWrites d = some true := by
 obtain ⟨⟨B, S, H, W, _⟩, ⟨lb, Lb, Rb, _⟩, ⟨lo, Lo, Ro, _⟩⟩ := d
 refine bucketWrites_any B S H W lb lo Lb Rb Lo Ro fun x hx => ?_
 have h1 : siz (.list (.pair (.int .i64) (.pair (.int .i64) (.pair (.list (.int .u8)) .unit)))) lb ≤ 1048576 := by
  simp only [sizs, p_law10_BucketWrites, siz] at hz ⊢
  omega
 have := siz_blks h1 x hx
 omega
end Go.Proofs.Ythhjkmefpmmleaa
