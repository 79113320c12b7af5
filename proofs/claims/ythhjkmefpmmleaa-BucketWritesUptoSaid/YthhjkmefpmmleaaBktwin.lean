/- Buckets copied, their rows in places. -/
import Derived.Test.YthhjkmefpmmleaaBucketw
namespace Go.Proofs.Ythhjkmefpmmleaa
open Go.Eng
set_option linter.unusedVariables false
set_option linter.unusedSimpArgs false
theorem loop_tail4 {A B C D T β : Type} {f : A × B × C × D × T → (A × B × C × D × T → Option β) → Option β} {a0 : A} {b0 : B} {c0 : C} {d0 : D} {t0 : T} {r : β} (I : A → B → C → D → Prop) (μ : A → B → C → D → Nat)
  (step : ∀ a b c d k, I a b c d → (∀ a' b' c' d', I a' b' c' d' → μ a' b' c' d' < μ a b c d → k (a', b', c', d', t0) = some r) → f (a, b, c, d, t0) k = some r) (h0 : I a0 b0 c0 d0) (hμ : μ a0 b0 c0 d0 < 18446744073709551616) :
  Dat.loop f (a0, b0, c0, d0, t0) = some r := by
 refine loop_inv (fun s => I s.1 s.2.1 s.2.2.1 s.2.2.2.1 ∧ s.2.2.2.2 = t0) (fun s => μ s.1 s.2.1 s.2.2.1 s.2.2.2.1) ?_ ⟨h0, rfl⟩ hμ
 rintro ⟨a, b, c, d, t⟩ k ⟨hI, ht⟩ hk
 dsimp only at ht hI
 subst ht
 exact step a b c d k hI fun a' b' c' d' h1 h2 => hk (a', b', c', d', t) ⟨h1, rfl⟩ h2
theorem bucket_Twin_r_spec (l : List Blk) (L R : List Int) (hl : l.length ≤ 1000) (hd : ∀ x ∈ l, x.2.2.1.length ≤ 2000000) :
  bucket_Twin_r (l, L, R, ()) = some ((l.map fun x => x.2.2.1, [nestB 0 l]), (.ref 0 0 l.length l.length, arr32 L, arr32 R, ())) := by
 unfold bucket_Twin_r
 dsimp only
 have h44 : (2 : Nat) ^ 44 = 17592186044416 := by decide
 refine loop_tail4 (fun i B Q m => ∃ t : Nat, t ≤ l.length ∧ i = (t : Int) ∧ B = [nestB 0 (l.take t)] ∧ Q = (l.take t).map (fun x => x.2.2.1) ∧ m = .ref 0 0 t t) (fun i _ _ _ => l.length - i.toNat) ?_ ⟨0, Nat.zero_le _, rfl, rfl, rfl, rfl⟩ (mu_lt _ _ (by omega))
 rintro _ _ _ _ k ⟨t, ht, rfl, rfl, rfl, rfl⟩ hk
 dsimp only
 by_cases hlt : t < l.length
 ·have hx := hd _ (List.getElem_mem hlt)
  have hti : (l.take t).length = t := by rw [List.length_take]; omega
  refine cond_t (decide_eq_true (by simp only [Dat.ofN, Dat.len]; omega)) ?_
  refine ite_some (show Dat.Ix (t : Int) (Dat.len l) from ⟨by omega, by simp only [Dat.len]; omega⟩) ?_
  refine bnd_to (bget l hlt) ?_
  refine bind_to (slot_Twin_spec l[t].1 l[t].2.1 l[t].2.2.1 hx) ?_
  refine bnd_to rfl ?_
  refine ite_some (by simp [Dat.XGr, MixE.xgr, nestB_len, hti]) ?_
  refine iteN (by simp [Dat.len]) ?_
  refine ite_none (by simp only [Dat.Big, Dat.xlen, Dat.len, List.length_cons, List.length_nil]; omega) ?_
  refine bnd_to rfl ?_
  refine bnd_to rfl ?_
  refine bnd_to (wrapI (x := Dat.add (t : Int) 1) (by simp only [Dat.add]; omega)) ?_
  refine hk _ _ _ _ ⟨t + 1, hlt, by simp [Dat.add], ?_, ?_, ?_⟩ (by simp only [Dat.add]; omega)
  ·rw [List.take_succ_eq_append_getElem hlt, nestB_app, hti]
   simp [-List.map_take, Dat.xapp, Dat.len, Dat.xk, hti]
  ·rw [List.take_succ_eq_append_getElem hlt, List.map_append]
   simp [-List.map_take, Dat.app]
  ·simp [Dat.xlong, Dat.len]
 ·have hi' : t = l.length := by omega
  subst hi'
  refine cond_f (decide_eq_false (by simp only [Dat.ofN, Dat.len]; omega)) ?_
  rw [List.take_length]
  rfl
theorem norm32 (x : List Int) : n32 x = arr32 x := rfl
theorem arr32_same {d : List Int} (h : d.length = 32) : arr32 d = d := norm_same h
theorem arr32_twice (d : List Int) : arr32 (arr32 d) = arr32 d := arr32_same (arr32_len d)
def eqA (a b : List Int) : Bool := (Dat.andB (Dat.ieq (Dat.get a 0 0) (Dat.get b 0 0)) (Dat.andB (Dat.ieq (Dat.get a 1 0) (Dat.get b 1 0)) (Dat.andB (Dat.ieq (Dat.get a 2 0) (Dat.get b 2 0)) (Dat.andB (Dat.ieq (Dat.get a 3 0) (Dat.get b 3 0)) (Dat.andB (Dat.ieq (Dat.get a 4 0) (Dat.get b 4 0)) (Dat.andB (Dat.ieq (Dat.get a 5 0) (Dat.get b 5 0)) (Dat.andB (Dat.ieq (Dat.get a 6 0) (Dat.get b 6 0)) (Dat.andB (Dat.ieq (Dat.get a 7 0) (Dat.get b 7 0)) (Dat.andB (Dat.ieq (Dat.get a 8 0) (Dat.get b 8 0)) (Dat.andB (Dat.ieq (Dat.get a 9 0) (Dat.get b 9 0)) (Dat.andB (Dat.ieq (Dat.get a 10 0) (Dat.get b 10 0)) (Dat.andB (Dat.ieq (Dat.get a 11 0) (Dat.get b 11 0)) (Dat.andB (Dat.ieq (Dat.get a 12 0) (Dat.get b 12 0)) (Dat.andB (Dat.ieq (Dat.get a 13 0) (Dat.get b 13 0)) (Dat.andB (Dat.ieq (Dat.get a 14 0) (Dat.get b 14 0)) (Dat.andB (Dat.ieq (Dat.get a 15 0) (Dat.get b 15 0)) (Dat.andB (Dat.ieq (Dat.get a 16 0) (Dat.get b 16 0)) (Dat.andB (Dat.ieq (Dat.get a 17 0) (Dat.get b 17 0)) (Dat.andB (Dat.ieq (Dat.get a 18 0) (Dat.get b 18 0)) (Dat.andB (Dat.ieq (Dat.get a 19 0) (Dat.get b 19 0)) (Dat.andB (Dat.ieq (Dat.get a 20 0) (Dat.get b 20 0)) (Dat.andB (Dat.ieq (Dat.get a 21 0) (Dat.get b 21 0)) (Dat.andB (Dat.ieq (Dat.get a 22 0) (Dat.get b 22 0)) (Dat.andB (Dat.ieq (Dat.get a 23 0) (Dat.get b 23 0)) (Dat.andB (Dat.ieq (Dat.get a 24 0) (Dat.get b 24 0)) (Dat.andB (Dat.ieq (Dat.get a 25 0) (Dat.get b 25 0)) (Dat.andB (Dat.ieq (Dat.get a 26 0) (Dat.get b 26 0)) (Dat.andB (Dat.ieq (Dat.get a 27 0) (Dat.get b 27 0)) (Dat.andB (Dat.ieq (Dat.get a 28 0) (Dat.get b 28 0)) (Dat.andB (Dat.ieq (Dat.get a 29 0) (Dat.get b 29 0)) (Dat.andB (Dat.ieq (Dat.get a 30 0) (Dat.get b 30 0)) (Dat.andB (Dat.ieq (Dat.get a 31 0) (Dat.get b 31 0)) true))))))))))))))))))))))))))))))))
theorem eqA_self (a : List Int) : eqA a a = true := by
 have q : ∀ x : Int, Dat.ieq x x = true := fun x => by simp [Dat.ieq]
 unfold eqA
 simp only [q]
 rfl
theorem bucket_Same_spec (a b : List Blk) (L R L' R' : List Int) (ha : a.length < 4611686018427387904) : bucket_Same ((a, L, R, ()), (b, L', R', ())) = some (eqA L L' && (eqA R R' && sameBs a b)) := by
 unfold bucket_Same
 dsimp only
 change (bif eqA L L' then (bif Dat.pickB true (eqA R R') false then _ else _) else _) = _
 cases eqA L L' with
 | false => rfl
 | true =>
  refine cond_t rfl ?_
  cases eqA R R' with
  | false => exact cond_f rfl rfl
  | true =>
   refine cond_t rfl ?_
   rw [Bool.true_and, Bool.true_and]
   by_cases hab : a.length = b.length
   ·refine cond_f (by simp [Dat.ine, Dat.ofN, Dat.len, hab]) ?_
    refine loop_inv (fun (s : Int) => ∃ i : Nat, s = i ∧ i ≤ a.length ∧ sameBs (a.drop i) (b.drop i) = sameBs a b) (fun s => a.length - s.toNat) ?_ ⟨0, rfl, Nat.zero_le _, rfl⟩ (mu_lt _ _ (by omega))
    rintro d k ⟨i, rfl, hi, hs⟩ hk
    by_cases h1 : i < a.length
    ·have h2 : i < b.length := by omega
     rw [List.drop_eq_getElem_cons h1, List.drop_eq_getElem_cons h2] at hs
     refine cond_t (decide_eq_true (by simp only [Dat.ofN, Dat.len]; omega)) ?_
     refine ite_some ⟨by omega, by simp only [Dat.len]; omega⟩ ?_
     refine bnd_to (bget a h1) ?_
     refine ite_some ⟨by omega, by simp only [Dat.len]; omega⟩ ?_
     refine bnd_to (bget b h2) ?_
     generalize a[i] = x at *
     generalize b[i] = y at *
     obtain ⟨x1, x2, x3, _⟩ := x
     obtain ⟨y1, y2, y3, _⟩ := y
     refine bind_to (slot_Same_spec x1 x2 x3 y1 y2 y3) ?_
     cases hsm : sameS x1 x2 x3 y1 y2 y3 with
     | false =>
      refine cond_t rfl ?_
      rw [← hs]
      simp [sameBs, sameB, hsm, Dat.pickB]
     | true =>
      refine cond_f rfl ?_
      refine bnd_to (wrapI (by simp only [Dat.add]; omega)) ?_
      refine hk _ ⟨i + 1, by simp, h1, ?_⟩ (by show a.length - ((i : Int) + 1).toNat < a.length - ((i : Int)).toNat; omega)
      rw [← hs]
      simp [sameBs, sameB, hsm]
    ·have h0 : i = a.length := by omega
     subst h0
     rw [List.drop_length, hab, List.drop_length] at hs
     refine cond_f (decide_eq_false (by simp only [Dat.ofN, Dat.len]; omega)) ?_
     rw [← hs]; rfl
   ·exact cond_t (by simp [Dat.ine, Dat.ofN, Dat.len]; omega) (by rw [sameBs_len hab]; rfl)
theorem ref10_Same_spec (a b : List Blk) (L R L' R' : List Int) (ha : a.length < 4611686018427387904) : ref10_Same ((a, L, R, ()), (b, L', R', ())) = some (eqA L L' && (eqA R R' && sameBs a b)) := by
 unfold ref10_Same
 dsimp only
 refine bind_to (ref09_SameAll_spec a b ha) ?_
 change (bif sameBs a b then (bif Dat.pickB true (eqA L L') false then some (Dat.pickB true (eqA R R') false) else _) else _) = _
 cases sameBs a b <;> cases eqA L L' <;> cases eqA R R' <;> rfl
theorem ref09_TwinAll_spec (l : List Blk) (hl : l.length ≤ 1000) (hd : ∀ x ∈ l, x.2.2.1.length ≤ 2000000) : ref09_TwinAll l = some l := by
 unfold ref09_TwinAll
 have h44 : (2 : Nat) ^ 44 = 17592186044416 := by decide
 refine ite_some rfl ?_
 refine loop_inv (fun (s : List Blk × Int) => ∃ i : Nat, i ≤ l.length ∧ s = (l.take i, (i : Int))) (fun s => l.length - s.2.toNat) ?_ ⟨0, Nat.zero_le _, rfl⟩ (mu_lt _ _ (by omega))
 rintro s k ⟨i, hi, rfl⟩ hk
 dsimp only
 by_cases hlt : i < l.length
 ·have hx := hd _ (List.getElem_mem hlt)
  have hti : (l.take i).length = i := by rw [List.length_take]; omega
  refine cond_t (decide_eq_true (by simp only [Dat.ofN, Dat.len]; omega)) ?_
  refine ite_some ⟨by omega, by simp only [Dat.len]; omega⟩ ?_
  refine bnd_to (bget l hlt) ?_
  refine bind_to (ref09_Twin_spec l[i].1 l[i].2.1 l[i].2.2.1 hx) ?_
  refine ite_some (by simp [Dat.Le, Dat.addN, Dat.len]) ?_
  refine ite_none (by simp only [Dat.Big, Dat.len, Dat.seg, List.drop_zero, List.length_take, List.length_cons, List.length_nil]; omega) ?_
  refine ite_some rfl ?_
  refine bnd_to (y := l.take (i + 1)) (by rw [List.take_succ_eq_append_getElem hlt]; rfl) ?_
  refine bnd_to (y := ((i + 1 : Nat) : Int)) (Dat.succ_i64 (by omega)) ?_
  refine ite_some rfl ?_
  exact hk _ ⟨i + 1, hlt, rfl⟩ (by show l.length - (((i + 1 : Nat) : Int)).toNat < l.length - ((i : Int)).toNat; omega)
 ·have hi' : i = l.length := by omega
  subst hi'
  refine cond_f (decide_eq_false (by simp only [Dat.ofN, Dat.len]; omega)) ?_
  rw [List.take_length]
theorem ref10_Twin_spec (l : List Blk) (L R : List Int) (hl : l.length ≤ 1000) (hd : ∀ x ∈ l, x.2.2.1.length ≤ 2000000) : ref10_Twin (l, L, R, ()) = some (l, arr32 L, arr32 R, ()) := by
 unfold ref10_Twin
 exact bind_to (ref09_TwinAll_spec l hl hd) rfl
theorem ref10_Great_spec (l : List Blk) (L R : List Int) : ref10_Great (l, L, R, ()) = some (greatS l 10) := by
 unfold ref10_Great
 exact bind_to (ref09_Great_spec l 10) rfl
def BlkRow (R : List (List MBlk)) (l : List Blk) : Prop := ∃ nb, R = [nb] ∧ nb.length = l.length ∧ ∀ (j : Nat) (e : MBlk) (x : Blk), nb[j]? = some e → l[j]? = some x → e.2.2.1 = Dat.xrow j x.2.2.1
theorem blkRow_nest (l : List Blk) : BlkRow [nestB 0 l] l := by
 refine ⟨_, rfl, nestB_len 0 l, fun j e x h1 h2 => ?_⟩
 have hj : j < l.length := (List.getElem?_eq_some_iff.1 h2).1
 rw [nestB_get 0 l j hj] at h1
 rw [List.getElem?_eq_getElem hj] at h2
 simp only [Option.some.injEq] at h1 h2
 subst h1; subst h2
 simp
theorem blk_pt {R : List (List MBlk)} {l : List Blk} (h : BlkRow R l) {i : Nat} (hi : i < l.length) : Dat.XPt R (.ref 0 0 l.length l.length) (Dat.toN (i : Int)) := by
 obtain ⟨nb, rfl, h1, _⟩ := h
 simp [Dat.XPt, MixE.xpt, Dat.toN, h1, hi]
theorem blk_at {R : List (List MBlk)} {l : List Blk} (h : BlkRow R l) {i : Nat} (hi : i < l.length) (z : MBlk) : ∃ e, Dat.xat R (.ref 0 0 l.length l.length) (Dat.toN (i : Int)) z = e ∧ e.2.2.1 = Dat.xrow i l[i].2.2.1 := by
 obtain ⟨nb, rfl, h1, h2⟩ := h
 have hi2 : i < nb.length := by omega
 refine ⟨nb[i], by simp [Dat.xat, Dat.xk, Dat.xoff, Dat.toN, hi2], h2 i _ _ (List.getElem?_eq_getElem hi2) (List.getElem?_eq_getElem hi)⟩
theorem blk_set {R : List (List MBlk)} {l : List Blk} (h : BlkRow R l) {i : Nat} (hi : i < l.length) {e : MBlk} (he : e.2.2.1 = Dat.xrow i l[i].2.2.1) : BlkRow (Dat.xset R (.ref 0 0 l.length l.length) (Dat.toN (i : Int)) e) l := by
 obtain ⟨nb, rfl, h1, h2⟩ := h
 refine ⟨nb.set i e, by simp [Dat.xset, Dat.xk, Dat.xoff, Dat.toN], by simp [h1], fun j e' x g1 g2 => ?_⟩
 rw [List.getElem?_set] at g1
 split at g1
 ·rename_i hij
  subst hij
  split at g1
  ·simp only [Option.some.injEq] at g1
   subst g1
   rw [List.getElem?_eq_getElem hi] at g2
   simp only [Option.some.injEq] at g2
   subst g2; exact he
  ·cases g1
 ·exact h2 j e' x g1 g2
theorem xrow_seg {Q : List (List Int)} {k : Nat} {d : List Int} (h : Q[k]? = some d) : Seg Q (Dat.xrow k d) d := by
 have hk := (List.getElem?_eq_some_iff.1 h).1
 have hg : Q.getD k [] = d := by simp [List.getD, h]
 by_cases hd : d.length = 0
 ·have : d = [] := List.length_eq_zero_iff.1 hd
  subst this
  exact .inl ⟨rfl, .inl rfl⟩
 ·refine .inr ⟨k, 0, hk, ?_, ?_, ?_⟩
  ·simp only [Dat.xrow, if_neg hd, hg]
  ·rw [hg]; omega
  ·rw [hg]; simp
end Go.Proofs.Ythhjkmefpmmleaa
