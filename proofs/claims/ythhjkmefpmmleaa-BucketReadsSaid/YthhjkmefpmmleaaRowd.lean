/- Blocks in a place, their data in another one. -/
import Derived.Test.YthhjkmefpmmleaaSeg
import Derived.Test.YthhjkmefpmmleaaNestblk
import Derived.Test.YthhjkmefpmmleaaSlot
namespace Go.Proofs.Ythhjkmefpmmleaa
open Go.Eng
set_option linter.unusedVariables false
set_option linter.unusedSimpArgs false
def Ex {β : Type} (Post : β → Prop) (x : Option β) : Prop := ∃ r, x = some r ∧ Post r
section
variable {β : Type} {Post : β → Prop}
theorem exS {r : β} (h : Post r) : Ex Post (some r) := ⟨r, rfl, h⟩
theorem exI {c : Prop} [Decidable c] {A B : Option β} (hc : c) (h : Ex Post A) : Ex Post (if c then A else B) := by rw [if_pos hc]; exact h
theorem exN {c : Prop} [Decidable c] {A B : Option β} (hc : ¬ c) (h : Ex Post B) : Ex Post (if c then A else B) := by rw [if_neg hc]; exact h
theorem exT {c : Bool} {A B : Option β} (hc : c = true) (h : Ex Post A) : Ex Post (bif c then A else B) := by rw [hc]; exact h
theorem exF {c : Bool} {A B : Option β} (hc : c = false) (h : Ex Post B) : Ex Post (bif c then A else B) := by rw [hc]; exact h
theorem exB {α : Type} {x y : α} {k : α → Option β} (hx : x = y) (h : Ex Post (k y)) : Ex Post (Dat.bnd x k) := by rw [hx]; exact h
theorem exBi {α : Type} {x : Option α} {y : α} {k : α → Option β} (hx : x = some y) (h : Ex Post (k y)) : Ex Post (Dat.bind x k) := by rw [hx]; exact h
end
theorem loop_ex {σ β : Type} {f : σ → (σ → Option β) → Option β} {Post : β → Prop} (I : σ → Prop) (μ : σ → Nat)
  (step : ∀ d k, I d → (∀ d', I d' → μ d' < μ d → Ex Post (k d')) → Ex Post (f d k)) {d : σ} (h0 : I d) (hb : μ d < 18446744073709551616) :
  Ex Post (Dat.loop f d) := by
 rw [Dat.loop_eq]
 have key : ∀ (n : Nat) (d : σ), I d → μ d < n → Ex Post (loopN f n d) := by
  intro n
  induction n with
  | zero => intro d _ h; omega
  | succ n ih =>
   intro d hI hlt
   show Ex Post (f d (loopN f n))
   exact step d _ hI fun d' hI' hlt' => ih d' hI' (by omega)
 exact key bigN d h0 hb
theorem loop_ex_tail5 {A B C D E T β : Type} {f : A × B × C × D × E × T → (A × B × C × D × E × T → Option β) → Option β} {a0 : A} {b0 : B} {c0 : C} {d0 : D} {e0 : E} {t0 : T} {Post : β → Prop} (I : A → B → C → D → E → Prop) (μ : A → Nat)
  (step : ∀ a b c d e k, I a b c d e → (∀ a' b' c' d' e', I a' b' c' d' e' → μ a' < μ a → Ex Post (k (a', b', c', d', e', t0))) → Ex Post (f (a, b, c, d, e, t0) k)) (h0 : I a0 b0 c0 d0 e0) (hμ : μ a0 < 18446744073709551616) :
  Ex Post (Dat.loop f (a0, b0, c0, d0, e0, t0)) := by
 refine loop_ex (fun s => I s.1 s.2.1 s.2.2.1 s.2.2.2.1 s.2.2.2.2.1 ∧ s.2.2.2.2.2 = t0) (fun s => μ s.1) ?_ ⟨h0, rfl⟩ hμ
 rintro ⟨a, b, c, d, e, t⟩ k ⟨hI, ht⟩ hk
 dsimp only at ht hI
 subst ht
 exact step a b c d e k hI fun a' b' c' d' e' h1 h2 => hk (a', b', c', d', e', t) ⟨h1, rfl⟩ h2
theorem seg_app {α : Type} {Q : List (List α)} {e : MixE α} {d : List α} (h : Seg Q e d) (r : List (List α)) : Seg (Q ++ r) e d := by
 rcases h with h | ⟨k, off, h1, h2, h3, h4⟩
 ·exact .inl h
 ·have hg : (Q ++ r).getD k [] = Q.getD k [] := by simp only [List.getD]; rw [List.getElem?_append_left h1]
  exact .inr ⟨k, off, by rw [List.length_append]; omega, by rw [hg]; exact h2, by rw [hg]; exact h3, by rw [hg]; exact h4⟩
theorem seg_xrow {α : Type} {Q : List (List α)} {k : Nat} {d : List α} (h : Q[k]? = some d) : Seg Q (Dat.xrow k d) d := by
 have hk := (List.getElem?_eq_some_iff.1 h).1
 have hg : Q.getD k [] = d := by simp [List.getD, h]
 by_cases hd : d.length = 0
 ·have : d = [] := List.length_eq_zero_iff.1 hd
  subst this
  exact .inl ⟨rfl, .inl rfl⟩
 ·refine .inr ⟨k, 0, hk, ?_, ?_, ?_⟩
  ·simp only [Dat.xrow, if_neg hd, hg]
  ·rw [hg]; omega
  ·rw [hg]; simp
def BlkSegs (Q : List (List Int)) (nb : List MBlk) (l : List Blk) : Prop := nb.length = l.length ∧ ∀ (i : Nat) (e : MBlk) (x : Blk), nb[i]? = some e → l[i]? = some x → e.1 = x.1 ∧ e.2.1 = x.2.1 ∧ Seg Q e.2.2.1 x.2.2.1
theorem blkSegs_nil (Q : List (List Int)) : BlkSegs Q [] [] := ⟨rfl, fun i e x h => by simp at h⟩
theorem blkSegs_more {Q : List (List Int)} {nb : List MBlk} {l : List Blk} (h : BlkSegs Q nb l) (r : List (List Int)) : BlkSegs (Q ++ r) nb l :=
 ⟨h.1, fun i e x h1 h2 => let ⟨a, b, c⟩ := h.2 i e x h1 h2; ⟨a, b, seg_app c r⟩⟩
theorem blkSegs_snoc {Q : List (List Int)} {nb : List MBlk} {l : List Blk} (h : BlkSegs Q nb l) (x : Blk) : BlkSegs (Q ++ [x.2.2.1]) (nb ++ [(x.1, x.2.1, Dat.xrow Q.length x.2.2.1, ())]) (l ++ [x]) := by
 refine ⟨by simp [h.1], fun i e y h1 h2 => ?_⟩
 by_cases hi : i < nb.length
 ·rw [List.getElem?_append_left hi] at h1
  rw [List.getElem?_append_left (by rw [← h.1]; exact hi)] at h2
  exact (blkSegs_more h _).2 i e y h1 h2
 ·rw [List.getElem?_append_right (by omega)] at h1
  rw [List.getElem?_append_right (by rw [← h.1]; omega), ← h.1] at h2
  have h0 : i - nb.length = 0 := by
   have := (List.getElem?_eq_some_iff.1 h1).1
   simp at this; omega
  rw [h0] at h1 h2
  simp only [List.getElem?_cons_zero, Option.some.injEq] at h1 h2
  subst h1; subst h2
  exact ⟨rfl, rfl, seg_xrow (by simp)⟩
theorem blkSegs_view {Q : List (List Int)} {nb : List MBlk} {l : List Blk} (h : BlkSegs Q nb l) {f : MBlk → Option Blk} (hf : ∀ e, Dat.XOk Q e.2.2.1 → f e = some (e.1, e.2.1, Dat.xget Q e.2.2.1, ())) : Dat.mapO f nb = some l :=
 mapO_to h.1 fun i e x h1 h2 => by
  obtain ⟨a, b, c⟩ := h.2 i e x h1 h2
  rw [hf e (seg_ok c), seg_get c, a, b]
def RowD (R : List (List MBlk)) (m : MixE MBlk) (ds : List (MixE Int)) : Prop :=
 (m = .nil ∧ ds = []) ∨ ∃ nb : List MBlk, R = [nb] ∧ m = .ref 0 0 nb.length nb.length ∧ nb.map (fun e => e.2.2.1) = ds
theorem rowD_len {R : List (List MBlk)} {m : MixE MBlk} {ds : List (MixE Int)} (h : RowD R m ds) : Dat.xlen m = ds.length := by
 rcases h with ⟨rfl, rfl⟩ | ⟨nb, _, rfl, rfl⟩
 ·rfl
 ·simp [Dat.xlen]
theorem rowD_pt {R : List (List MBlk)} {m : MixE MBlk} {ds : List (MixE Int)} (h : RowD R m ds) {i : Nat} (hi : i < ds.length) : Dat.XPt R m (Dat.toN (i : Int)) := by
 rcases h with ⟨rfl, rfl⟩ | ⟨nb, rfl, rfl, rfl⟩
 ·simp at hi
 ·simp only [List.length_map] at hi
  simp [Dat.XPt, MixE.xpt, Dat.toN, hi]
theorem rowD_at {R : List (List MBlk)} {m : MixE MBlk} {ds : List (MixE Int)} (h : RowD R m ds) {i : Nat} (hi : i < ds.length) (z : MBlk) : ∃ e, Dat.xat R m (Dat.toN (i : Int)) z = e ∧ e.2.2.1 = ds[i] := by
 rcases h with ⟨rfl, rfl⟩ | ⟨nb, rfl, rfl, rfl⟩
 ·simp at hi
 ·have hi' : i < nb.length := by simpa using hi
  exact ⟨nb[i], by simp [Dat.xat, Dat.xk, Dat.xoff, Dat.toN, hi'], by simp⟩
theorem rowD_set {R : List (List MBlk)} {m : MixE MBlk} {ds : List (MixE Int)} (h : RowD R m ds) {i : Nat} (hi : i < ds.length) {e : MBlk} (he : e.2.2.1 = ds[i]) : RowD (Dat.xset R m (Dat.toN (i : Int)) e) m ds := by
 rcases h with ⟨rfl, rfl⟩ | ⟨nb, rfl, rfl, rfl⟩
 ·simp at hi
 ·have hi' : i < nb.length := by simpa using hi
  refine .inr ⟨nb.set i e, by simp [Dat.xset, Dat.xk, Dat.xoff, Dat.toN], by simp, ?_⟩
  rw [List.map_set, he]
  apply List.ext_getElem?
  intro j
  rw [List.getElem?_set]
  split
  ·rename_i hij
   subst hij
   rw [List.getElem?_eq_getElem hi]
  ·rfl
theorem blkSegs_at {Q : List (List Int)} {nb : List MBlk} {l : List Blk} (h : BlkSegs Q nb l) {i : Nat} (hi : i < l.length) {d : MixE Int} (hd : (nb.map fun e => e.2.2.1)[i]? = some d) : Seg Q d l[i].2.2.1 := by
 have hi2 : i < nb.length := by rw [h.1]; exact hi
 rw [List.getElem?_map, List.getElem?_eq_getElem hi2] at hd
 simp only [Option.map_some, Option.some.injEq] at hd
 subst hd
 exact (h.2 i _ _ (List.getElem?_eq_getElem hi2) (List.getElem?_eq_getElem hi)).2.2
end Go.Proofs.Ythhjkmefpmmleaa
