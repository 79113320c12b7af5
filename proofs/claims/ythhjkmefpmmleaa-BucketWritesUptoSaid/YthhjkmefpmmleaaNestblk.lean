/- Blocks whose data stand in a place of rows. -/
import Derived.Test.YthhjkmefpmmleaaFns
import Derived.Test.YthhjkmefpmmleaaM6
import Derived.Test.YthhjkmefpmmleaaStep2
import Derived.Test.YthhjkmefpmmleaaMix
namespace Go.Proofs.Ythhjkmefpmmleaa
open Go.Eng
set_option linter.unusedVariables false
set_option linter.unusedSimpArgs false
abbrev MBlk := Int × (Int × (MixE Int × Unit))
def nestB : Nat → List (Int × (Int × (List Int × Unit))) → List MBlk
 | _, [] => []
 | k, x :: l => (x.1, x.2.1, Dat.xrow k x.2.2.1, ()) :: nestB (k + 1) l
theorem nestB_len : ∀ (k : Nat) (l : List (Int × (Int × (List Int × Unit)))), (nestB k l).length = l.length
 | _, [] => rfl
 | k, x :: l => by simp [nestB, nestB_len (k + 1) l]
theorem nestB_app (x : Int × (Int × (List Int × Unit))) : ∀ (k : Nat) (l : List (Int × (Int × (List Int × Unit)))), nestB k (l ++ [x]) = nestB k l ++ [(x.1, x.2.1, Dat.xrow (k + l.length) x.2.2.1, ())]
 | k, [] => rfl
 | k, y :: l => by
  simp only [List.cons_append, nestB, nestB_app x (k + 1) l, List.length_cons]
  rw [show k + 1 + l.length = k + (l.length + 1) by omega]
theorem nestB_get : ∀ (k : Nat) (l : List (Int × (Int × (List Int × Unit)))) (i : Nat) (h : i < l.length), (nestB k l)[i]? = some (l[i].1, l[i].2.1, Dat.xrow (k + i) l[i].2.2.1, ())
 | k, x :: l, 0, h => rfl
 | k, x :: l, i + 1, h => by
  simp only [nestB, List.getElem?_cons_succ, List.getElem_cons_succ]
  rw [nestB_get (k + 1) l i (by simpa using h), show k + 1 + i = k + (i + 1) by omega]
theorem xrow_ok {α : Type} {Q : List (List α)} {k : Nat} {d : List α} (h : Q[k]? = some d) : Dat.XOk Q (Dat.xrow k d) ∧ Dat.xget Q (Dat.xrow k d) = d ∧ Dat.xlen (Dat.xrow k d) = d.length := by
 have hk := (List.getElem?_eq_some_iff.1 h).1
 have hg : Q.getD k [] = d := by simp [List.getD, h]
 by_cases hd : d.length = 0
 ·have : d = [] := List.length_eq_zero_iff.1 hd
  subst this
  simp [Dat.xrow, Dat.XOk, MixE.xok, Dat.xget, Dat.xlen]
 ·refine ⟨?_, ?_, ?_⟩
  ·simp only [Dat.XOk, Dat.xrow, if_neg hd, MixE.xok, Bool.and_eq_true, decide_eq_true_eq, beq_iff_eq]
   refine ⟨hk, ?_, ?_⟩ <;> first | (rw [hg]; done) | (rw [hg]; omega) | omega
  ·simp only [Dat.xrow, if_neg hd, Dat.xget, hg, List.drop_zero, List.take_length]
  ·simp only [Dat.xrow, if_neg hd, Dat.xlen]
theorem nestB_view {Q : List (List Int)} {f : MBlk → Option (Int × (Int × (List Int × Unit)))} (hf : ∀ e, Dat.XOk Q e.2.2.1 → f e = some (e.1, e.2.1, Dat.xget Q e.2.2.1, ())) :
  ∀ (k : Nat) (l : List (Int × (Int × (List Int × Unit)))), (∀ i (h : i < l.length), Q[k + i]? = some l[i].2.2.1) → Dat.mapO f (nestB k l) = some l
 | _, [], _ => rfl
 | k, x :: l, h => by
  have h0 := h 0 (by simp)
  obtain ⟨h1, h2, _⟩ := xrow_ok h0
  have ih := nestB_view hf (k + 1) l fun i hi => by rw [show k + 1 + i = k + (i + 1) by omega]; exact h (i + 1) (by simpa using hi)
  show (nestB k (x :: l)).mapM f = some (x :: l)
  have ih' : (nestB (k + 1) l).mapM f = some l := ih
  simp only [nestB, List.mapM_cons]
  rw [hf _ h1]
  simp only [Option.bind_eq_bind, Option.bind_some, ih', Option.pure_def]
  congr 2
  simp only [List.getElem_cons_zero, Nat.add_zero] at h2
  rw [h2]
end Go.Proofs.Ythhjkmefpmmleaa
