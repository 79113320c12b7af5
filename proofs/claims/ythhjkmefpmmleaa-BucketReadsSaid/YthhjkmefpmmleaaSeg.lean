/- Lists that stand in places of rows. -/
import Derived.Test.YthhjkmefpmmleaaStep2
namespace Go.Proofs.Ythhjkmefpmmleaa
open Go.Eng
set_option linter.unusedVariables false
set_option linter.unusedSimpArgs false
def Seg {α : Type} (Q : List (List α)) (e : MixE α) (d : List α) : Prop :=
 (d = [] ∧ (e = .data [] ∨ e = .nil)) ∨ ∃ k off, k < Q.length ∧ e = .ref k off d.length (Q.getD k []).length ∧ off + d.length ≤ (Q.getD k []).length ∧ ((Q.getD k []).drop off).take d.length = d
theorem seg_ok {α : Type} {Q : List (List α)} {e : MixE α} {d : List α} (h : Seg Q e d) : Dat.XOk Q e := by
 rcases h with ⟨_, rfl | rfl⟩ | ⟨k, off, h1, rfl, h2, _⟩
 ·rfl
 ·rfl
 ·show (decide (k < Q.length) && ((Q.getD k []).length == (Q.getD k []).length && decide (off + d.length ≤ (Q.getD k []).length))) = true
  rw [decide_eq_true h1, beq_self_eq_true, decide_eq_true h2]; rfl
theorem seg_get {α : Type} {Q : List (List α)} {e : MixE α} {d : List α} (h : Seg Q e d) : Dat.xget Q e = d := by
 rcases h with ⟨rfl, rfl | rfl⟩ | ⟨k, off, h1, rfl, h2, h3⟩
 ·rfl
 ·rfl
 ·exact h3
theorem seg_len {α : Type} {Q : List (List α)} {e : MixE α} {d : List α} (h : Seg Q e d) : Dat.xlen e = d.length := by
 rcases h with ⟨rfl, rfl | rfl⟩ | ⟨k, off, h1, rfl, h2, h3⟩ <;> rfl
def Shape {α : Type} (Q' Q : List (List α)) : Prop := Q'.length = Q.length ∧ ∀ k, (Q'.getD k []).length = (Q.getD k []).length
theorem shape_refl {α : Type} (Q : List (List α)) : Shape Q Q := ⟨rfl, fun _ => rfl⟩
theorem shape_set {α : Type} {Q' Q : List (List α)} (h : Shape Q' Q) (e : MixE α) (i : Nat) (x : α) : Shape (Dat.xset Q' e i x) Q := by
 refine ⟨by simp [Dat.xset, h.1], fun k => ?_⟩
 rw [← h.2 k]
 simp only [Dat.xset, List.getD, List.getElem?_set]
 split
 ·rename_i hk
  subst hk
  split
  ·simp [List.getD]
  ·rename_i hn
   rw [List.getElem?_eq_none (by omega)]
 ·rfl
theorem seg_pt {α : Type} {Q' Q : List (List α)} {e : MixE α} {d : List α} (h : Seg Q e d) (hs : Shape Q' Q) {i : Nat} (hi : i < d.length) : Dat.XPt Q' e i := by
 rcases h with ⟨rfl, _⟩ | ⟨k, off, h1, rfl, h2, h3⟩
 ·simp at hi
 ·have := hs.1
  have h4 := hs.2 k
  simp only [Dat.XPt, MixE.xpt, Bool.and_eq_true, decide_eq_true_eq, beq_iff_eq]
  exact ⟨by omega, h4.symm, by omega, hi⟩
theorem seg_w {α : Type} {Q : List (List α)} {e : MixE α} {d : List α} (h : Seg Q e d) (hd : d.length ≠ 0) : Dat.XW Q e := by
 rcases h with ⟨rfl, _⟩ | ⟨k, off, h1, rfl, h2, h3⟩
 ·simp at hd
 ·show (decide (k < Q.length) && ((Q.getD k []).length == (Q.getD k []).length && decide (off + d.length ≤ (Q.getD k []).length))) = true
  rw [decide_eq_true h1, beq_self_eq_true, decide_eq_true h2]; rfl
theorem seg_at {α : Type} {Q : List (List α)} {e : MixE α} {d : List α} (h : Seg Q e d) {i : Nat} (hi : i < d.length) (z : α) : Dat.xat Q e (Dat.toN (i : Int)) z = d[i] := by
 rcases h with ⟨rfl, _⟩ | ⟨k, off, h1, rfl, h2, h3⟩
 ·simp at hi
 ·have hgi : d[i]? = some d[i] := List.getElem?_eq_getElem hi
  have h4 : (((Q.getD k []).drop off).take d.length)[i]? = some d[i] := by rw [h3]; exact hgi
  rw [List.getElem?_take, if_pos hi, List.getElem?_drop] at h4
  show ((Q.getD k []).getD (off + ((i : Int)).toNat) z) = d[i]
  rw [Int.toNat_natCast, List.getD, h4]; rfl
theorem seg_ix {α : Type} {Q : List (List α)} {e : MixE α} {d : List α} (h : Seg Q e d) {i : Nat} (hi : i < d.length) : Dat.Ix (i : Int) (Dat.xlen e) := ⟨by omega, by rw [seg_len h]; omega⟩
def Segs {α : Type} (Q : List (List α)) (l : List (MixE α)) (ds : List (List α)) : Prop := l.length = ds.length ∧ ∀ (i : Nat) (e : MixE α) (d : List α), l[i]? = some e → ds[i]? = some d → Seg Q e d
theorem mapO_to {α β : Type} {f : α → Option β} : ∀ {l : List α} {r : List β}, l.length = r.length → (∀ (i : Nat) (e : α) (d : β), l[i]? = some e → r[i]? = some d → f e = some d) → Dat.mapO f l = some r
 | [], [], _, _ => rfl
 | [], _ :: _, h, _ => by simp at h
 | _ :: _, [], h, _ => by simp at h
 | e :: l, d :: r, h, hf => by
  have h0 := hf 0 e d rfl rfl
  have ih : l.mapM f = some r := mapO_to (l := l) (r := r) (by simpa using h) fun i e d h1 h2 => hf (i + 1) e d (by simpa using h1) (by simpa using h2)
  show (e :: l).mapM f = some (d :: r)
  rw [List.mapM_cons, h0, Option.bind_eq_bind, Option.bind_some, ih]; rfl
end Go.Proofs.Ythhjkmefpmmleaa
