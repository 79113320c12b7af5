/- Lists that stand in places of rows. -/
import Derived.Test.YtablhcjjfiepaaaStep2
namespace Go.Proofs.Ytablhcjjfiepaaa
open Go.Eng
set_option linter.unusedVariables false
set_option linter.unusedSimpArgs false
def Seg {α : Type} (Q : List (List α)) (e : MixE α) (d : List α) : Prop :=
 (d=[]∧(e=.data []∨e=.nil))∨∃ k off,k < Q.length∧e=.ref k off d.length (Q.getD k []).length∧off+d.length≤(Q.getD k []).length∧((Q.getD k []).drop off).take d.length=d
theorem vKz {α : Type} {Q : List (List α)} {e : MixE α} {d : List α} (h : Seg Q e d) : Dat.XOk Q e:=by
 rcases h with ⟨_,rfl | rfl⟩ | ⟨k,off,h1,rfl,h2,_⟩
 ·rfl
 ·rfl
 ·show (decide (k < Q.length) && ((Q.getD k []).length == (Q.getD k []).length && decide (off + d.length ≤ (Q.getD k []).length))) = true
  rw [decide_eq_true h1,beq_self_eq_true,decide_eq_true h2]; rfl
theorem wY9 {α : Type} {Q : List (List α)} {e : MixE α} {d : List α} (h : Seg Q e d) : Dat.xget Q e=d:=by
 rcases h with ⟨rfl,rfl | rfl⟩ | ⟨k,off,h1,rfl,h2,h3⟩
 ·rfl
 ·rfl
 ·exact h3
theorem wWu {α : Type} {Q : List (List α)} {e : MixE α} {d : List α} (h : Seg Q e d) : Dat.xlen e=d.length:=by
 rcases h with ⟨rfl,rfl | rfl⟩ | ⟨k,off,h1,rfl,h2,h3⟩<;>rfl
def Shape {α : Type} (Q' Q : List (List α)) : Prop:=Q'.length=Q.length∧∀ k,(Q'.getD k []).length=(Q.getD k []).length
theorem xZm {α : Type} (Q : List (List α)) : Shape Q Q:=⟨rfl,fun _=>rfl⟩
theorem xYx {α : Type} {Q' Q : List (List α)} (h : Shape Q' Q) (e : MixE α) (i : Nat) (x : α) : Shape (Dat.xset Q' e i x) Q:=by
 refine ⟨by simp [Dat.xset,h.1],fun k=>?_⟩
 rw [← h.2 k]
 simp only [Dat.xset,List.getD,List.getElem?_set]
 split
 ·rename_i hk
  subst hk
  split
  ·simp [List.getD]
  ·rename_i hn
   rw [List.getElem?_eq_none (by omega)]
 ·rfl
theorem vKy {α : Type} {Q' Q : List (List α)} {e : MixE α} {d : List α} (h : Seg Q e d) (hs : Shape Q' Q) {i : Nat} (hi : i < d.length) : Dat.XPt Q' e i:=by
 rcases h with ⟨rfl,_⟩ | ⟨k,off,h1,rfl,h2,h3⟩
 ·simp at hi
 ·have := hs.1
  have h4:=hs.2 k
  simp only [Dat.XPt,MixE.xpt,Bool.and_eq_true,decide_eq_true_eq,beq_iff_eq]
  exact ⟨by omega,h4.symm,by omega,hi⟩
theorem vK0 {α : Type} {Q : List (List α)} {e : MixE α} {d : List α} (h : Seg Q e d) {i : Nat} (hi : i < d.length) : Dat.Ix (i : Int) (Dat.xlen e):=⟨by omega,by rw [wWu h]; omega⟩
end Go.Proofs.Ytablhcjjfiepaaa
