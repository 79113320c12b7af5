/- Frames whose rows stand in places, and what they are. -/
import Derived.Test.YtablhcjjfiepaaaFrsixr
namespace Go.Proofs.Ytablhcjjfiepaaa
open Go.Eng
set_option linter.unusedVariables false
set_option linter.unusedSimpArgs false
def RepF (Q1 Q2 : List (List Int)) (e : MFr) (x : FrT) : Prop:=e.1=x.1∧e.2.1=x.2.1∧Seg Q1 e.2.2.1 x.2.2.1∧Seg Q2 e.2.2.2.1 x.2.2.2.1∧e.2.2.2.2.1=x.2.2.2.2.1∧e.2.2.2.2.2.1=x.2.2.2.2.2.1
def wWe (Q1 Q2 : List (List Int)) (M : List MFr) (l : List FrT) : Prop:=M.length=l.length∧∀ (i : Nat) (e : MFr) (x : FrT),M[i]?=some e→l[i]?=some x→RepF Q1 Q2 e x
theorem xYy {Q : List (List Int)} {k : Nat} {d : List Int} (h : Q[k]?=some d) : Seg Q (Dat.xrow k d) d:=by
 have hk:=(List.getElem?_eq_some_iff.1 h).1
 have hg : Q.getD k []=d:=by simp [List.getD,h]
 by_cases hd : d.length=0
 ·have : d = [] := List.length_eq_zero_iff.1 hd
  subst this
  exact .inl ⟨rfl, .inl rfl⟩
 ·refine .inr ⟨k, 0, hk, ?_, ?_, ?_⟩
  ·simp only [Dat.xrow,if_neg hd,hg]
  ·rw [hg]; omega
  ·rw [hg]; simp
theorem vZl {Q1 Q2 : List (List Int)} {j : Nat} {x : FrT} (h1 : Q1[j]?=some x.2.2.1) (h2 : Q2[j]?=some x.2.2.2.1) : RepF Q1 Q2 (wJl j x) x:=⟨rfl,rfl,xYy h1,xYy h2,rfl,rfl⟩
theorem wXi {Q1 Q2 : List (List Int)} {M : List MFr} {l : List FrT} (h : wWe Q1 Q2 M l) {f : MFr → Option FrT}
  (hf : ∀ e,Dat.XOk Q1 e.2.2.1→Dat.XOk Q2 e.2.2.2.1→f e=some (e.1,(e.2.1,((Dat.xget Q1 e.2.2.1),((Dat.xget Q2 e.2.2.2.1),(e.2.2.2.2.1,(e.2.2.2.2.2.1,e.2.2.2.2.2.2))))))) : Dat.mapO f M=some l:=by
 refine wW6 h.1 fun i h1 h2=>?_
 obtain ⟨a,b,c,d,e,g⟩:=h.2 i _ _ (List.getElem?_eq_getElem h1) (List.getElem?_eq_getElem h2)
 rw [hf _ (vKz c) (vKz d),wY9 c,wY9 d,a,b,e,g]
theorem wKr (l : List FrT) {j : Nat} (h : j < l.length) : (dF l)[j]?=some l[j].2.2.1:=row1n l h
theorem wZu (l : List FrT) {j : Nat} (h : j < l.length) : (pF l)[j]?=some l[j].2.2.2.1:=row2n l h
def RowF (R : List (List MFr)) (m : MixE MFr) (ds : List (MixE Int×MixE Int)) : Prop :=
 (m=.nil∧ds=[])∨∃ nb : List MFr,R=[nb]∧m=.ref 0 0 nb.length nb.length∧nb.map (fun e=>(e.2.2.1,e.2.2.2.1))=ds
structure SpoilF (X : AnsR) (A : AnsF) (ds : List (MixE Int × MixE Int)) : Prop where
 err : X.2.2=A.2
 hand : X.2.1.2.1=A.1.2.1
 row : RowF X.1.2.2 X.2.1.1 ds
 len : ds.length=A.1.1.length
 ok : Dat.XOk X.1.2.2 X.2.1.1
 get : wWe X.1.1 X.1.2.1 (Dat.xget X.1.2.2 X.2.1.1) A.1.1
 at_ : ∀ i (h : i < ds.length) (h' : i < A.1.1.length),Seg X.1.1 ds[i].1 A.1.1[i].2.2.1∧Seg X.1.2.1 ds[i].2 A.1.1[i].2.2.2.1
end Go.Proofs.Ytablhcjjfiepaaa
