/- Frames whose rows stand in places, and what they are. -/
import Derived.Test.YtablhcjjfiepaaaFrsixr
namespace Go.Proofs.Ytablhcjjfiepaaa
open Go.Eng
set_option linter.unusedVariables false
set_option linter.unusedSimpArgs false
def RepF (Q1 Q2 : List (List Int)) (e : MFr) (x : FrT) : Prop:=e.1=x.1∧e.2.1=x.2.1∧Seg Q1 e.2.2.1 x.2.2.1∧Seg Q2 e.2.2.2.1 x.2.2.2.1∧e.2.2.2.2.1=x.2.2.2.2.1∧e.2.2.2.2.2.1=x.2.2.2.2.2.1
def wW1 (Q1 Q2 : List (List Int)) (M : List MFr) (l : List FrT) : Prop:=M.length=l.length∧∀ (i : Nat) (e : MFr) (x : FrT),M[i]?=some e→l[i]?=some x→RepF Q1 Q2 e x
def RepR (X : AnsR) (A : AnsF) : Prop:=(∃ e,X=badR e∧A=badF e)∨(∃ h Q1 Q2 M l,X=okR h Q1 Q2 M∧A=((l,(h,())),0)∧wW1 Q1 Q2 M l)
theorem zZz {Q : List (List Int)} {k : Nat} {d : List Int} (h : Q[k]?=some d) : Seg Q (Dat.xrow k d) d:=by
 have hk:=(List.getElem?_eq_some_iff.1 h).1
 have hg : Q.getD k []=d:=by simp [List.getD,h]
 by_cases hd : d.length=0
 ·have : d = [] := List.length_eq_zero_iff.1 hd
  subst this
  exact .inl ⟨rfl, .inl rfl⟩
 ·refine .inr ⟨k, 0, hk, ?_, ?_, ?_⟩
  ·simp only [Dat.xrow,if_neg hd,hg]
  ·rw [hg]; omega
  ·rw [hg]; simp
theorem uQx {Q : List (List Int)} {k n : Nat} {d : List Int} (h : Q[k]?=some d) (hn : n=d.length) : Seg Q (.ref k 0 n n) d:=by
 have hk:=(List.getElem?_eq_some_iff.1 h).1
 have hg : Q.getD k []=d:=by simp [List.getD,h]
 refine .inr ⟨k,0,hk, ?_, ?_, ?_⟩
 ·rw [hg,hn]
 ·rw [hg]; omega
 ·rw [hg]; simp
theorem vKy {Q1 Q2 : List (List Int)} {j : Nat} {x : FrT} (h1 : Q1[j]?=some x.2.2.1) (h2 : Q2[j]?=some x.2.2.2.1) : RepF Q1 Q2 (zYf j x) x:=⟨rfl,rfl,zZz h1,zZz h2,rfl,rfl⟩
theorem wY1 {l : List FrT} {Q1 Q2 : List (List Int)} {a : Nat} (ha : a < l.length) {e : MFr} {y : FrT} (h1 : ∀ j (h : j < l.length), j ≠ a → Q1[j]? = some l[j].2.2.1) (h2 : ∀ j (h : j < l.length), j ≠ a → Q2[j]? = some l[j].2.2.2.1)
  (he : RepF Q1 Q2 e y) : wW1 Q1 Q2 ((mixF l.length l).set a e) (l.set a y):=by
 refine ⟨by simp [zQs],fun i e' x' q1 q2=>?_⟩
 have hi : i < l.length:=by have:=(List.getElem?_eq_some_iff.1 q2).1; simpa using this
 by_cases hia : a=i
 ·subst hia
  rw [List.getElem?_set_self (by rw [zQs]; exact ha)] at q1
  rw [List.getElem?_set_self ha] at q2
  simp only [Option.some.injEq] at q1 q2
  subst q1; subst q2
  exact he
 ·rw [List.getElem?_set_ne hia] at q1 q2
  rw [List.getElem?_eq_getElem (by rw [zQs]; exact hi)] at q1
  rw [List.getElem?_eq_getElem hi] at q2
  simp only [Option.some.injEq] at q1 q2
  subst q1; subst q2
  rw [yQq,if_pos hi]
  exact vKy (h1 i hi (Ne.symm hia)) (h2 i hi (Ne.symm hia))
theorem wZj {Q1 Q2 : List (List Int)} {M : List MFr} {l : List FrT} (h : wW1 Q1 Q2 M l) {f : MFr → Option FrT}
  (hf : ∀ e,Dat.XOk Q1 e.2.2.1→Dat.XOk Q2 e.2.2.2.1→f e=some (e.1,(e.2.1,((Dat.xget Q1 e.2.2.1),((Dat.xget Q2 e.2.2.2.1),(e.2.2.2.2.1,(e.2.2.2.2.2.1,e.2.2.2.2.2.2))))))) : Dat.mapO f M=some l:=by
 refine wX7 h.1 fun i h1 h2=>?_
 obtain ⟨a,b,c,d,e,g⟩:=h.2 i _ _ (List.getElem?_eq_getElem h1) (List.getElem?_eq_getElem h2)
 rw [hf _ (vYb c) (vYb d),vWf c,vWf d,a,b,e,g]
theorem yJs {c : CfgT} {l : List FrT} {h : Int} {X : AnsR} {A : AnsF} (hb : RepR X A) : RepR (ansR c l h X) (ansF c l h A):=by
 unfold ansR ansF
 split
 ·exact hb
 ·exact .inl ⟨_,rfl,rfl⟩
theorem yWm (e : Int) : RepR (badR e) (badF e):=.inl ⟨e,rfl,rfl⟩
theorem xWh {l : List FrT} {h : Int} {a : Nat} {Q1 Q2 : List (List Int)} {e : MFr} {y : FrT} (ha : a < l.length) (h1 : ∀ j (h : j < l.length), j ≠ a → Q1[j]? = some l[j].2.2.1) (h2 : ∀ j (h : j < l.length), j ≠ a → Q2[j]? = some l[j].2.2.2.1)
  (he : RepF Q1 Q2 e y) : RepR (okR h Q1 Q2 ((mixF l.length l).set a e)) (setF l h a y):=.inr ⟨h,Q1,Q2,_,_,rfl,rfl,wY1 ha h1 h2 he⟩
theorem wWk (l : List FrT) {j : Nat} (h : j < l.length) : (dF l)[j]?=some l[j].2.2.1:=row1n l h
theorem xW3 (l : List FrT) {j : Nat} (h : j < l.length) : (pF l)[j]?=some l[j].2.2.2.1:=row2n l h
theorem vKw (c : CfgT) (l : List FrT) (h a pg cl : Int) : RepR (vJe c l h a pg cl) (vXk c l h a pg cl):=by
 refine yJs ?_
 split
 ·rename_i hm
  obtain ⟨n,rfl,hn⟩ : ∃ n : Nat,a=n∧n < l.length:=⟨a.toNat,by have:=hm.1.1; omega,by have:=hm.1.1; have:=hm.1.2; omega⟩
  refine xWh hn (fun j hj _=>wWk l hj) (fun j hj _=>row2 l hj _) ⟨rfl,rfl, .inl ⟨rfl, .inr rfl⟩, ?_,rfl,rfl⟩
  exact uQx (by simp [pF,zJc]) (by simp [zJc])
 ·exact yWm 2
theorem vKx (c : CfgT) (l : List FrT) (h a : Int) (d : List Int) : RepR (vJo c l h a d) (vZa c l h a d):=by
 refine yJs ?_
 split
 ·rename_i hm
  obtain ⟨n,rfl,hn⟩ : ∃ n : Nat,a=n∧n < l.length:=⟨a.toNat,by have:=hm.1.1; omega,by have:=hm.1.1; have:=hm.1.2; omega⟩
  refine xWh hn (fun j hj _=>row1 l hj _) (fun j hj _=>xW3 l hj) ⟨rfl,rfl,zZz (by simp [dF,vX9]), ?_,rfl,rfl⟩
  rw [zXo hn]; exact zZz (xW3 l hn)
 ·exact yWm 2
theorem vWk (c : CfgT) (l : List FrT) (h a : Int) (d : List Int) : RepR (wKb c l h a d) (xY3 c l h a d):=by
 refine yJs ?_
 split
 ·rename_i hm
  obtain ⟨n,rfl,hn⟩ : ∃ n : Nat,a=n∧n < l.length:=⟨a.toNat,by have:=hm.1.1; omega,by have:=hm.1.1; have:=hm.1.2; omega⟩
  refine xWh hn (fun j hj _=>row1 l hj _) (fun j hj _=>xW3 l hj) ⟨rfl,rfl,zZz (by simp [dF,xY2]), ?_,rfl,rfl⟩
  rw [zXo hn]; exact zZz (xW3 l hn)
 ·exact yWm 2
theorem vWm (c : CfgT) (l : List FrT) (h a : Int) : RepR (wJv c l h a) (wWr c l h a):=by
 refine yJs ?_
 split
 ·rename_i hm
  obtain ⟨n,rfl,hn⟩ : ∃ n : Nat,a=n∧n < l.length:=⟨a.toNat,by have:=hm.1.1; omega,by have:=hm.1.1; have:=hm.1.2; omega⟩
  refine xWh hn (fun j hj _=>wWk l hj) (fun j hj _=>xW3 l hj) ⟨rfl,rfl, ?_, ?_,rfl,rfl⟩
  ·rw [zXo hn]; exact zZz (wWk l hn)
  ·rw [zXo hn]; exact zZz (xW3 l hn)
 ·exact yWm 2
theorem vKh {k : Nat} {x y : List Int} (h : x.length=y.length) (hy : y.length≠0) : Dat.xrow k x=Dat.xrow k y:=by
 simp only [Dat.xrow,h]
 rw [if_neg hy,if_neg hy]
theorem wKs (l : List FrT) (h a cl n : Int) (r : Bool) (hp : plF l a) : RepR (wYo l h a cl n r) (setF l h a (yZc (elF l a) cl n r)):=by
 obtain ⟨k,rfl,hn⟩ : ∃ n : Nat,a=n∧n < l.length:=⟨a.toNat,by have:=hp.1; omega,by have:=hp.1; have:=hp.2; omega⟩
 rw [zXo hn]
 unfold wYo
 rw [zXo hn]
 refine xWh hn (fun j hj _=>wWk l hj) (fun j hj hja=>by rw [List.getElem?_set_ne (by simpa using Ne.symm hja)]; exact xW3 l hj) ⟨rfl,rfl,zZz (wWk l hn), ?_,rfl,rfl⟩
 have hs : ((pF l).set ((k : Int)).toNat (l[k].2.2.2.1.set cl.toNat n))[k]?=some (yZc l[k] cl n r).2.2.2.1:=by simp [pF,hn,yZc]
 have h0:=zZz hs
 by_cases hz : l[k].2.2.2.1.length=0
 ·have e : l[k].2.2.2.1 = [] := List.length_eq_zero_iff.1 hz
  have e2 : (yZc l[k] cl n r).2.2.2.1=[]:=by simp [yZc,e]
  rw [e2] at h0 ⊢
  simpa [e] using h0
 ·rw [vKh (y := l[k].2.2.2.1) (by simp [yZc]) hz] at h0
  exact h0
theorem uQ1 (c : CfgT) (l : List FrT) (h a cl : Int) : RepR (pinR c l h a cl) (pinA c l h a cl):=by
 refine yJs ?_
 split
 ·rename_i hm
  split
  ·exact yWm 260
  ·exact wKs _ _ _ _ _ _ hm.1
 ·exact yWm 2
theorem vWl (c : CfgT) (l : List FrT) (h a cl : Int) : RepR (wKj c l h a cl) (wQb c l h a cl):=by
 refine yJs ?_
 split
 ·rename_i hm
  split
  ·exact yWm 260
  ·exact wKs _ _ _ _ _ _ hm.1
 ·exact yWm 2
def RowF (R : List (List MFr)) (m : MixE MFr) (ds : List (MixE Int×MixE Int)) : Prop :=
 (m=.nil∧ds=[])∨∃ nb : List MFr,R=[nb]∧m=.ref 0 0 nb.length nb.length∧nb.map (fun e=>(e.2.2.1,e.2.2.2.1))=ds
theorem vKu {R : List (List MFr)} {m : MixE MFr} {ds : List (MixE Int×MixE Int)} (h : RowF R m ds) : Dat.xlen m=ds.length:=by
 rcases h with ⟨rfl,rfl⟩ | ⟨nb,_,rfl,rfl⟩
 ·rfl
 ·simp [Dat.xlen]
theorem vWh {R : List (List MFr)} {m : MixE MFr} {ds : List (MixE Int×MixE Int)} (h : RowF R m ds) {i : Nat} (hi : i < ds.length) : Dat.XPt R m (Dat.toN (i : Int)):=by
 rcases h with ⟨rfl,rfl⟩ | ⟨nb,rfl,rfl,rfl⟩
 ·simp at hi
 ·simp only [List.length_map] at hi
  simp [Dat.XPt,MixE.xpt,Dat.toN,hi]
theorem vWi {R : List (List MFr)} {m : MixE MFr} {ds : List (MixE Int×MixE Int)} (h : RowF R m ds) {i : Nat} (hi : i < ds.length) (z : MFr) : ∃ e,Dat.xat R m (Dat.toN (i : Int)) z=e∧(e.2.2.1,e.2.2.2.1)=ds[i]:=by
 rcases h with ⟨rfl,rfl⟩ | ⟨nb,rfl,rfl,rfl⟩
 ·simp at hi
 ·have hi' : i < nb.length := by simpa using hi
  exact ⟨nb[i],by simp [Dat.xat,Dat.xk,Dat.xoff,Dat.toN,hi'],by simp⟩
theorem vKt {R : List (List MFr)} {m : MixE MFr} {ds : List (MixE Int×MixE Int)} (h : RowF R m ds) {i : Nat} (hi : i < ds.length) {e : MFr} (he : (e.2.2.1,e.2.2.2.1)=ds[i]) : RowF (Dat.xset R m (Dat.toN (i : Int)) e) m ds:=by
 rcases h with ⟨rfl,rfl⟩ | ⟨nb,rfl,rfl,rfl⟩
 ·simp at hi
 ·have hi' : i < nb.length := by simpa using hi
  refine .inr ⟨nb.set i e,by simp [Dat.xset,Dat.xk,Dat.xoff,Dat.toN],by simp, ?_⟩
  rw [List.map_set,he]
  apply List.ext_getElem?
  intro j
  rw [List.getElem?_set]
  split
  ·rename_i hij
   subst hij
   rw [List.getElem?_eq_getElem hi]
  ·rfl
structure SpoilF (X : AnsR) (A : AnsF) (ds : List (MixE Int × MixE Int)) : Prop where
 err : X.2.2=A.2
 hand : X.2.1.2.1=A.1.2.1
 row : RowF X.1.2.2 X.2.1.1 ds
 len : ds.length=A.1.1.length
 ok : Dat.XOk X.1.2.2 X.2.1.1
 get : wW1 X.1.1 X.1.2.1 (Dat.xget X.1.2.2 X.2.1.1) A.1.1
 at_ : ∀ i (h : i < ds.length) (h' : i < A.1.1.length),Seg X.1.1 ds[i].1 A.1.1[i].2.2.1∧Seg X.1.2.1 ds[i].2 A.1.1[i].2.2.2.1
theorem yXp {X : AnsR} {A : AnsF} (h : RepR X A) : ∃ ds,SpoilF X A ds:=by
 rcases h with ⟨e,rfl,rfl⟩ | ⟨h,Q1,Q2,M,l,rfl,rfl,hs⟩
 ·exact ⟨[],rfl,rfl, .inl ⟨rfl,rfl⟩,rfl,rfl,⟨rfl,fun i e x h=>by simp [badR] at h⟩,fun i h=>absurd h (Nat.not_lt_zero _)⟩
 ·refine ⟨M.map fun e => (e.2.2.1, e.2.2.2.1), rfl, rfl, .inr ⟨M, rfl, rfl, rfl⟩, by simp [hs.1], by simp [okR, Dat.XOk, MixE.xok], ?_, fun i h1 h2 => ?_⟩
  ·have : Dat.xget [M] (Dat.xnew (α := MFr) 0 M.length) = M := by simp [Dat.xget]
   show wW1 Q1 Q2 (Dat.xget [M] (Dat.xnew (α:=MFr) 0 M.length)) l
   rw [this]; exact hs
  ·have hM : i < M.length := by simpa using h1
   obtain ⟨_,_,a,b,_,_⟩:=hs.2 i _ _ (List.getElem?_eq_getElem hM) (List.getElem?_eq_getElem h2)
   simp only [List.getElem_map]
   exact ⟨a,b⟩
end Go.Proofs.Ytablhcjjfiepaaa
