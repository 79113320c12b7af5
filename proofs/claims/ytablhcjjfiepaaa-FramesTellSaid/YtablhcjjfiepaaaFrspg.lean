/- Answers written over, whatever function gave them. -/
import Derived.Test.YtablhcjjfiepaaaFrspoil
import Derived.Test.YtablhcjjfiepaaaFrnew
namespace Go.Proofs.Ytablhcjjfiepaaa
open Go.Eng
set_option linter.unusedVariables false
set_option linter.unusedSimpArgs false
abbrev AnsQ:=((List (List Int))×((List (List Int))×(List (List MFr))))×((MixE MFr)×(Int×Unit))
def RowG (R : List (List MFr)) (m : MixE MFr) (ds : List (MixE Int×MixE Int)) : Prop :=
 (Dat.xlen m=0∧ds=[])∨∃ (k : Nat) (nb : List MFr),R[k]?=some nb∧m=.ref k 0 nb.length nb.length∧nb.map (fun e=>(e.2.2.1,e.2.2.2.1))=ds
theorem vZj {R : List (List MFr)} {m : MixE MFr} {ds : List (MixE Int×MixE Int)} (h : RowG R m ds) : Dat.xlen m=ds.length:=by
 rcases h with ⟨h0,rfl⟩ | ⟨k,nb,_,rfl,rfl⟩
 ·rw [h0]; rfl
 ·simp [Dat.xlen]
theorem vQb {R : List (List MFr)} {m : MixE MFr} {ds : List (MixE Int×MixE Int)} (h : RowG R m ds) {i : Nat} (hi : i < ds.length) : Dat.XPt R m (Dat.toN (i : Int)):=by
 rcases h with ⟨h0,rfl⟩ | ⟨k,nb,hR,rfl,rfl⟩
 ·simp at hi
 ·simp only [List.length_map] at hi
  exact wWf (k:=k) hR rfl (by simp only [Dat.toN]; omega)
theorem vQd {R : List (List MFr)} {m : MixE MFr} {ds : List (MixE Int×MixE Int)} (h : RowG R m ds) {i : Nat} (hi : i < ds.length) (z : MFr) : ∃ e,Dat.xat R m (Dat.toN (i : Int)) z=e∧(e.2.2.1,e.2.2.2.1)=ds[i]:=by
 rcases h with ⟨h0,rfl⟩ | ⟨k,nb,hR,rfl,rfl⟩
 ·simp at hi
 ·have hi' : i < nb.length := by simpa using hi
  exact ⟨nb[i],wJ7 (k:=k) (n:=nb.length) hR hi' z,by simp⟩
theorem vZi {R : List (List MFr)} {m : MixE MFr} {ds : List (MixE Int×MixE Int)} (h : RowG R m ds) {i : Nat} (hi : i < ds.length) {e : MFr} (he : (e.2.2.1,e.2.2.2.1)=ds[i]) : RowG (Dat.xset R m (Dat.toN (i : Int)) e) m ds:=by
 rcases h with ⟨h0,rfl⟩ | ⟨k,nb,hR,rfl,rfl⟩
 ·simp at hi
 ·have hi' : i < nb.length := by simpa using hi
  have hk:=(List.getElem?_eq_some_iff.1 hR).1
  have hg : R.getD k []=nb:=by simp [List.getD,hR]
  refine .inr ⟨k,nb.set i e, ?_,by simp, ?_⟩
  ·show (R.set k ((R.getD k []).set (0 + ((i : Int)).toNat) e))[k]? = some (nb.set i e)
   rw [hg,List.getElem?_set_self hk]
   simp
  ·rw [List.map_set, he]
   apply List.ext_getElem?
   intro j
   rw [List.getElem?_set]
   split
   ·rename_i hij
    subst hij
    rw [List.getElem?_eq_getElem hi]
   ·rfl
structure SpG (Q1 Q2 : List (List Int)) (R : List (List MFr)) (m : MixE MFr) (L : List FrT) (ds : List (MixE Int × MixE Int)) : Prop where
 row : RowG R m ds
 len : ds.length=L.length
 ok : Dat.XOk R m
 get : wWe Q1 Q2 (Dat.xget R m) L
 at_ : ∀ i (h : i < ds.length) (h' : i < L.length),Seg Q1 ds[i].1 L[i].2.2.1∧Seg Q2 ds[i].2 L[i].2.2.2.1
theorem vJz : SpG [] [] [] .nil [] []:=⟨.inl ⟨rfl,rfl⟩,rfl,rfl,⟨rfl,fun i e x h=>by simp at h⟩,fun i h=>absurd h (Nat.not_lt_zero _)⟩
theorem vZe : SpG [] [] [] (Dat.zJb ([] : List MFr)) [] []:=⟨.inl ⟨rfl,rfl⟩,rfl,rfl,⟨rfl,fun i e x h=>by simp at h⟩,fun i h=>absurd h (Nat.not_lt_zero _)⟩
theorem wY4 {Q1 Q2 : List (List Int)} {R : List (List MFr)} {k : Nat} {M : List MFr} {L : List FrT} {n : Nat} (hR : R[k]?=some M) (hn : M.length=n) (hs : wWe Q1 Q2 M L) : SpG Q1 Q2 R (Dat.xnew k n) L (M.map fun e=>(e.2.2.1,e.2.2.2.1)):=by
 subst hn
 obtain ⟨a,b⟩:=wJ6 hR rfl
 refine ⟨.inr ⟨k,M,hR,rfl,rfl⟩,by simp [hs.1],a,by rw [b]; exact hs,fun i h1 h2=>?_⟩
 have hM : i < M.length:=by simpa using h1
 obtain ⟨_,_,a,b,_,_⟩:=hs.2 i _ _ (List.getElem?_eq_getElem hM) (List.getElem?_eq_getElem h2)
 simp only [List.getElem_map]
 exact ⟨a,b⟩
theorem wZp {Q1 Q2 : List (List Int)} {n : Nat} {L : List FrT} (hn : L.length=n) (h1 : dF L=Q1) (h2 : pF L=Q2) : wWe Q1 Q2 (mixF n L) L:=by
 subst hn; subst h1; subst h2
 refine ⟨zW2 _ _,fun i e x q1 q2=>?_⟩
 have hi:=(List.getElem?_eq_some_iff.1 q2).1
 rw [List.getElem?_eq_getElem (by rw [zW2]; exact hi)] at q1
 rw [List.getElem?_eq_getElem hi] at q2
 simp only [Option.some.injEq] at q1 q2
 subst q1; subst q2
 rw [zJj,if_pos hi]
 exact vZl (wKr L hi) (wZu L hi)
theorem vJo {l : List FrT} {A : (List FrT×(Int×Unit))×(Int×Int)} {X : AnsV} (h : VicP l A X) : (∃ ds,SpG X.1.1 X.1.2.1 X.1.2.2 X.2.1.1 A.1.1 ds)∧X.2.1.2.1=A.1.2.1∧X.2.2=A.2:=by
 rcases h with ⟨e,rfl,rfl⟩ | ⟨R,k,rfl,hR,hL,h1,h2⟩
 ·exact ⟨⟨[],vJz⟩,rfl,rfl⟩
 ·exact ⟨⟨_,wY4 hR (by rw [zW2,hL]) (wZp hL h1 h2)⟩,rfl,rfl⟩
theorem vZb (l : List FrT) : ∃ ds,SpG (dF l) (pF l) [mixF l.length l] (Dat.xnew 0 l.length) l ds:=⟨_,wY4 (M:=mixF l.length l) rfl (zW2 _ _) (wZp rfl rfl rfl)⟩
theorem vZc (l : List FrT) (h : Int) (hs : zW0 l) : ∃ (X : AnsQ) (ds : List (MixE Int×MixE Int)),zXz (l,(h,()))=some X∧SpG X.1.1 X.1.2.1 X.1.2.2 X.2.1 l ds∧X.2.2.1=h:=by
 cases l with
 | nil=>exact ⟨_,[],vJt h,vZe,rfl⟩
 | cons x l =>
  obtain ⟨ds,hd⟩:=vZb (x::l)
  exact ⟨_,ds,yKi (x::l) h hs (Nat.succ_pos _),hd,rfl⟩
theorem wY1 {β : Type} {Qd Qp : List (List Int)} {R : List (List MFr)} {m : MixE MFr} {L : List FrT} {ds : List (MixE Int × MixE Int)} (hS : SpG Qd Qp R m L ds) (hA : zW0 L) {r : β} {fin : SpS → Option β} (hfin : ∀ s, fin s = some r) :
  Dat.loop (spB m fin) (0,(Qp,(Qd,R)))=some r:=by
 obtain ⟨hrow,hlen,_,_,hat⟩:=hS
 have hl20:=hA.1
 refine zQ2 (fun (s : SpS)=>∃ i : Nat,s.1=(i : Int)∧i≤ds.length∧Shape s.2.1 Qp∧Shape s.2.2.1 Qd∧RowG s.2.2.2 m ds) (fun s=>ds.length - s.1.toNat) ?_ ⟨0,rfl,Nat.zero_le _,xZm _,xZm _,hrow⟩ (zK1 _ _ (by omega))
 rintro ⟨s1,s2,s3,s4⟩ k ⟨i,rfl,hi,hp,hd,hr⟩ hk
 dsimp only at hp hd hr
 unfold spB
 dsimp only
 rw [vZj hrow]
 by_cases hlt : i < ds.length
 ·have hix : Dat.Ix (i : Int) ds.length := ⟨by omega, by omega⟩
  have hpt:=vQb hr hlt
  obtain ⟨b,hbat,hed⟩:=vQd hr hlt (0,(0,((MixE.nil : MixE Int),((MixE.nil : MixE Int),(false,(false,()))))))
  have hr2:=vZi hr hlt (e:=(b.1,((-7),(b.2.2.1,(b.2.2.2.1,(b.2.2.2.2.1,(b.2.2.2.2.2.1,()))))))) hed
  have hpt2:=vQb hr2 hlt
  obtain ⟨b',hbat2,hed2⟩:=vQd hr2 hlt (0,(0,((MixE.nil : MixE Int),((MixE.nil : MixE Int),(false,(false,()))))))
  refine zQi (decide_eq_true (by simp only [Dat.ofN]; omega)) ?_
  refine zQb hix (zQb hpt (zQb hpt (zQb hpt ?_)))
  refine zQe hbat ?_
  refine zQe rfl ?_
  generalize Dat.xset s4 m (Dat.toN (i : Int)) (b.1,((-7),(b.2.2.1,(b.2.2.2.1,(b.2.2.2.2.1,(b.2.2.2.2.2.1,()))))))=s5 at *
  have hla : i < L.length:=by omega
  obtain ⟨hsd,hsp⟩:=hat i hlt hla
  have hsm:=hA.2 _ (List.getElem_mem hla)
  rw [← hed2] at hsd hsp
  generalize L[i].2.2.1=dd at *
  generalize L[i].2.2.2.1=pp at *
  dsimp only at hsd hsp
  have hel:=wWu hsd
  have hep:=wWu hsp
  have hk' : ∀ P' D',Shape P' Qp→Shape D' Qd→k (((i+1 : Nat) : Int),(P',(D',s5)))=some r:=fun P' D' h1 h2=>hk _ ⟨i+1,rfl,hlt,h1,h2,hr2⟩ (by show ds.length - (((i+1 : Nat) : Int)).toNat < ds.length - ((i : Int)).toNat; omega)
  refine zQ2 (fun (s : Int×List (List Int))=>∃ q : Nat,s.1=(q : Int)∧q≤dd.length∧Shape s.2 Qd) (fun s=>dd.length - s.1.toNat) ?_ ⟨0,rfl,Nat.zero_le _,hd⟩ (zK1 _ _ (by omega))
  rintro ⟨u1,u2⟩ k2 ⟨q,rfl,hq,hsh2⟩ hk2
  dsimp only at hsh2 ⊢
  refine zQb hix (zQb hpt2 (zQb hpt2 (zQb hpt2 (zQe hbat2 ?_))))
  by_cases hql : q < dd.length
  ·have hp2 : Dat.XPt u2 b'.2.2.1 (Dat.toN (q : Int)) := vKy hsd hsh2 hql
   have hx2:=vK0 hsd hql
   refine zQi (decide_eq_true (by simp only [Dat.ofN,hel]; omega)) ?_
   refine zQb hix (zQb hpt2 (zQb hpt2 (zQb hpt2 (zQe hbat2 ?_))))
   refine zQb hix (zQb hpt2 (zQb hpt2 (zQb hpt2 (zQe hbat2 ?_))))
   refine zQb hx2 (zQb hp2 (zQb hp2 (zQe rfl (zQe rfl ?_))))
   refine zQb hx2 (zQb hp2 (zQb hp2 (zQe rfl ?_)))
   refine zQe (y:=((q+1 : Nat) : Int)) (Dat.zJf (by omega)) ?_
   exact hk2 _ ⟨q+1,rfl,hql,xYx hsh2 _ _ _⟩ (by show dd.length - (((q+1 : Nat) : Int)).toNat < dd.length - ((q : Int)).toNat; omega)
  ·refine zQh (decide_eq_false (by simp only [Dat.ofN, hel]; omega)) ?_
   refine zQ2 (fun (s : Int×List (List Int))=>∃ q : Nat,s.1=(q : Int)∧q≤pp.length∧Shape s.2 Qp) (fun s=>pp.length - s.1.toNat) ?_ ⟨0,rfl,Nat.zero_le _,hp⟩ (zK1 _ _ (by omega))
   rintro ⟨v1,v2⟩ k3 ⟨q,rfl,hq,hsh3⟩ hk3
   dsimp only at hsh3 ⊢
   refine zQb hix (zQb hpt2 (zQb hpt2 (zQb hpt2 (zQe hbat2 ?_))))
   by_cases hql3 : q < pp.length
   ·have hp2 : Dat.XPt v2 b'.2.2.2.1 (Dat.toN (q : Int)) := vKy hsp hsh3 hql3
    have hx2:=vK0 hsp hql3
    refine zQi (decide_eq_true (by simp only [Dat.ofN,hep]; omega)) ?_
    refine zQb hix (zQb hpt2 (zQb hpt2 (zQb hpt2 (zQe hbat2 ?_))))
    refine zQb hx2 (zQb hp2 (zQb hp2 (zQe rfl ?_)))
    refine zQe (y:=((q+1 : Nat) : Int)) (Dat.zJf (by omega)) ?_
    exact hk3 _ ⟨q+1,rfl,hql3,xYx hsh3 _ _ _⟩ (by show pp.length - (((q+1 : Nat) : Int)).toNat < pp.length - ((q : Int)).toNat; omega)
   ·refine zQh (decide_eq_false (by simp only [Dat.ofN, hep]; omega)) ?_
    refine zQe (y:=((i+1 : Nat) : Int)) (Dat.zJf (by omega)) ?_
    exact hk' _ _ hsh3 hsh2
 ·refine zQh (decide_eq_false (by simp only [Dat.ofN]; omega)) ?_
  exact hfin _
theorem vK1 {β : Type} {Q1 Q2 : List (List Int)} {R : List (List MFr)} {m : MixE MFr} {L : List FrT} {ds : List (MixE Int × MixE Int)} (hS : SpG Q1 Q2 R m L ds) (hA : zW0 L) {h : Int} {r : β} {K : Bool → Option β} {f : MFr → Option FrT}
  (hf : ∀ e,Dat.XOk Q1 e.2.2.1→Dat.XOk Q2 e.2.2.2.1→f e=some (e.1,(e.2.1,((Dat.xget Q1 e.2.2.1),((Dat.xget Q2 e.2.2.2.1),(e.2.2.2.2.1,(e.2.2.2.2.2.1,e.2.2.2.2.2.2))))))) (hk : K true=some r) :
  (if Dat.XOk R m then Dat.bind (Dat.mapO f (Dat.xget R m)) fun x=>Dat.bind (zXc ((x,(h,())),(L,(h,())))) K else none)=some r:=by
 refine zQb hS.ok ?_
 refine zQp (wXi hS.get hf) ?_
 exact zQp (yQ4 _ _ hA) hk
theorem wYe {c : CfgT} {l : List FrT} {h : Int} (hs : zW0 l) (hc : chkF c l h=0) : zW0 (vicS l h).1.1:=by
 obtain ⟨X,_,hv⟩:=zK7 c l h hs
 rw [if_pos hc] at hv
 rcases hv with ⟨e,_,he⟩ | ⟨R,k,_,_,hL,h1,h2⟩
 ·rw [he]; exact ⟨by simp,fun x hx=>by simp at hx⟩
 ·refine ⟨by rw [hL]; exact hs.1, fun x hx => ?_⟩
  obtain ⟨j,hj,rfl⟩:=List.getElem_of_mem hx
  have q1:=wKr _ hj
  have q2:=wZu _ hj
  rw [h1] at q1; rw [h2] at q2
  have hj' : j < l.length:=by rw [← hL]; exact hj
  rw [wKr l hj'] at q1; rw [wZu l hj'] at q2
  simp only [Option.some.injEq] at q1 q2
  have:=hs.2 _ (List.getElem_mem hj')
  rw [q1,q2] at this
  exact this
end Go.Proofs.Ytablhcjjfiepaaa
