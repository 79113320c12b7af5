/- Harms whose answers' rows stand in places; the document's. -/
import Derived.Test.YtghnechjgchajaaHarmH
namespace Go.Proofs.Ytghnechjgchajaa
open Go.Eng
set_option linter.unusedVariables false
set_option linter.unusedSimpArgs false
noncomputable def ansR(b d':List Lev):(List Byt×(List (List (MixE Int))×List (List (MixE (MixE Int)))))×((MixE (MixE (MixE Int))×Unit)×Int):=((qD d',(p1D b b.length,[p2D b b.length])),((.ref 0 0 b.length b.length,()),0))
def badR(e:Int):(List Byt×(List (List (MixE Int))×List (List (MixE (MixE Int)))))×((MixE (MixE (MixE Int))×Unit)×Int):=(([],([],[])),((.nil,()),e))
noncomputable def rA(b:List Lev):Option (List Lev)→(List Byt×(List (List (MixE Int))×List (List (MixE (MixE Int)))))×((MixE (MixE (MixE Int))×Unit)×Int)
 |some d'=>ansR b d'
 |none=>badR 2
theorem doR_ok{c:CfgT}{d:List Lev}{l:List SeeT}(h:xZ9)(hok:zZs c d)(hall:∀x∈l,zW5 d x)(ha:l.length≤1000000):zKc (c,((d,()),(l,h)))=some (rA (if h.1=5 then nwS c else d) (hrm c d l h)):=by
 obtain⟨b1,b2⟩:=zK1 hok;unfold zKc;dsimp only;obtain⟨Q,P,v,rp0⟩:∃Q P v,zXm (c,((d,()),l))=some ((Q,P),((v,()),0)):=by
  rw[xYs c d l (by omega) (fun L hL=>by have:=(b2 L hL).1;omega) (by omega)]
  unfold repR;rw[if_pos hok,if_pos hall];exact⟨_,_,_,rfl⟩
 refine zQm rp0 ?_;refine zQd rfl ?_;have hbl:∀x∈l,x.2.2.2.1.length≤1000000:=fun x hx=>by
  have hm:=hall x hx;obtain⟨i,hi,k,hk,e1,e2⟩:=pl1.1 hm.2.1;have:=hm.2.2;rw[e1,e2,zYv hi hk]at this;have:=(b2 _ (Qh hi)).2 _ (Qh hk);omega
 obtain⟨kind,lv,A,B,At,mask,u⟩:=h;dsimp only;by_cases h5:kind=5
 ·rw [if_pos h5]
  refine zQe (by simp[Z.ieq,h5]) ?_
  have e:hrm c d l (kind,(lv,(A,(B,(At,(mask,u))))))=if 0≤At∧At≤(wrL l).length then some (reps (nwS c) ((wrL l).take At.toNat))else none:=by
   unfold hrm;rw[if_pos h5]
  rw[e];refine zQa rfl ?_;refine zQn (fun(s:List SeeT×Int)=>∃i:Nat,i≤l.length∧s=(wrL (l.take i),(i:Int))) (fun s=>l.length-s.2.toNat) ?_ ⟨0,Qw _,rfl⟩ (zXd _ _ (by omega))
  rintro s k ⟨i,hi,rfl⟩ hk;dsimp only;by_cases hlt:i<l.length
  ·have hs:=wJy l hlt
   have hle:=vXe l i;have dec:l.length-((i+1:Nat):Int).toNat<l.length-((i:Int)).toNat:=by omega
   refine zQe (decide_eq_true (by simp only[Z.ofN,Z.len];omega)) ?_
   refine zQa (ixND hlt) (zQb (zWg l hlt _) ?_);by_cases h2:l[i].1=2
   ·refine zQe (by simp[Z.ieq,h2]) ?_
    rw[if_pos h2]at hs;refine zQa (Qg _) ?_;refine zWa (bigD (by simp only[Z.len];omega) (by show 1≤2000000;omega) (by omega)) ?_
    refine zQa rfl ?_;refine zQb (y:=wrL (l.take (i+1))) (by rw[hs];rfl) ?_
    refine zQb (zQ1 (by omega)) (zQa rfl ?_)
    exact hk _ ⟨i+1,hlt,rfl⟩ dec
   ·refine zQd (by simp[Z.ieq,h2]) ?_
    rw[if_neg h2]at hs;refine zQb (zQ1 (by omega)) (zQa rfl ?_)
    exact hk _ ⟨i+1,hlt,by rw[hs]⟩ dec
  ·refine zQd (decide_eq_false (by simp only[Z.ofN,Z.len];omega)) ?_
   rw[Qf (by omega)]
   by_cases a0:0≤At
   ·refine zQe (decide_eq_true a0) ?_
    by_cases a1:At≤(wrL l).length
    ·refine zQd (by simp only[Z.bnot,Z.zQi,Z.ile,Z.ofN,Z.len];simpa using a1) ?_
     rw[if_pos ⟨a0,a1⟩];refine zQm (vW1 c) ?_;have en:newD c=((nwS c,()),0):=by unfold newD;rw[if_pos hok.1]
     rw[en];refine zQd rfl ?_;refine zQa ⟨a0,a1⟩ (iteP rfl ?_);have esl:Z.slice (wrL l) 0 (Z.toN At)=(wrL l).take At.toNat:=Jb;have hw:(wrL l).length≤l.length:=by
      have:=vXe l l.length;rw[Q2]at this;exact this
     obtain⟨k1,k2⟩:=yJw hok hall;obtain⟨n1,n2⟩:=zK1 k1;have rp:zXm (c,((nwS c,()),(wrL l).take At.toNat))=some (ansR (nwS c) (reps (nwS c) ((wrL l).take At.toNat))):=by
      rw[xYs c (nwS c) _ (by omega) (fun L hL=>by have:=(n2 L hL).1;omega) (by rw[J1];omega)]
      unfold repR;rw[if_pos k1,if_pos fun x hx=>k2 x (vXd (J8 hx))]
      rfl
     by_cases a2:Z.EqN (Z.toN At) (Z.len (wrL l))
     ·rw[if_pos a2]
      exact zQb esl (zQm rp (zQd rfl rfl))
     ·rw[if_neg a2]
      exact zQb esl (zQm rp (zQd rfl rfl))
    ·refine zQe (by simp only[Z.bnot,Z.zQi,Z.ile,Z.ofN,Z.len];simp;omega) ?_
     rw[if_neg fun hh=>a1 hh.2];rfl
   ·refine zQd (decide_eq_false a0) ?_
    rw[if_neg fun hh=>a0 hh.1];rfl
 ·rw [if_neg h5]
  refine zQd (by simp[Z.ieq,h5]) ?_
  refine zQm (yXz d (xZk hok)) ?_;dsimp only;have no:¬plD d lv [A]→hrm c d l (kind,(lv,(A,(B,(At,(mask,u))))))=none:=fun hn=>by
   unfold hrm;rw[if_neg h5,if_neg hn]
  have bad:hrm c d l (kind,(lv,(A,(B,(At,(mask,u))))))=none→some (badR 2)=some (rA d (hrm c d l (kind,(lv,(A,(B,(At,(mask,u)))))))):=fun hn=>by rw[hn];rfl
  by_cases l0:0≤lv
  rotate_left
  ·exact zQd (decide_eq_false l0) (bad (no fun hh=>l0 hh.1.1))
  refine zQe (decide_eq_true l0) ?_;by_cases l1:lv<d.length
  rotate_left
  ·refine zQe (by simp only[Z.bnot,Z.zQi,Z.ilt,Z.ofN,Z.xlen];simp;omega) (bad (no fun hh=>l1 hh.1.2))
  refine zQd (by simp only[Z.bnot,Z.zQi,Z.ilt,Z.ofN,Z.xlen];simpa using l1) ?_
  obtain⟨i,rfl⟩:∃i:Nat,lv=(i:Int):=⟨lv.toNat,by omega⟩
  have hi:i<d.length:=by omega
  obtain⟨p1,p2,p3⟩:=wY5 hi;have hget:d.getD (i:Int).toNat []=d[i]:=by simp[List.getD,hi]
  by_cases A0:1≤A
  rotate_left
  ·exact zQd (decide_eq_false A0) (bad (no fun hh=>A0 (hh.2 A (by simp)).1))
  refine zQe (decide_eq_true A0) ?_;refine zQa p1 (zQa p2 (zQa p2 (zQb p3 ?_)));by_cases A1:A≤d[i].length
  rotate_left
  ·refine zQe (by simp only[Z.bnot,Z.zQi,Z.ile,Z.ofN,Z.xlen];simp;omega) (bad (no fun hh=>A1 (by have:=(hh.2 A (by simp)).2;rw[hget]at this;exact this)))
  refine zQd (by simp only[Z.bnot,Z.zQi,Z.ile,Z.ofN,Z.xlen];simpa using A1) ?_
  refine zQa p1 (zQa p2 (zQa p2 (zQb p3 ?_)));obtain⟨x,rfl⟩:∃x:Nat,A=((x+1:Nat):Int):=⟨(A-1).toNat,by omega⟩
  have hx:x<d[i].length:=by omega
  have hpA:plD d (i:Int) [((x+1:Nat):Int)]:=pl1.2 ⟨i,hi,x,hx,rfl,rfl⟩;refine zQb (sub1 (by have:=(b2 _ (Qh hi)).1;omega)) ?_
  obtain⟨q1,q2,q3⟩:=wWa hi hx;refine zQa q1 (zQa q2 (zQa q2 (zQb q3 ?_)));refine zQm (xQt l _ _ (by omega) hbl) ?_
  have hbA:bkt d (i:Int) ((x+1:Nat):Int)=d[i][x]:=zYv hi hx;have hB:=(b2 _ (Qh hi)).2 _ (Qh hx);have hvl:=xYb hall (level:=(i:Int)) (bucket:=((x+1:Nat):Int))
  rw[hbA]at hvl;have hxl:Z.xlen (bkD i d[i] x)=d[i][x].length:=vQu i d[i] hx;have unf:=vQb c d l (kind,((i:Int),(((x+1:Nat):Int),(B,(At,(mask,u)))))) h5 hpA
  dsimp only at unf;rw[hbA]at unf;have view:∀(d':List Lev),dims d=dims d'→hrm c d l (kind,((i:Int),(((x+1:Nat):Int),(B,(At,(mask,u))))))=some d'→some (ansR d d')=some (rA d (hrm c d l (kind,((i:Int),(((x+1:Nat):Int),(B,(At,(mask,u)))))))):=fun d' _ hh=>by rw[hh];rfl
  have put1:∀b:Byt,b.length=d[i][x].length→Z.XW (qD d) (bkD i d[i] x)∧Z.xput (qD d) (bkD i d[i] x) (Z.take (Z.minN (Z.len b) (Z.xlen (bkD i d[i] x))) b)=qD (wrB d (i:Int) ((x+1:Nat):Int) b)∧dims d=dims (wrB d (i:Int) ((x+1:Nat):Int) b):=fun b hb=>xJ8 rfl hi hx b hb (by omega)
  by_cases k1:kind=1
  ·rw[if_pos k1]at unf
   refine zQe (by simp[Z.ieq,k1]) ?_
   by_cases m0:mask=0
   ·exact zQd (by simp[Z.ine,m0]) (bad (by rw[unf,if_neg fun hh=>hh.1 m0]))
   refine zQe (by simp[Z.ine,m0]) ?_
   by_cases a0:0≤At
   rotate_left
   ·exact zQd (by simp only[Z.zQi,Z.ige];simpa using a0) (bad (by rw[unf,if_neg fun hh=>a0 hh.2.1]))
   refine zQe (by simp only[Z.zQi,Z.ige];simpa using a0) ?_
   by_cases a1:At<d[i][x].length
   rotate_left
   ·refine zQe (by rw[hxl];simp only[Z.bnot,Z.zQi,Z.ilt,Z.ofN];simp;omega) (bad (by rw[unf,if_neg fun hh=>a1 hh.2.2]))
   refine zQd (by rw[hxl];simp only[Z.bnot,Z.zQi,Z.ilt,Z.ofN];simpa using a1) ?_
   obtain⟨n,rfl⟩:∃n:Nat,At=(n:Int):=⟨At.toNat,by omega⟩
   have hn:n<d[i][x].length:=by omega
   rw[if_pos ⟨m0,a0,a1⟩]at unf;obtain⟨t1,t2,_⟩:=vJ0 (d:=d) (d':=d) rfl hi hx hn;obtain⟨s1,s2⟩:=uWs (d:=d) (d':=d) rfl hi hx hn hi hx hn (Z.bxor .u8 d[i][x][n] mask)
   refine zQa t1 (zQa t2 (zQa t2 (zQb s2 ?_)));refine zQb (y:=Z.bxor .u8 d[i][x][n] mask) rfl ?_;refine zQa t1 (zQa t2 (zQa t2 (zQb s1 ?_)));have eg:d[i][x].getD (n:Int).toNat 0=d[i][x][n]:=by simp[List.getD,hn]
   rw[eg,xWm hi]at unf;exact view _ (xWg rfl hi hx _ (by simp)) unf
  refine zQd (by simp[Z.ieq,k1]) ?_
  rw[if_neg k1]at unf;by_cases k2:kind=2
  ·rw[if_pos k2]at unf
   refine zQe (by simp[Z.ieq,k2]) ?_
   have noB:¬plD d (i:Int) [B]→hrm c d l (kind,((i:Int),(((x+1:Nat):Int),(B,(At,(mask,u))))))=none:=fun hn=>by rw[unf,if_neg hn]
   refine zQe (decide_eq_true l0) ?_;refine zQd (by simp only[Z.bnot,Z.zQi,Z.ilt,Z.ofN,Z.xlen];simpa using l1) ?_
   by_cases B0:1≤B
   rotate_left
   ·exact zQd (decide_eq_false B0) (bad (noB fun hh=>B0 (hh.2 B (by simp)).1))
   refine zQe (decide_eq_true B0) ?_;refine zQa p1 (zQa p2 (zQa p2 (zQb p3 ?_)));by_cases B1:B≤d[i].length
   rotate_left
   ·refine zQe (by simp only[Z.bnot,Z.zQi,Z.ile,Z.ofN,Z.xlen];simp;omega) (bad (noB fun hh=>B1 (by have:=(hh.2 B (by simp)).2;rw[hget]at this;exact this)))
   refine zQd (by simp only[Z.bnot,Z.zQi,Z.ile,Z.ofN,Z.xlen];simpa using B1) ?_
   refine zQa p1 (zQa p2 (zQa p2 (zQb p3 ?_)));obtain⟨y,rfl⟩:∃y:Nat,B=((y+1:Nat):Int):=⟨(B-1).toNat,by omega⟩
   have hy:y<d[i].length:=by omega
   have hpB:plD d (i:Int) [((y+1:Nat):Int)]:=pl1.2 ⟨i,hi,y,hy,rfl,rfl⟩;rw[if_pos hpB]at unf;refine zQb (sub1 (by have:=(b2 _ (Qh hi)).1;omega)) ?_
   obtain⟨r1,r2,r3⟩:=wWa hi hy;refine zQa r1 (zQa r2 (zQa r2 (zQb r3 ?_)));have hbB:bkt d (i:Int) ((y+1:Nat):Int)=d[i][y]:=zYv hi hy;rw[hbB]at unf;have hyl:Z.xlen (bkD i d[i] y)=d[i][y].length:=vQu i d[i] hy
   have hi':i<(shS c).length:=by have:=hok.2.1;omega
   have hsame:d[i][y].length=d[i][x].length:=by
    obtain⟨_,hq⟩:=hok.2.2 i hi hi';have q1:=hq _ (Qh hx);have q2:=hq _ (Qh hy);omega
   obtain⟨g1,g2⟩:=wJq (d:=d) (d':=d) rfl hi hi hx hx;refine zQa g1 (zQb g2 ?_);refine zQm (xJ6 _ (by omega)) ?_
   refine zQb (y:=Q++[d[i][x]]) rfl ?_;obtain⟨g3,g4⟩:=wJq (d:=d) (d':=d) rfl hi hi hy hy;refine zQa g3 (zQb g4 ?_);obtain⟨w1,w2,w3⟩:=put1 d[i][y] (by omega)
   refine zQa w1 (zQb w2 ?_);have er:Z.xrow (Z.len Q) d[i][x]=.ref (Z.len Q) 0 d[i][x].length d[i][x].length:=yJ5 (by omega)
   have hd1:=w3;generalize hD1:wrB d (i:Int) ((x+1:Nat):Int) d[i][y]=d1 at *;have hrow:(Q++[d[i][x]]).getD (Z.len Q) []=d[i][x]:=by
    show(Q++[d[i][x]]).getD Q.length []=_;rw[List.getD_eq_getElem?_getD,Qi (by omega),Nat.sub_self]
    rfl
   have hxk:Z.XOk (Q++[d[i][x]]) (Z.xrow (Z.len Q) d[i][x]):=by
    rw[er];simp only[Z.XOk,MixE.xok,hrow,Qc,decide_eq_true_eq,beq_iff_eq,and_true];exact⟨by rw[Qz,List.length_singleton];show Q.length<_;omega,by simp⟩
   have hxg:Z.xget (Q++[d[i][x]]) (Z.xrow (Z.len Q) d[i][x])=d[i][x]:=by
    rw[er];show(((Q++[d[i][x]]).getD (Z.len Q) []).drop 0).take d[i][x].length=_;rw[hrow,Jb,Q2]
   refine zQa hxk (zQb hxg ?_);obtain⟨u1,u2,u3⟩:=xJ8 hd1 hi hy d[i][x] (by omega) (by omega)
   exact zQa u1 (zQb u2 (view _ u3 unf))
  refine zQd (by simp[Z.ieq,k2]) ?_
  rw[if_neg k2]at unf;have hvb:(vers l (i:Int) ((x+1:Nat):Int)).length≤1000000:=by
   have:=yZ4 l (i:Int) ((x+1:Nat):Int) l.length;rw[Q2]at this;omega
  generalize vers l (i:Int) ((x+1:Nat):Int)=V at *;by_cases k4:kind=4
  ·rw[if_pos k4]at unf
   refine zQe (by simp[Z.ieq,k4]) ?_
   by_cases v1:V.length=1
   ·refine zQe (by simp only[Z.ieq,Z.ofN,Z.len,v1];rfl) ?_
    rw[if_pos v1]at unf;obtain⟨w1,w2,w3⟩:=put1 (List.replicate d[i][x].length 0) (by simp)
    refine zQa w1 (zQb (y:=qD (wrB d (i:Int) ((x+1:Nat):Int) (List.replicate d[i][x].length 0))) ?_ ?_)
    ·rw[←w2,hxl]
     congr 1;show List.replicate _ (0:Int)=List.take (min (List.replicate d[i][x].length (0:Int)).length d[i][x].length) _;rw[List.length_replicate,Nat.min_self,Qf (by simp)]
    ·exact view _ w3 unf
   refine zQd (by simp only[Z.ieq,Z.ofN,Z.len];simp;omega) ?_
   rw[if_neg v1]at unf;refine zQb (y:=(V.length:Int)-2) ((zY1 (by simp only[Z.sub,Z.ofN,Z.len];omega)).trans rfl) ?_
   by_cases v2:2≤V.length
   ·refine zQe (decide_eq_true (by omega)) ?_
    refine zQd (by simp only[Z.bnot,Z.zQi,Z.ilt,Z.ofN,Z.len];simp;omega) ?_
    rw[if_pos v2]at unf;obtain⟨m,hm⟩:∃m:Nat,V.length=m+2:=⟨V.length-2,by omega⟩
    have hmV:m<V.length:=by omega
    have em:(V.length:Int)-2=(m:Int):=by omega
    rw[em];refine zQa (ixND hmV) (zQb (zWg V hmV _) ?_);have eg:V.getD (V.length-2) []=V[m]:=by rw[show V.length-2=m by omega];simp[List.getD,hmV]
    rw[eg]at unf;obtain⟨w1,w2,w3⟩:=put1 V[m] (hvl _ (Qh hmV));exact zQa w1 (zQb w2 (view _ w3 unf))
   ·refine zQd (decide_eq_false (by omega)) (bad (by rw[unf,if_neg v2]))
  refine zQd (by simp[Z.ieq,k4]) ?_
  rw[if_neg k4]at unf;by_cases k3:kind=3
  ·rw[if_pos k3]at unf
   refine zQe (by simp[Z.ieq,k3]) ?_
   by_cases a0:0≤At
   rotate_left
   ·exact zQd (decide_eq_false a0) (bad (by rw[unf,if_neg fun hh=>a0 hh.1]))
   refine zQe (decide_eq_true a0) ?_;by_cases a1:At<V.length
   rotate_left
   ·refine zQe (by simp only[Z.bnot,Z.zQi,Z.ilt,Z.ofN,Z.len];simp;omega) (bad (by rw[unf,if_neg fun hh=>a1 hh.2]))
   refine zQd (by simp only[Z.bnot,Z.zQi,Z.ilt,Z.ofN,Z.len];simpa using a1) ?_
   obtain⟨m,rfl⟩:∃m:Nat,At=(m:Int):=⟨At.toNat,by omega⟩
   have hmV:m<V.length:=by omega
   rw[if_pos ⟨a0,a1⟩]at unf;refine zQa (ixND hmV) (zQb (zWg V hmV _) ?_);have eg:V.getD (m:Int).toNat []=V[m]:=by simp[List.getD,hmV]
   rw[eg]at unf;obtain⟨w1,w2,w3⟩:=put1 V[m] (hvl _ (Qh hmV));exact zQa w1 (zQb w2 (view _ w3 unf))
  refine zQd (by simp[Z.ieq,k3]) ?_
  rw[if_neg k3]at unf;exact bad unf
theorem doR(c:CfgT)(d:List Lev)(l:List SeeT)(h:xZ9)(hl:d.length≤1000000000)(hL:∀L∈d,L.length≤100000000)(ha:l.length≤1000000):
  (∃b d',hrm c d l h=some d'∧zZs c d∧(∀x∈l,zW5 d x)∧dims b=dims d'∧DevB b∧zKc (c,((d,()),(l,h)))=some (ansR b d'))∨
  (∃e,hrmD c d l h=(([],()),e)∧zKc (c,((d,()),(l,h)))=some (badR e)):=by
 by_cases hok:zZs c d
 ·by_cases hall:∀x∈l,zW5 d x
  ·have key:=doR_ok h hok hall ha
   cases hh:hrm c d l h with
   |none=>
    rw[hh]at key;refine .inr ⟨2, ?_,key⟩;unfold hrmD;rw[if_pos hok,if_pos hall,hh];rfl
   | some d'=>
    rw[hh]at key;refine .inl ⟨_,d',rfl,hok,hall, ?_, ?_,key⟩
    ·have hd:=wQo hok hall hh
     split
     ·exact(wKr (yJw hok hall).1 hok).trans hd
     ·exact hd
    ·split
     ·exact xZk (yJw hok hall).1
     ·exact xZk hok
  ·refine .inr ⟨2,by unfold hrmD;rw[if_pos hok,if_neg hall], ?_⟩
   unfold zKc;dsimp only;refine zQm (xYs c d l hl hL (by omega)) ?_
   have e:repR c d l=badR 2:=by unfold repR;rw[if_pos hok,if_neg hall];rfl
   rw[e];exact zQe rfl rfl
 ·refine .inr ⟨8,by unfold hrmD;rw[if_neg hok], ?_⟩
  unfold zKc;dsimp only;refine zQm (xYs c d l hl hL (by omega)) ?_
  have e:repR c d l=badR 8:=by unfold repR;rw[if_neg hok];rfl
  rw[e];exact zQe rfl rfl
def rwV(V:List Byt)(n:Nat):List (MixE Int):=(List.range n).map fun j=>Z.xrow j (V.getD j [])
theorem xW2(V:List Byt)(n:Nat):(rwV V n).length=n:=by simp[rwV]
theorem vY3(V:List Byt)(b:Byt):rwV (V++[b]) (V.length+1)=rwV V V.length++[Z.xrow V.length b]:=by
 unfold rwV;rw[List.range_succ,Qx];congr 1
 ·refine Jd fun j hj=> ?_
  have hj:=List.mem_range.1 hj;rw[List.getD_eq_getElem?_getD,Qb hj,←List.getD_eq_getElem?_getD]
 ·simp[List.getD]
theorem vZo(V:List Byt){i:Nat}(hi:i<V.length)(z:MixE Int):(rwV V V.length).getD i z=Z.xrow i V[i]:=by
 simp[rwV,List.getD,hi]
theorem versR(l:List SeeT)(level bucket:Int)(hl:l.length≤1000000)(hb:∀x∈l,x.2.2.2.1.length≤2000000):zKb (l,(level,bucket))=some ((vers l level bucket,[rwV (vers l level bucket) (vers l level bucket).length]), .ref 0 0 (vers l level bucket).length (vers l level bucket).length):=by
  unfold zKb;refine zQn (fun(s:Int×(List (List (MixE Int))×(List Byt×MixE (MixE Int))))=>∃i:Nat,i≤l.length∧s=((i:Int),([rwV (vers (l.take i) level bucket) (vers (l.take i) level bucket).length],(vers (l.take i) level bucket, .ref 0 0 (vers (l.take i) level bucket).length (vers (l.take i) level bucket).length)))) (fun s=>l.length-s.1.toNat) ?_ ⟨0,Qw _,rfl⟩ (zXd _ _ (by omega))
  rintro s k ⟨i,hi,rfl⟩ hk;dsimp only;by_cases h:i<l.length
  · have hs:=xWq l level bucket h
    have hle:=yZ4 l level bucket i;have dec:l.length-((i+1:Nat):Int).toNat<l.length-((i:Int)).toNat:=by omega
    have skip:wXp level bucket l[i]≠true→(Z.bnd (Z.wrap .i64 (Z.add (i:Int) 1)) fun(x19:Int)=>
 k (x19,([rwV (vers (l.take i) level bucket) (vers (l.take i) level bucket).length],(vers (l.take i) level bucket, .ref 0 0 (vers (l.take i) level bucket).length (vers (l.take i) level bucket).length))))=some ((vers l level bucket,[rwV (vers l level bucket) (vers l level bucket).length]), .ref 0 0 (vers l level bucket).length (vers l level bucket).length):=fun hn=>by
      rw[if_neg hn]at hs;refine zQb (zQ1 (by omega)) ?_
      exact hk _ ⟨i+1,h,by rw[hs]⟩ dec
    refine zQe (decide_eq_true (by simp only[Z.ofN,Z.len];omega)) ?_
    refine zQa (ixND h) (zQb (zWg l h _) ?_);by_cases h1:l[i].1=2
    · refine zQe (by simp[Z.ieq,h1]) ?_
      by_cases h2:l[i].2.1=level
      · refine zQe (by simp[Z.zQi,Z.ieq,h2]) ?_
        by_cases h3:l[i].2.2.1=bucket
        · refine zQe (by simp[Z.zQi,Z.ieq,h3]) ?_
          rw[if_pos (zXt.2 ⟨h1,h2,h3⟩)]at hs;refine zQm (vYm _ (hb _ (Qh h))) ?_;refine zQb (y:=vers (l.take (i+1)) level bucket) (by rw[hs]) ?_
          refine zQa (by simp[Z.XGr,MixE.xgr,xW2]) ?_
          refine iteN (by show¬(1:Nat)=0;decide) ?_
          refine zWa (bigD (by show(vers (l.take i) level bucket).length≤2000000;omega) (by show 1≤2000000;omega) (by omega)) ?_
          refine zQb (y:=[rwV (vers (l.take (i+1)) level bucket) (vers (l.take (i+1)) level bucket).length]) ?_ ?_
          ·rw[hs,Qz,List.length_singleton,vY3];rfl
          refine zQb (y:=.ref 0 0 (vers (l.take (i+1)) level bucket).length (vers (l.take (i+1)) level bucket).length) (by rw[hs,Qz,List.length_singleton];rfl) ?_
          refine zQb (zQ1 (by omega)) ?_
          exact hk _ ⟨i+1,h,rfl⟩ dec
        ·refine zQd (by simp[Z.zQi,Z.ieq,h3]) (skip fun hh=>h3 (zXt.1 hh).2.2)
      ·refine zQd (by simp[Z.zQi,Z.ieq,h2]) (skip fun hh=>h2 (zXt.1 hh).2.1)
    ·refine zQd (by simp[Z.ieq,h1]) (skip fun hh=>h1 (zXt.1 hh).1)
  · refine zQd (decide_eq_false (by simp only[Z.ofN,Z.len];omega)) ?_
    rw[Qf (by omega)]
theorem vYu{V:List Byt}{i:Nat}(hi:i<V.length):Z.XOk V (Z.xrow i V[i])∧Z.xget V (Z.xrow i V[i])=V[i]:=by
 have e:V.getD i []=V[i]:=by simp[List.getD,hi]
 by_cases h0:V[i].length=0
 ·have e0:V[i]=[]:=Qp.1 h0
  have e1:Z.xrow i V[i]=.data []:=by unfold Z.xrow;rw[if_pos h0,e0]
  rw[e1,e0];exact⟨rfl,rfl⟩
 ·rw[yJ5 h0]
  constructor
  ·simp only[Z.XOk,MixE.xok,e,decide_eq_true hi];simp
  ·show((V.getD i []).drop 0).take V[i].length=_
   rw[e,Jb,Q2]
theorem wJ0(V:List Byt):Z.XOk [rwV V V.length] (.ref 0 0 V.length V.length:MixE (MixE Int))∧Z.mapO (fun(e26:MixE (Int))=>
 if(Z.XOk V e26)then Z.bnd (Z.xget V e26) fun(x29:List (Int))=>
 some x29
 else none) (Z.xget [rwV V V.length] (.ref 0 0 V.length V.length))=some V:=by
  refine⟨by simp[Z.XOk,MixE.xok,xW2], ?_⟩
  have hx:Z.xget [rwV V V.length] (.ref 0 0 V.length V.length:MixE (MixE Int))=rwV V V.length:=by
    show((rwV V V.length).drop 0).take V.length=_;rw[Jb,Qf (by rw[xW2];exact Qg _)]
  rw[hx];refine zJ7 (xW2 _ _) fun i h h'=>?_
  have e:(rwV V V.length)[i]=Z.xrow i V[i]:=by
    have:=vZo V h' .nil;rw[List.getD_eq_getElem?_getD,Ql h]at this;exact this
  rw[e];obtain⟨r1,r2⟩:=vYu h';exact zQa r1 (zQb r2 rfl)
theorem xK4{β:Type}(V:List Byt)(hn:V.length≤1000000)(hb:∀b∈V,b.length≤2000000){fin:Option β}{r:β}(hfin:fin=some r):Z.loop (fun(s106:(Int)×(List (List (Int)))) k107=>
 (bif (Z.ilt s106.1 (Z.ofN (Z.xlen (.ref 0 0 V.length V.length:MixE (MixE Int)))))then Z.loop (fun(s108:(Int)×(List (List (Int)))) k109=>
 if(Z.Ix s106.1 (Z.xlen (.ref 0 0 V.length V.length:MixE (MixE Int))))then if(Z.XPt [rwV V V.length] (.ref 0 0 V.length V.length) (Z.toN s106.1))then if(Z.XPt [rwV V V.length] (.ref 0 0 V.length V.length) (Z.toN s106.1))then Z.bnd (Z.xat [rwV V V.length] (.ref 0 0 V.length V.length) (Z.toN s106.1) (MixE.nil:MixE (Int))) fun(x116:MixE (Int))=>
 (bif (Z.ilt s108.1 (Z.ofN (Z.xlen x116)))then if(Z.Ix s106.1 (Z.xlen (.ref 0 0 V.length V.length:MixE (MixE Int))))then if(Z.XPt [rwV V V.length] (.ref 0 0 V.length V.length) (Z.toN s106.1))then if(Z.XPt [rwV V V.length] (.ref 0 0 V.length V.length) (Z.toN s106.1))then Z.bnd (Z.xat [rwV V V.length] (.ref 0 0 V.length V.length) (Z.toN s106.1) (MixE.nil:MixE (Int))) fun(x123:MixE (Int))=>
 if(Z.Ix s106.1 (Z.xlen (.ref 0 0 V.length V.length:MixE (MixE Int))))then if(Z.XPt [rwV V V.length] (.ref 0 0 V.length V.length) (Z.toN s106.1))then if(Z.XPt [rwV V V.length] (.ref 0 0 V.length V.length) (Z.toN s106.1))then Z.bnd (Z.xat [rwV V V.length] (.ref 0 0 V.length V.length) (Z.toN s106.1) (MixE.nil:MixE (Int))) fun(x130:MixE (Int))=>
 if(Z.Ix s108.1 (Z.xlen x130))then if(Z.XPt s108.2 x130 (Z.toN s108.1))then if(Z.XPt s108.2 x130 (Z.toN s108.1))then Z.bnd (Z.xat s108.2 x130 (Z.toN s108.1) 0) fun(x137:Int)=>
 Z.bnd (Z.wrap .u8 (Z.add x137 1)) fun(x138:Int)=>
 if(Z.Ix s108.1 (Z.xlen x123))then if(Z.XPt s108.2 x123 (Z.toN s108.1))then if(Z.XPt s108.2 x123 (Z.toN s108.1))then Z.bnd (Z.xset s108.2 x123 (Z.toN s108.1) x138) fun(x145:List (List (Int)))=>
 Z.bnd (Z.wrap .i64 (Z.add s108.1 1)) fun(x146:Int)=>
 k109 (x146,x145)
 else none
 else none
 else none
 else none
 else none
 else none
 else none
 else none
 else none
 else none
 else none
 else none
 else Z.bnd (Z.wrap .i64 (Z.add s106.1 1)) fun(x147:Int)=>
 k107 (x147,s108.2))
 else none
 else none
 else none) (0,s106.2)
 else fin)) (0,V)=some r:=by
  refine zQn (fun(s:Int×List Byt)=>∃(i:Nat) (M:List Byt),i≤V.length∧s=((i:Int),M)∧M.length=V.length∧∀j,(M.getD j []).length=(V.getD j []).length) (fun s=>V.length-s.1.toNat) ?_ ⟨0,V,Qw _,rfl,rfl,fun _=>rfl⟩ (zXd _ _ (by omega))
  rintro s k1 ⟨i,M,hi,rfl,hM,hMj⟩ hk1;dsimp only;by_cases h:i<V.length
  · refine zQe (decide_eq_true (by simp only[Z.ofN,Z.xlen];omega)) ?_
    have p1:Z.Ix (i:Int) (Z.xlen (.ref 0 0 V.length V.length:MixE (MixE Int))):=⟨by omega,by show(i:Int).toNat<V.length;omega⟩
    have p2:Z.XPt [rwV V V.length] (.ref 0 0 V.length V.length:MixE (MixE Int)) (Z.toN (i:Int)):=by simp[Z.XPt,MixE.xpt,xW2,Z.toN,h]
    have p3:Z.xat [rwV V V.length] (.ref 0 0 V.length V.length:MixE (MixE Int)) (Z.toN (i:Int)) (MixE.nil:MixE (Int))=Z.xrow i V[i]:=by
      show(rwV V V.length).getD (0+i) _=_;rw[Jc];exact vZo V h _
    have hbl:Z.xlen (Z.xrow i V[i])=V[i].length:=wJw _ _;have hbi:=hb _ (Qh h);have eV:V.getD i []=V[i]:=by simp[List.getD,h]
    refine zQn (fun(s:Int×List Byt)=>∃(n:Nat) (M:List Byt),n≤V[i].length∧s=((n:Int),M)∧M.length=V.length∧∀j,(M.getD j []).length=(V.getD j []).length) (fun s=>V[i].length-s.1.toNat) ?_ ⟨0,M,Qw _,rfl,hM,hMj⟩ (zXd _ _ (by omega))
    rintro s k2 ⟨n,M,hn,rfl,hM,hMj⟩ hk2;dsimp only;refine zQa p1 (zQa p2 (zQa p2 (zQb p3 ?_)));by_cases hnlt:n<V[i].length
    · refine zQe (decide_eq_true (by rw[hbl];simp only[Z.ofN];omega)) ?_
      refine zQa p1 (zQa p2 (zQa p2 (zQb p3 ?_)));refine zQa p1 (zQa p2 (zQa p2 (zQb p3 ?_)));have hMi:=hMj i;rw[eV]at hMi;have q1:Z.Ix (n:Int) (Z.xlen (Z.xrow i V[i])):=⟨by omega,by rw[hbl];show(n:Int).toNat<_;omega⟩
      have q2:Z.XPt M (Z.xrow i V[i]) (Z.toN (n:Int)):=by
        rw[yJ5 (by omega)]
        simp only[Z.XPt,MixE.xpt,hMi,decide_eq_true (show i<M.length by omega)]
        simp[Z.toN,hnlt]
      refine zQa q1 (zQa q2 (zQa q2 (zQb rfl (zQb rfl ?_))));generalize Z.wrap .u8 _=z;refine zQa q1 (zQa q2 (zQa q2 (zQb (y:=M.set i ((M.getD i []).set n z)) ?_ ?_)))
      · rw[yJ5 (by omega)]
        show M.set i ((M.getD i []).set (0+n) z)=_;rw[Jc]
      refine zQb (zQ1 (by omega)) ?_
      refine hk2 _ ⟨n+1,_,hnlt,rfl,by rw[List.length_set];exact hM,fun j=>?_⟩ (by show V[i].length-((n+1:Nat):Int).toNat<V[i].length-((n:Int)).toNat;omega)
      rw[zK7];split
      · rename_i hh
        rw[List.length_set,hh.1];exact hMj j
      ·exact hMj j
    · refine zQd (decide_eq_false (by rw[hbl];simp only[Z.ofN];omega)) ?_
      refine zQb (zQ1 (by omega)) ?_
      exact hk1 _ ⟨i+1,M,h,rfl,hM,hMj⟩ (by show V.length-((i+1:Nat):Int).toNat<V.length-((i:Int)).toNat;omega)
  · refine zQd (decide_eq_false (by simp only[Z.ofN,Z.xlen];omega)) ?_
    exact hfin
theorem kinds{k:Int}(h5:¬k=5)(h1:¬k<1)(h2:¬5<k)(a:¬k=1)(b:¬k=2)(c:¬k=3):k=4:=by omega
theorem uQn{c:CfgT}{d:List Lev}{l:List SeeT}(h:xZ9)(hok:zZs c d)(hl:l.length≤1000000)(hb:∀x∈l,x.2.2.2.1.length≤2000000):yKv ((d,()),(l,h))=some (hrm c d l h).isSome:=by
 obtain⟨b1,b2⟩:=zK1 hok;obtain⟨kind,lv,A,B,At,mask,u⟩:=h;unfold yKv;dsimp only;by_cases h5:kind=5
 ·refine zQe (by simp[Z.ieq,h5]) ?_
  have e:hrm c d l (kind,(lv,(A,(B,(At,(mask,u))))))=if 0≤At∧At≤(wrL l).length then some (reps (nwS c) ((wrL l).take At.toNat))else none:=by
   unfold hrm;rw[if_pos h5]
  rw[e];by_cases a0:0≤At
  ·refine zQe (decide_eq_true a0) ?_
   refine zQm (xW9 l (by omega)) ?_
   by_cases a1:At≤(wrL l).length
   ·rw[if_pos ⟨a0,a1⟩];simp[Z.zQi,Z.ile,a1]
   ·rw[if_neg fun hh=>a1 hh.2];simp[Z.zQi,Z.ile,a1]
  ·refine zQd (decide_eq_false a0) ?_
   rw[if_neg fun hh=>a0 hh.1];rfl
 refine zQd (by simp[Z.ieq,h5]) ?_
 have no:(¬plD d lv [A]∨kind<1∨5<kind)→hrm c d l (kind,(lv,(A,(B,(At,(mask,u))))))=none:=fun hn=>by
  unfold hrm;rw[if_neg h5];dsimp only;split
  ·rename_i hp
   rw[if_neg (by rcases hn with h|h|h<;>first|exact absurd hp h|omega),if_neg (by rcases hn with h|h|h<;>first|exact absurd hp h|omega),if_neg (by rcases hn with h|h|h<;>first|exact absurd hp h|omega),if_neg (by rcases hn with h|h|h<;>first|exact absurd hp h|omega)]
  ·rfl
 by_cases g1:kind<1
 ·refine zQe (decide_eq_true g1) ?_
  rw[no (.inr (.inl g1))];rfl
 refine zQd (decide_eq_false g1) ?_;by_cases g5:5<kind
 ·refine zQe (by simp only[Z.zQi,Z.igt];simpa using g5) ?_
  rw[no (.inr (.inr g5))];rfl
 refine zQd (by simp only[Z.zQi,Z.igt];simpa using g5) ?_
 refine zQm (vQd d lv A) ?_;by_cases hp:plD d lv [A]
 rotate_left
 ·rw[yK3 hp]
  refine zQe rfl ?_;rw[no (.inl hp)];rfl
 rw[wKd hp];refine zQd rfl ?_;refine zQm (yQy l _ _ (by omega) hb) ?_
 rw[vQb c d l _ h5 hp];dsimp only;obtain⟨i,hi,x,hx,e1,e2⟩:=pl1.1 hp;have hbk:bkt d lv A=d[i][x]:=by rw[e1,e2,zYv hi hx]
 rw[hbk];have hvb:(vers l lv A).length≤1000000:=by
  have:=yZ4 l lv A l.length;rw[Q2]at this;omega
 have hLB:=b2 _ (Qh hi);by_cases k1:kind=1
 ·rw[if_pos k1]
  refine zQe (by simp[Z.ieq,k1]) ?_
  by_cases a0:0≤At
  rotate_left
  ·refine zQd (decide_eq_false a0) ?_
   rw[if_neg fun hh=>a0 hh.2.1];rfl
  refine zQe (decide_eq_true a0) ?_;subst e1;subst e2;refine zQa (ixND hi) (zQb (zWg d hi _) (zQb (sub1 (by omega)) ?_))
  refine zQa (ixND hx) (zQb (zWg d[i] hx _) ?_);by_cases a1:At<d[i][x].length
  rotate_left
  ·refine zQd (by simp only[Z.zQi,Z.ilt,Z.ofN,Z.len];simpa using a1) ?_
   rw[if_neg fun hh=>a1 hh.2.2];rfl
  refine zQe (by simp only[Z.zQi,Z.ilt,Z.ofN,Z.len];simpa using a1) ?_
  by_cases m0:mask=0
  ·rw[if_neg fun hh=>hh.1 m0];simp[Z.zQi,Z.ine,m0]
  ·rw[if_pos ⟨m0,a0,a1⟩];simp[Z.zQi,Z.ine,m0]
 rw[if_neg k1];refine zQd (by simp[Z.ieq,k1]) ?_
 by_cases k2:kind=2
 ·rw[if_pos k2]
  refine zQe (by simp[Z.ieq,k2]) ?_
  refine zQm (vQd d lv B) ?_;by_cases hpB:plD d lv [B]
  ·rw[wKd hpB,if_pos hpB];rfl
  ·rw[yK3 hpB,if_neg hpB];rfl
 rw[if_neg k2];refine zQd (by simp[Z.ieq,k2]) ?_
 generalize vers l lv A=V at *;by_cases k3:kind=3
 ·rw[if_neg (show¬kind=4 by omega),if_pos k3]
  refine zQe (by simp[Z.ieq,k3]) ?_
  by_cases a0:0≤At
  rotate_left
  ·refine zQd (decide_eq_false a0) ?_
   rw[if_neg fun hh=>a0 hh.1];rfl
  refine zQe (decide_eq_true a0) ?_;by_cases a1:At<V.length
  ·rw[if_pos ⟨a0,a1⟩];simp[Z.zQi,Z.ilt,Z.ofN,Z.len,a1]
  ·rw[if_neg fun hh=>a1 hh.2];simp[Z.zQi,Z.ilt,Z.ofN,Z.len,a1]
 refine zQd (by simp[Z.ieq,k3]) ?_
 rw[if_pos (kinds h5 g1 g5 k1 k2 k3)];by_cases v1:V.length=1
 ·rw[if_pos v1];simp[Z.igt,Z.ofN,Z.len,v1]
 ·rw[if_neg v1]
  by_cases v2:2≤V.length
  ·rw[if_pos v2];simp only[Z.igt,Z.ofN,Z.len,Option.isSome_some,Qd,decide_eq_true_eq];omega
  ·rw[if_neg v2];simp only[Z.igt,Z.ofN,Z.len,Option.isSome_none,Qd,decide_eq_false_iff_not];omega
theorem vJd(c:CfgT)(d:List Lev)(l:List SeeT)(h:xZ9)(hl:d.length≤1000000000)(hL:∀L∈d,L.length≤1000000000)(ha:l.length≤1000000):xQ2 (c,((d,()),(l,h)))=some (hrmD c d l h):=by
 unfold xQ2;refine zQm (vZu c d l hl hL (by omega)) ?_
 unfold hrmD;by_cases hok:zZs c d
 ·rw[if_pos hok]
  by_cases hall:∀x∈l,zW5 d x
  ·rw[if_pos hall,rep_ok hok hall]
   refine zQd rfl ?_;have hbl:∀x∈l,x.2.2.2.1.length≤2000000:=fun x hx=>by
    obtain⟨b1,b2⟩:=zK1 hok;have hm:=hall x hx;obtain⟨i,hi,k,hk,e1,e2⟩:=pl1.1 hm.2.1;have:=hm.2.2;rw[e1,e2,zYv hi hk]at this;have:=(b2 _ (Qh hi)).2 _ (Qh hk);omega
   refine zQm (uQn h hok (by omega) hbl) ?_
   cases hh:hrm c d l h with
   |none=>exact zQe rfl rfl
   |some d'=>
    refine zQd rfl ?_;exact zQm (uJw hok hall (by omega) hh) rfl
  ·rw[if_neg hall]
   have e:repD c d l=(([],()),2):=by unfold repD;rw[if_pos hok,if_neg hall]
   rw[e];exact zQe rfl rfl
 ·rw[if_neg hok]
  have e:repD c d l=(([],()),8):=by unfold repD;rw[if_neg hok]
  rw[e];exact zQe rfl rfl
end Go.Proofs.Ytghnechjgchajaa
