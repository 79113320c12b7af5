/- Filling rows: the program's way, all rows in places. -/
import Derived.Test.YtoceaomlohgkkaaEvB
namespace Go.Proofs.Ytoceaomlohgkkaa
open Go.Eng
set_option linter.unusedVariables false
set_option linter.unusedSimpArgs false
noncomputable def zWq(H a m:Nat)(s:List Blk)(k:Nat):List (List MBlk):=(zJf H m (dpS H a s) s.length k).map fun l=>l.map (mI s)
noncomputable def zY3(H a m:Nat)(s:List Blk)(k:Nat):List MBlk:=(zKb H m (dpS H a s) s.length k).map (mI s)
noncomputable def Rm(H a m:Nat)(s:List Blk)(k:Nat):List (List MBlk):=(List.range (k+1)).map (zY3 H a m s)
theorem vKs(H a m:Nat)(s:List Blk)(k:Nat):(Rm H a m s k).length=k+1:=by simp[Rm]
theorem uQn(H a m:Nat)(s:List Blk)(k:Nat):Rm H a m s (k+1)=Rm H a m s k++[zY3 H a m s (k+1)]:=by
 unfold Rm;rw[List.range_succ (n:=k+1),Qr];rfl
theorem vKt(H a m:Nat)(s:List Blk)(k:Nat):(Rm H a m s k).getD k []=zY3 H a m s k:=by simp[Rm,List.getD]
theorem vX8{α:Type}(A:List (List α))(X ys:List α){n:Nat}(hn:n=A.length):(A++[X]).set n ((A++[X]).getD n []++ys)=A++[X++ys]:=by
 subst hn;have e:(A++[X]).getD A.length []=X:=by
  rw[List.getD_eq_getElem?_getD,Qi (Qf _),Nat.sub_self];rfl
 rw[e,List.set_append_right _ _ (Qf _),Nat.sub_self];rfl
theorem vX7{α:Type}(A:List (List α))(X:List α){n:Nat}(hn:n=A.length):(A++[X]).getD n []=X:=by
 subst hn;rw[List.getD_eq_getElem?_getD,Qi (Qf _),Nat.sub_self];rfl
section
variable {B S W:Int} {H a m:Nat} {s:List Blk}
theorem vXo{i:Nat}(h:i<s.length):(List.range (i+1)).map (mI s)=(List.range i).map (mI s)++[(s[i].1,(s[i].2.1,(Z.xrow i s[i].2.2.1,())))]:=by
 rw[List.range_succ,Qr];simp[mI,vWv s h]
end
noncomputable def vY2(H a m:Nat)(s:List Blk):(List (List Int)×(List (List MBlk)×(List (List (MixE MBlk))×List (List MBlk))))×(MixE (MixE MBlk)×(MixE MBlk×Int)):=
 ((dQ s,(zWq H a m s (H+1),([refV (zWq H a m s (H+1))],Rm H a m s (H+1)))),(.ref 0 0 (H+1) (H+1),(.ref (H+1) 0 (zY3 H a m s (H+1)).length (zY3 H a m s (H+1)).length,0)))
def vQv(e:Int):(List (List Int)×(List (List MBlk)×(List (List (MixE MBlk))×List (List MBlk))))×(MixE (MixE MBlk)×(MixE MBlk×Int)):=(([],([],([],[]))),(.nil,(.nil,e)))
section
variable {B S W:Int} {H a m:Nat} {s:List Blk}
theorem vY1 (C:Ctx B S W H a m s)(hck:ckS B S (H:Int) W s=0):zW5 ((B,(S,((H:Int),(W,())))),(s,(a:Int)))=some (vY2 H a m s):=by
  have hH:=C.h2;have hl:=C.hl;have hm4:=C.m4;unfold zW5;dsimp only;refine zQp ((zJe B S (H:Int) W s (by omega)).trans (by rw[hck])) ?_
  refine zQ0 rfl ?_;refine zQp ((yZr (H:Int) (a:Int)).trans (by rw[if_pos (vQc C C.ha)])) ?_
  refine zQ0 rfl ?_;refine zQp ((zZz B S (H:Int) W).trans (by rw[C.hm])) ?_
  refine zQ0 rfl ?_;refine zQo (y:=((H+1:Nat):Int)) (Z.zZy (by omega)) ?_
  refine zQc (Z.zJ4.2 ⟨by omega,Int.le_refl _,by omega,by omega⟩) ?_
  refine zQc (Z.zJ4.2 ⟨Int.le_refl _,by simp only[Z.ofN,Z.len];omega,by simp only[Z.ofN,Z.len];omega,by simp only[Z.ofN,Z.len];omega⟩) ?_
  refine zQc (Jj _) ?_;refine zQp (y:=[]) rfl ?_;refine zWc (fun(d:Int×(MixE MBlk×(List (List MBlk)×List (List Int))))=>∃i:Nat,i≤s.length∧d=((i:Int),(.ref 0 0 i i,([(List.range i).map (mI s)],(s.take i).map fun x=>x.2.2.1)))) (fun d=>s.length-d.1.toNat) ?_ ⟨0,Jj _,rfl⟩ (yJw _ _ (by omega))
  rintro d k ⟨i,hi,rfl⟩ hk;dsimp only;by_cases hlt:i<s.length
  · refine zQ9 (decide_eq_true (by simp only[Z.ofN,Z.len];omega)) ?_
    refine zQc (ixN hlt (by omega)) (zQo (getN s hlt _) ?_)
    refine zQp (xWm s[i].1 s[i].2.1 s[i].2.2.1 (C.hd _ (J0 hlt))) ?_;have hql:((s.take i).map fun x=>x.2.2.1).length=i:=by rw[Qg,Kr];omega
    refine zQo (y:=(s.take (i+1)).map fun x=>x.2.2.1) (by rw[Ks hlt,Qr];rfl) ?_
    refine zQc (by simp[Z.XGr,MixE.xgr]) ?_
    refine iteN (by show¬(1:Nat)=0;decide) ?_
    refine iteN (fun h=>?_) ?_
    · have h:2^44<(i+1)*41:=h
      omega
    refine zQo (y:=[(List.range (i+1)).map (mI s)]) ?_ ?_
    · rw[vXo hlt]
      show [(List.range i).map (mI s)].set 0 ([(List.range i).map (mI s)].getD 0 []++[(s[i].1,(s[i].2.1,(Z.xrow ((s.take i).map fun x=>x.2.2.1).length s[i].2.2.1,())))])=_
      rw[hql];rfl
    refine zQo (y:=.ref 0 0 (i+1) (i+1)) rfl ?_;refine zQo (yYm (by omega)) ?_
    exact hk _ ⟨i+1,hlt,rfl⟩ (by show s.length-(((i+1:Nat):Int)).toNat<s.length-((i:Int)).toNat;omega)
  refine zQ0 (decide_eq_false (by simp only[Z.ofN,Z.len];omega)) ?_
  have e:i=s.length:=by omega
  subst e;rw[Q4];clear hk;have hQ:(s.map fun x=>x.2.2.1)=dQ s:=rfl
  rw[hQ];refine zWc (fun(d:Int×(MixE MBlk×(List (List MBlk)×(List (MixE MBlk)×List (List MBlk)))))=>∃k:Nat,k≤H+1∧d=((H:Int)-(k:Int),(.ref k 0 (zY3 H a m s k).length (zY3 H a m s k).length,(Rm H a m s k,(refV (zWq H a m s k),zWq H a m s k))))) (fun d=>(d.1+1).toNat) ?_ ⟨0,Jj _, ?_⟩ (by show((H:Int)+1).toNat<18446744073709551616;omega)
  rotate_left
  · have e0:zWq H a m s 0=List.replicate (H+1) []:=by unfold zWq;rw[xXd,List.map_replicate];rfl
    have e1:(zY3 H a m s 0).length=s.length:=by simp[zY3,zKb]
    rw[e0,e1,←xJm];simp[Z.rep,Z.toN,Rm,zY3,zKb]
  rintro d k ⟨kk,hkk,rfl⟩ hk;dsimp only;have hPl:∀k,(zWq H a m s k).length=H+1:=fun k=>by unfold zWq;rw[Qg,yZd]
  by_cases hlt:kk≤H
  · refine zQ9 (decide_eq_true (by omega)) ?_
    obtain⟨rest_len,rest_in⟩:=yWw H m (dpS H a s) s.length kk;have hn1:=xXe H m (dpS H a s) s.length hlt;have hn2:=xJj H m (dpS H a s) s.length hlt;have hrr:zKb H m (dpS H a s) s.length (kk+1)=(pass m (H-kk) (dpS H a s) (zKb H m (dpS H a s) s.length kk)).2:=rfl
    have hpin:=yKg m (H-kk) (dpS H a s) (zKb H m (dpS H a s) s.length kk);have hps:=fun q (h:q<_)=>yY6 m (H-kk) (dpS H a s) (zKb H m (dpS H a s) s.length kk) (q:=q) h
    obtain⟨r,hr⟩:∃r,r=H-kk:=⟨_,rfl⟩;have er:(H:Int)-(kk:Int)=(r:Int):=by omega
    rw[er];rw[←hr]at hn1 hn2 hrr hpin hps;have hrb:r<H+1:=by omega
    have hRl:=vKs H a m s kk;have hRg:=vKt H a m s kk;have hRs:=uQn H a m s kk;have hre:zY3 H a m s kk=(zKb H m (dpS H a s) s.length kk).map (mI s):=rfl;have hre1:zY3 H a m s (kk+1)=(zKb H m (dpS H a s) s.length (kk+1)).map (mI s):=rfl
    rw[hre1,hrr]at hRs;rw[hre]at hRg⊢;generalize zKb H m (dpS H a s) s.length kk=L at *;have hLb:∀q (h:q<L.length),L[q]<s.length:=fun q h=>rest_in _ (J0 h)
    have init:zWq H a m s kk=(zWq H a m s kk).set r (([]:List Nat).map (mI s)):=by
      unfold zWq;rw[←Q3 (f:=fun l=>List.map (mI s) l),hn2]
    have hLl:(L.map (mI s)).length=L.length:=Qg ..;rw[hLl];refine zWc (fun(d:Int×(MixE MBlk×(List (List MBlk)×(List (MixE MBlk)×List (List MBlk)))))=>∃q:Nat,q≤L.length∧d=((q:Int),(.ref (kk+1) 0 (pass m r (dpS H a s) (L.take q)).2.length (pass m r (dpS H a s) (L.take q)).2.length,(Rm H a m s kk++[(pass m r (dpS H a s) (L.take q)).2.map (mI s)],(refV ((zWq H a m s kk).set r ((pass m r (dpS H a s) (L.take q)).1.map (mI s))),(zWq H a m s kk).set r ((pass m r (dpS H a s) (L.take q)).1.map (mI s))))))) (fun d=>L.length-d.1.toNat) ?_ ⟨0,Jj _, ?_⟩ (yJw _ _ (by omega))
    rotate_left
    · rw[List.take_zero]
      show _=((0:Int),(MixE.ref (kk+1) 0 0 0,(Rm H a m s kk++[[]],(refV ((zWq H a m s kk).set r (List.map (mI s) [])),(zWq H a m s kk).set r (List.map (mI s) [])))));rw[←init,←hRl]
    rintro d k2 ⟨q,hq,rfl⟩ hk2;dsimp only;by_cases hlq:q<L.length
    · refine zQ9 (decide_eq_true (by simp only[Z.ofN,Z.xlen];omega)) ?_
      have hqn:=hps q hlq;obtain⟨p1,p2,p3,p4⟩:=hpin q hq;have hi:=hLb q hlq;generalize pass m r (dpS H a s) (L.take q)=p at *;have hg:((zWq H a m s kk).set r (p.1.map (mI s))).getD r []=p.1.map (mI s):=setD _ (by rw[hPl];omega) _ _
      have hsl:((zWq H a m s kk).set r (p.1.map (mI s))).length=H+1:=by rw[List.length_set];exact hPl kk
      generalize hP:(zWq H a m s kk).set r (p.1.map (mI s))=P at *;have hgR:(Rm H a m s kk++[p.2.map (mI s)]).getD kk []=L.map (mI s):=by
        rw[←hRg,List.getD_eq_getElem?_getD,Qb (by omega),←List.getD_eq_getElem?_getD]
      have hgL:(Rm H a m s kk++[p.2.map (mI s)]).getD (kk+1) []=p.2.map (mI s):=vX7 _ _ hRl.symm;have hR2:(Rm H a m s kk++[p.2.map (mI s)]).length=kk+2:=by rw[Q6,hRl];rfl
      have x1:Z.Ix (q:Int) (Z.xlen (.ref kk 0 L.length L.length:MixE MBlk)):=⟨by omega,by show(q:Int).toNat<L.length;omega⟩
      have x2:Z.XPt (Rm H a m s kk++[p.2.map (mI s)]) (.ref kk 0 L.length L.length:MixE MBlk) (Z.toN (q:Int)):=by
        simp only[Z.XPt,MixE.xpt,hgR,hLl,decide_eq_true (show kk<(Rm H a m s kk++[p.2.map (mI s)]).length by omega)]
        simp[Z.toN,hlq]
      have x3:Z.xat (Rm H a m s kk++[p.2.map (mI s)]) (.ref kk 0 L.length L.length:MixE MBlk) (Z.toN (q:Int)) ((0,(0,((MixE.nil:MixE Int),()))):MBlk)=mI s L[q]:=by
        show((Rm H a m s kk++[p.2.map (mI s)]).getD kk []).getD (0+q) _=_;rw[hgR,Jx];simp[List.getD,hlq]
      refine zQc x1 (zQc x2 (zQc x2 (zQo x3 ?_)));have i1:Z.In (r:Int) (Z.toN ((H+1:Nat):Int)):=inR hrb;have i2:Z.Lt (Z.addN 0 (Z.toN (r:Int))) (Z.len (refV P)):=by
        show 0+r<(refV P).length;rw[zX7];omega
      have hget:=getR (P:=P) (by omega) hg (MixE.nil:MixE MBlk)
      have hpl1:(p.1.map (mI s)).length=p.1.length:=Qg ..;refine zQc i1 (zQc i2 (zQo hget ?_));refine zQo (y:=(m:Int)-(p.1.length:Int)) (by rw[hpl1];exact(wZ0 (by simp only[Z.sub,Z.ofN,Z.xlen];omega))) ?_
      obtain⟨o1,o2,_⟩:=wK8 (vQ7 s hi);refine zQc o1 (zQo o2 ?_);refine zQp (end_sp C hi r _ _ _ _ rfl) ?_;have dec:L.length-((q+1:Nat):Int).toNat<L.length-((q:Int)).toNat:=by omega
      have gr:Z.XGr (Rm H a m s kk++[p.2.map (mI s)]) (.ref (kk+1) 0 p.2.length p.2.length:MixE MBlk):=by
        have hl2:(p.2.map (mI s)).length=p.2.length:=Qg ..;simp only[Z.XGr,MixE.xgr,hgL,hl2,decide_eq_true (show kk+1<(Rm H a m s kk++[p.2.map (mI s)]).length by omega)]
        simp
      have skip:stp m r (dpS H a s) p L[q]=(p.1,p.2++[L[q]])→(if(Z.XGr (Rm H a m s kk++[p.2.map (mI s)]) (.ref (kk+1) 0 p.2.length p.2.length:MixE MBlk))then if(Z.EqN (Z.len (((mI s L[q]).1,((mI s L[q]).2.1,((mI s L[q]).2.2.1,())))::([]:List MBlk))) 0)then Z.bnd (Z.wrap .i64 (Z.add (q:Int) 1)) fun(x55:Int)=>
 k2 (x55,(.ref (kk+1) 0 p.2.length p.2.length,(Rm H a m s kk++[p.2.map (mI s)],(refV P,P))))
 else if(Z.Big (Z.xlen (.ref (kk+1) 0 p.2.length p.2.length:MixE MBlk)) (Z.len (((mI s L[q]).1,((mI s L[q]).2.1,((mI s L[q]).2.2.1,())))::([]:List MBlk))) 40)then none
 else Z.bnd (Z.xapp (Rm H a m s kk++[p.2.map (mI s)]) (.ref (kk+1) 0 p.2.length p.2.length:MixE MBlk) (((mI s L[q]).1,((mI s L[q]).2.1,((mI s L[q]).2.2.1,())))::([]:List MBlk))) fun(x58:List (List MBlk))=>
 Z.bnd (Z.xY5 (.ref (kk+1) 0 p.2.length p.2.length:MixE MBlk) (Z.len (((mI s L[q]).1,((mI s L[q]).2.1,((mI s L[q]).2.2.1,())))::([]:List MBlk)))) fun(x59:MixE MBlk)=>
 Z.bnd (Z.wrap .i64 (Z.add (q:Int) 1)) fun(x60:Int)=>
 k2 (x60,(x59,(x58,(refV P,P))))
 else none)=some (vY2 H a m s):=fun hst=>by
        refine zQc gr ?_;refine iteN (by show¬(1:Nat)=0;decide) ?_
        refine iteN (fun h=>?_) ?_
        · have h:2^44<(p.2.length+1)*41:=h
          omega
        refine zQo (y:=Rm H a m s kk++[(p.2++[L[q]]).map (mI s)]) ?_ ?_
        · show(Rm H a m s kk++[p.2.map (mI s)]).set (kk+1) ((Rm H a m s kk++[p.2.map (mI s)]).getD (kk+1) []++[mI s L[q]])=_
          rw[vX8 _ _ _ hRl.symm,Qr];rfl
        refine zQo (y:=.ref (kk+1) 0 (p.2++[L[q]]).length (p.2++[L[q]]).length) (by rw[Q6];rfl) ?_
        refine zQo (yYm (by omega)) ?_
        refine hk2 _ ⟨q+1,hlq, ?_⟩ dec;rw[hqn,hst,←hP]
      by_cases hfull:p.1.length<m
      · by_cases hdp:r≤dpS H a s L[q]
        · have hst:stp m r (dpS H a s) p L[q]=(p.1++[L[q]],p.2):=if_pos ⟨hfull,hdp⟩
          rw[if_neg (show¬(m:Int)-(p.1.length:Int)=0 by omega),if_neg (show¬dpS H a s L[q]<r by omega)]
          refine zQ0 rfl (zQ0 rfl (zQ9 rfl ?_));refine zQc i1 (zQc i2 (zQo hget ?_));refine zQc ?_ ?_
          · simp only[Z.XGr,MixE.xgr,hg,decide_eq_true (show r<P.length by omega)]
            simp
          refine iteN (by show¬(1:Nat)=0;decide) ?_
          refine iteN (fun h=>?_) ?_
          · have h:2^44<((p.1.map (mI s)).length+1)*41:=h
            rw[hpl1]at h;omega
          have e2:(p.1.map (mI s))++[mI s L[q]]=(p.1++[L[q]]).map (mI s):=by rw[Qr];rfl
          refine zQo (y:=P.set r ((p.1++[L[q]]).map (mI s))) ?_ ?_
          · show P.set r (P.getD r []++[mI s L[q]])=_
            rw[hg,e2]
          refine zQo (y:=.ref r 0 ((p.1++[L[q]]).map (mI s)).length ((p.1++[L[q]]).map (mI s)).length) ?_ ?_
          · show MixE.ref r 0 ((p.1.map (mI s)).length+1) ((p.1.map (mI s)).length+1)=_
            rw[←e2,Q6];rfl
          refine zQc i1 (zQc i2 (zQo (y:=refV (P.set r ((p.1++[L[q]]).map (mI s)))) ?_ ?_))
          · show(refV P).set (0+r) _=_
            rw[Jx,wXu P (by omega)]
          refine zQo (yYm (by omega)) ?_
          refine hk2 _ ⟨q+1,hlq, ?_⟩ dec;rw[hqn,hst,←hP,List.set_set]
        · rw[if_neg (show¬(m:Int)-(p.1.length:Int)=0 by omega),if_pos (show dpS H a s L[q]<r by omega)]
          exact zQ0 rfl (zQ9 rfl (skip (if_neg fun h=>hdp h.2)))
      · rw[if_pos (show(m:Int)-(p.1.length:Int)=0 by omega)]
        exact zQ9 rfl (skip (if_neg fun h=>hfull h.1))
    · refine zQ0 (decide_eq_false (by simp only[Z.ofN,Z.xlen];omega)) ?_
      have e:q=L.length:=by omega
      subst e;rw[Q4];refine zQo (y:=(r:Int)-1) (wZ0 (by simp only[Z.sub];omega)) ?_
      refine hk _ ⟨kk+1,by omega, ?_⟩ (by show((r:Int)-1+1).toNat<((H:Int)-(kk:Int)+1).toNat;omega)
      have e3:(zWq H a m s kk).set r ((pass m r (dpS H a s) L).1.map (mI s))=zWq H a m s (kk+1):=by
        unfold zWq;rw[←Q3 (f:=fun l=>List.map (mI s) l),hn1]
      have e4:(zY3 H a m s (kk+1)).length=(pass m r (dpS H a s) L).2.length:=by rw[hre1,hrr,Qg]
      rw[e3,←hRs,e4];congr 1;omega
  · refine zQ0 (decide_eq_false (by omega)) ?_
    have e:kk=H+1:=by omega
    subst e;exact zQc rfl (zQc (by show H+1=(refV _).length;rw[zX7,hPl]) rfl)
end
end Go.Proofs.Ytoceaomlohgkkaa
