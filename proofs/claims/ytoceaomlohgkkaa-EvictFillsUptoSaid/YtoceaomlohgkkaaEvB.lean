/- Filling rows: the document's way. -/
import Derived.Test.YtoceaomlohgkkaaEvA
namespace Go.Proofs.Ytoceaomlohgkkaa
open Go.Eng
set_option linter.unusedVariables false
set_option linter.unusedSimpArgs false
structure Ctx (B S W:Int) (H a m:Nat) (s:List Blk):Prop where
 h1:1≤H
 h2:H≤6
 ha:a<2^H
 hm:zXn B S (H:Int) W=((m:Int),0)
 m4:m≤4
 hs:∀x∈s,∃b:Nat,x.2.1=(b:Int)∧b<2^H
 hd:∀x∈s,x.2.2.1.length≤2000000
 hl:s.length≤1000
noncomputable def dpS(H a:Nat)(s:List Blk)(i:Nat):Nat:=dpN H (bI s i).2.1.toNat a
section
variable {B S W:Int} {H a m:Nat} {s:List Blk}
theorem vQc(C:Ctx B S W H a m s){b:Nat}(hb:b<2^H):isL (H:Int) (b:Int)=true:=by
 refine wQ9.2 ⟨zY8.2 ⟨by have:=C.h1;omega,by have:=C.h2;omega⟩,by omega, ?_⟩
 show(b:Int)<2^H
 exact_mod_cast hb
theorem wZv(C:Ctx B S W H a m s){i:Nat}(hi:i<s.length):∃b:Nat,(bI s i).2.1=(b:Int)∧b<2^H∧dpS H a s i=dpN H b a:=by
 rw[vWv s hi];obtain⟨b,h1,h2⟩:=C.hs _ (J0 hi);refine⟨b,h1,h2, ?_⟩;unfold dpS;rw[vWv s hi,h1];rfl
theorem end_sp(C:Ctx B S W H a m s){i:Nat}(hi:i<s.length)(row:Nat)(left:Int)(f0 f1:Int)(d:List Int)(hf:f1=(bI s i).2.1):yZy ((B,(S,((H:Int),(W,())))),((f0,(f1,(d,()))),((a:Int),((row:Int),left))))=some (if left=0 then 2 else if dpS H a s i<row then 1 else 0):=by
 subst hf;obtain⟨b,e1,e2,e3⟩:=wZv C hi;unfold yZy;dsimp only;by_cases h0:left=0
 ·rw[if_pos h0];exact zQ9 (by simp[Z.ieq,h0]) rfl
 ·rw[if_neg h0]
  refine zQ0 (by simp[Z.ieq,h0]) ?_
  obtain⟨d1,d2,d3⟩:=wZp e2 C.ha;rw[e1];refine zQp (xKj C.h1 C.h2 e2 C.ha (vQc C e2) (vQc C C.ha) d1 d2 d3) ?_;rw[e3];by_cases h:dpN H b a<row
  ·rw[if_pos h];exact zQ9 (decide_eq_true (by show((dpN H b a:Nat):Int)<row;omega)) rfl
  ·rw[if_neg h];exact zQ0 (decide_eq_false (by show¬((dpN H b a:Nat):Int)<row;omega)) rfl
theorem vXx(C:Ctx B S W H a m s){i:Nat}(hi:i<s.length)(row:Nat)(f0 f1:Int)(d:List Int)(hf:f1=(bI s i).2.1):yZe ((B,(S,((H:Int),(W,())))),((f0,(f1,(d,()))),((a:Int),(row:Int))))=some (decide (row≤dpS H a s i)):=by
 subst hf;obtain⟨b,e1,e2,e3⟩:=wZv C hi;unfold yZe;obtain⟨d1,d2,d3⟩:=wZp e2 C.ha;dsimp only;rw[e1,e3];refine zQp (yY0 C.h1 C.h2 e2 C.ha d1 d2 d3) ?_;congr 1;simp only[Z.ige]
 by_cases h:row≤dpN H b a
 ·rw[decide_eq_true h];exact decide_eq_true (by omega)
 ·rw[decide_eq_false h];exact decide_eq_false (by omega)
theorem xW3(s:List Blk)(hd:∀x∈s,x.2.2.1.length≤2000000)(hl:s.length≤1000):zZ1 s=some s:=by
 unfold zZ1;refine zQc rfl ?_;refine zWc (fun(d:List Blk×Int)=>∃i:Nat,i≤s.length∧d=(s.take i,(i:Int))) (fun d=>s.length-d.2.toNat) ?_ ⟨0,Jj _,rfl⟩ (yJw _ _ (by omega))
 rintro d k ⟨i,hi,rfl⟩ hk;dsimp only;by_cases hlt:i<s.length
 ·refine zQ9 (decide_eq_true (by simp only[Z.ofN,Z.len];omega)) ?_
  refine zQc (ixN hlt (by omega)) (zQo (getN s hlt _) ?_)
  refine zQp (yYy s[i].1 s[i].2.1 s[i].2.2.1 (hd _ (J0 hlt))) ?_;refine zQc (Qf _) ?_;refine iteN (fun h=>?_) ?_
  ·have h:2^44<((s.take i).length+1)*41:=h
   rw[Kr]at h;omega
  refine zQc rfl ?_;refine zQo (y:=s.take (i+1)) (by rw[Ks hlt];rfl) ?_
  refine zQo (yYm (by omega)) (zQc rfl ?_)
  exact hk _ ⟨i+1,hlt,rfl⟩ (by show s.length-(((i+1:Nat):Int)).toNat<s.length-((i:Int)).toNat;omega)
 ·refine zQ0 (decide_eq_false (by simp only[Z.ofN,Z.len];omega)) ?_
  rw[Q8 (by omega)]
noncomputable def zZm(H a m:Nat)(s:List Blk)(k:Nat):List (List Blk):=(zJf H m (dpS H a s) s.length k).map fun l=>l.map (bI s)
noncomputable def wKc(H a m:Nat)(s:List Blk)(k:Nat):List Blk:=(zKb H m (dpS H a s) s.length k).map (bI s)
theorem setD{α:Type}(l:List α){r:Nat}(h:r<l.length)(v z:α):(l.set r v).getD r z=v:=by
 rw[List.getD_eq_getElem?_getD,Qj h];rfl
theorem getR{α:Type}{P:List (List α)}{r:Nat}(h:r<P.length){v:List α}(e:P.getD r []=v)(z:MixE α):Z.get (refV P) (Z.addN 0 (Z.toN (r:Int))) z=.ref r 0 v.length v.length:=by
 show(refV P).getD (0+r) z=_;rw[Jx,wXv P h];have:P[r]=v:=by rw[←e];simp[List.getD,h]
 rw[this]
theorem inR{r n:Nat}(h:r<n):Z.In (r:Int) n:=⟨by omega,by omega⟩
theorem wYt (C:Ctx B S W H a m s):zJy ((B,(S,((H:Int),(W,())))),(s,(a:Int)))=some (zZm H a m s (H+1),wKc H a m s (H+1)):=by
  have hH:=C.h2;have hl:=C.hl;have hm4:=C.m4;unfold zJy;dsimp only;refine zQo (y:=((H+1:Nat):Int)) (Z.zZy (by omega)) ?_
  refine zQc (Z.zJ4.2 ⟨by omega,Int.le_refl _,by omega,by omega⟩) ?_
  refine zQp (xW3 s C.hd hl) ?_;refine zWc (fun(d:List Blk×(Int×(List (MixE Blk)×List (List Blk))))=>∃k:Nat,k≤H+1∧d=(wKc H a m s k,((H:Int)-(k:Int),(refV (zZm H a m s k),zZm H a m s k)))) (fun d=>(d.2.1+1).toNat) ?_ ⟨0,Jj _, ?_⟩ (by show((H:Int)+1).toNat<18446744073709551616;omega)
  rotate_left
  · have e0:zZm H a m s 0=List.replicate (H+1) []:=by unfold zZm;rw[xXd,List.map_replicate];rfl
    have e1:wKc H a m s 0=s:=bI_all s;rw[e0,e1,←xJm];simp[Z.rep,Z.toN]
  rintro d k ⟨kk,hkk,rfl⟩ hk;dsimp only;have hPl:∀k,(zZm H a m s k).length=H+1:=fun k=>by unfold zZm;rw[Qg,yZd]
  by_cases hlt:kk≤H
  · refine zQ9 (decide_eq_true (by omega)) ?_
    refine zQc rfl ?_;obtain⟨rest_len,rest_in⟩:=yWw H m (dpS H a s) s.length kk;have hn1:=xXe H m (dpS H a s) s.length hlt;have hn2:=xJj H m (dpS H a s) s.length hlt
    have hrr:zKb H m (dpS H a s) s.length (kk+1)=(pass m (H-kk) (dpS H a s) (zKb H m (dpS H a s) s.length kk)).2:=rfl;have hpin:=yKg m (H-kk) (dpS H a s) (zKb H m (dpS H a s) s.length kk)
    have hps:=fun q (h:q<_)=>yY6 m (H-kk) (dpS H a s) (zKb H m (dpS H a s) s.length kk) (q:=q) h
    obtain⟨r,hr⟩:∃r,r=H-kk:=⟨_,rfl⟩;have er:(H:Int)-(kk:Int)=(r:Int):=by omega
    rw[er];rw[←hr]at hn1 hn2 hrr hpin hps;have hrb:r<H+1:=by omega
    unfold wKc;generalize zKb H m (dpS H a s) s.length kk=L at *;have hLb:∀q (h:q<L.length),L[q]<s.length:=fun q h=>rest_in _ (J0 h)
    have init:zZm H a m s kk=(zZm H a m s kk).set r (([]:List Nat).map (bI s)):=by
      unfold zZm;rw[←Q3 (f:=fun l=>List.map (bI s) l),hn2]
    refine zWc (fun(d:List Blk×(Int×(List (MixE Blk)×List (List Blk))))=>∃q:Nat,q≤L.length∧d=((pass m r (dpS H a s) (L.take q)).2.map (bI s),((q:Int),(refV ((zZm H a m s kk).set r ((pass m r (dpS H a s) (L.take q)).1.map (bI s))),(zZm H a m s kk).set r ((pass m r (dpS H a s) (L.take q)).1.map (bI s)))))) (fun d=>L.length-d.2.1.toNat) ?_ ⟨0,Jj _,by rw[List.take_zero];show _=(List.map (bI s) [],((0:Int),(refV ((zZm H a m s kk).set r (List.map (bI s) [])),(zZm H a m s kk).set r (List.map (bI s) []))));rw[←init];rfl⟩ (yJw _ _ (by omega))
    rintro d k2 ⟨q,hq,rfl⟩ hk2;dsimp only;have hql:Z.len (L.map (bI s))=L.length:=Qg ..;by_cases hlq:q<L.length
    · refine zQ9 (decide_eq_true (by rw[hql];simp only[Z.ofN];omega)) ?_
      have hqn:=hps q hlq;obtain⟨p1,p2,p3,p4⟩:=hpin q hq;have hi:=hLb q hlq;generalize pass m r (dpS H a s) (L.take q)=p at *;have hsl:((zZm H a m s kk).set r (p.1.map (bI s))).length=H+1:=by rw[List.length_set];exact hPl kk
      have hg:((zZm H a m s kk).set r (p.1.map (bI s))).getD r []=p.1.map (bI s):=setD _ (by rw[hPl];omega) _ _
      generalize hP:(zZm H a m s kk).set r (p.1.map (bI s))=P at *;have i1:Z.In (r:Int) (Z.toN ((H+1:Nat):Int)):=inR hrb;have i2:Z.Lt (Z.addN 0 (Z.toN (r:Int))) (Z.len (refV P)):=by
        show 0+r<(refV P).length;rw[zX7];omega
      have hget:=getR (P:=P) (by omega) hg (MixE.nil:MixE Blk)
      have hpl1:(p.1.map (bI s)).length=p.1.length:=Qg ..;refine zQc i1 (zQc i2 (zQo hget ?_));refine zQp ((yQx B S (H:Int) W).trans (by rw[C.hm])) ?_
      have hbx:(L.map (bI s))[q]'(by simpa using hlq)=bI s L[q]:=by simp
      have gx:Z.get (L.map (bI s)) (Z.toN (q:Int)) ((0,(0,(([]:List Int),()))):Blk)=bI s L[q]:=by
        rw[getN _ (by simpa using hlq),hbx]
      have ix:Z.Ix (q:Int) (Z.len (L.map (bI s))):=ixN (by simpa using hlq) (by rw[Qg];omega)
      have dec:L.length-((q+1:Nat):Int).toNat<L.length-((q:Int)).toNat:=by omega
      have skip:stp m r (dpS H a s) p L[q]=(p.1,p.2++[L[q]])→
          (if(Z.Ix (q:Int) (Z.len (L.map (bI s))))then Z.bnd (Z.get (L.map (bI s)) (Z.toN (q:Int)) (0,(0,(([]:List (Int)),())))) fun(x57:(Int)×((Int)×((List (Int))×(Unit))))=>
 if(Z.Le (Z.addN 0 1) (Z.len ((x57.1,(x57.2.1,(x57.2.2.1,())))::([]:List ((Int)×((Int)×((List (Int))×(Unit))))))))then if(Z.Big (Z.len (p.2.map (bI s))) (Z.len (Z.seg ((x57.1,(x57.2.1,(x57.2.2.1,())))::([]:List ((Int)×((Int)×((List (Int))×(Unit)))))) 0 1)) 40)then none
 else if(Z.EqN (Z.len (p.2.map (bI s))) (Z.len (p.2.map (bI s))))then Z.bnd (Z.app (p.2.map (bI s)) (Z.seg ((x57.1,(x57.2.1,(x57.2.2.1,())))::([]:List ((Int)×((Int)×((List (Int))×(Unit)))))) 0 1)) fun(x64:List ((Int)×((Int)×((List (Int))×(Unit)))))=>
 Z.bnd (Z.wrap .i64 (Z.add (q:Int) 1)) fun(x65:Int)=>
 if(Z.EqN (Z.len x64) (Z.len x64))then k2 (x64,(x65,(refV P,P)))
 else none
 else none
 else none
 else none)=some (zZm H a m s (H+1),(zKb H m (dpS H a s) s.length (H+1)).map (bI s)):=fun hst=>by
        refine zQc ix (zQo gx ?_);refine zQc (Qf _) ?_;refine iteN (fun h=>?_) ?_
        · have h:2^44<((p.2.map (bI s)).length+1)*41:=h
          rw[Qg]at h;omega
        refine zQc rfl (zQo (y:=(p.2++[L[q]]).map (bI s)) (by rw[Qr];rfl) ?_)
        refine zQo (yYm (by omega)) (zQc rfl ?_)
        refine hk2 _ ⟨q+1,hlq, ?_⟩ dec;rw[hqn,hst,←hP]
      by_cases hfull:p.1.length<m
      · refine zQ9 (decide_eq_true (by rw[hpl1];simp only[Z.ofN,Z.xlen];omega)) ?_
        refine zQc ix (zQo gx ?_);refine zQp (vXx C hi r _ _ _ rfl) ?_;by_cases hdp:r≤dpS H a s L[q]
        · rw[decide_eq_true hdp]
          refine zQ9 rfl ?_;have hst:stp m r (dpS H a s) p L[q]=(p.1++[L[q]],p.2):=if_pos ⟨hfull,hdp⟩;refine zQc i1 (zQc i2 (zQo hget ?_));refine zQc ix (zQo gx ?_)
          refine zQc (Qf _) ?_;refine zQc ?_ ?_
          · simp only[Z.XGr,MixE.xgr,hg,decide_eq_true (show r<P.length by omega)]
            simp
          refine iteN (by show¬(1:Nat)=0;decide) ?_
          refine iteN (fun h=>?_) ?_
          · have h:2^44<((p.1.map (bI s)).length+1)*41:=h
            rw[Qg]at h;omega
          have e2:(p.1.map (bI s))++[bI s L[q]]=(p.1++[L[q]]).map (bI s):=by rw[Qr];rfl
          refine zQo (y:=P.set r ((p.1++[L[q]]).map (bI s))) ?_ ?_
          · show P.set r (P.getD r []++[bI s L[q]])=_
            rw[hg,e2]
          refine zQo (y:=.ref r 0 ((p.1++[L[q]]).map (bI s)).length ((p.1++[L[q]]).map (bI s)).length) ?_ ?_
          · show MixE.ref r 0 ((p.1.map (bI s)).length+1) ((p.1.map (bI s)).length+1)=_
            rw[←e2,Q6];rfl
          refine zQc i1 (zQc i2 (zQo (y:=refV (P.set r ((p.1++[L[q]]).map (bI s)))) ?_ ?_))
          · show(refV P).set (0+r) _=_
            rw[Jx,wXu P (by omega)]
          refine zQo (yYm (by omega)) (zQc rfl ?_)
          refine hk2 _ ⟨q+1,hlq, ?_⟩ dec;rw[hqn,hst,←hP,List.set_set]
        · rw[decide_eq_false hdp]
          refine zQ0 rfl (skip (if_neg fun h=>hdp h.2))
      ·refine zQ0 (decide_eq_false (by rw[hpl1];simp only[Z.ofN,Z.xlen];omega)) (skip (if_neg fun h=>hfull h.1))
    · refine zQ0 (decide_eq_false (by rw[hql];simp only[Z.ofN];omega)) ?_
      have e:q=L.length:=by omega
      subst e;rw[Q4];refine zQo (y:=(r:Int)-1) (wZ0 (by simp only[Z.sub];omega)) ?_
      refine hk _ ⟨kk+1,by omega, ?_⟩ (by show((r:Int)-1+1).toNat<((H:Int)-(kk:Int)+1).toNat;omega)
      have e3:(zZm H a m s kk).set r ((pass m r (dpS H a s) L).1.map (bI s))=zZm H a m s (kk+1):=by
        unfold zZm;rw[←Q3 (f:=fun l=>List.map (bI s) l),hn1]
      rw[e3];unfold wKc;rw[hrr];congr 2;omega
  · refine zQ0 (decide_eq_false (by omega)) ?_
    have e:kk=H+1:=by omega
    subst e;refine zQc (by show 0+(H+1)≤(refV _).length;rw[zX7,hPl];omega) ?_
    have es:Z.seg (refV (zZm H a m s (H+1))) 0 (Z.toN ((H+1:Nat):Int))=refV (zZm H a m s (H+1)):=by
      show((refV _).drop 0).take (H+1)=_;rw[J1,Q8 (by rw[zX7,hPl];exact Qf _)]
    rw[es];exact zQp (wYj _) rfl
end
end Go.Proofs.Ytoceaomlohgkkaa
