/- Stashes in rows: seen as data, and written over. -/
import Derived.Test.YtampmlalpifkoaaStashH
namespace Go.Proofs.Ytampmlalpifkoaa
open Go.Eng
set_option linter.unusedVariables false
set_option linter.unusedSimpArgs false
theorem yQi{α:Type}(l:List α)(i j:Nat)(v z:α):(l.set i v).getD j z=if i=j∧i<l.length then v else l.getD j z:=by
 simp only[List.getD_eq_getElem?_getD,Wt];by_cases h:i=j
 ·subst h
  by_cases h2:i<l.length
  ·simp[h2]
  ·simp[h2]
 ·simp[h]
abbrev zN:MBlk:=(0,(0,((MixE.nil:MixE Int),())))
def Bs(Q0:List (List Int))(P0:List (List MBlk)):Prop:=∀r j,j<(P0.getD r []).length→∃(i:Nat) (d:List Int),i<Q0.length∧(Q0.getD i []).length=d.length∧d.length≤2000000∧((P0.getD r []).getD j zN).2.2.1=Z.xrow i d
structure Sp (Q0:List (List Int)) (P0:List (List MBlk)) (Q:List (List Int)) (P:List (List MBlk)):Prop where
 q1:Q.length=Q0.length
 q2:∀j,(Q.getD j []).length=(Q0.getD j []).length
 p1:P.length=P0.length
 p2:∀r,(P.getD r []).length=(P0.getD r []).length
 p3:∀r j,((P.getD r []).getD j zN).2.2.1=((P0.getD r []).getD j zN).2.2.1
theorem Sp.refl(Q0:List (List Int))(P0:List (List MBlk)):Sp Q0 P0 Q0 P0:=⟨rfl,fun _=>rfl,rfl,fun _=>rfl,fun _ _=>rfl⟩
theorem Sp.setQ{Q0:List (List Int)}{P0:List (List MBlk)}{Q:List (List Int)}{P:List (List MBlk)}(h:Sp Q0 P0 Q P)(i k:Nat)(x:Int):Sp Q0 P0 (Q.set i ((Q.getD i []).set k x)) P:=by
 refine⟨by rw[Kh];exact h.q1,fun j=>?_,h.p1,h.p2,h.p3⟩
 rw[yQi];split
 ·rename_i hh
  rw[Kh,hh.1];exact h.q2 j
 ·exact h.q2 j
theorem Sp.setP{Q0:List (List Int)}{P0:List (List MBlk)}{Q:List (List Int)}{P:List (List MBlk)}(h:Sp Q0 P0 Q P)(r j:Nat)(v:MBlk)(hv:v.2.2.1=((P.getD r []).getD j zN).2.2.1):Sp Q0 P0 Q (P.set r ((P.getD r []).set j v)):=by
 refine⟨h.q1,h.q2,by rw[Kh];exact h.p1,fun i=>?_,fun i k=>?_⟩
 ·rw[yQi]
  split
  ·rename_i hh
   rw[Kh,hh.1];exact h.p2 i
  ·exact h.p2 i
 ·rw[yQi]
  split
  ·rename_i hh
   rw[yQi];split
   ·rename_i h2
    rw[hv,hh.1,h2.1];exact h.p3 i k
   ·rw[hh.1];exact h.p3 i k
  ·exact h.p3 i k
theorem spoil1{β:Type}(r n:Nat)(Q0:List (List Int))(P0:List (List MBlk))(fin:Int×(List (List Int)×List (List MBlk))→Option β)(res:β)(hb:Bs Q0 P0)(hr:r<P0.length)(hn:(P0.getD r []).length=n)(hnb:n≤1000000)(hfin:∀(j:Int) Q P,Sp Q0 P0 Q P→fin (j,(Q,P))=some res)(Q:List (List Int))(P:List (List MBlk))(hS:Sp Q0 P0 Q P):Z.loop (fun(s36:(Int)×((List (List (Int)))×(List (List MBlk)))) k37=>
 (bif (Z.ilt s36.1 (Z.ofN (Z.xlen (.ref r 0 n n:MixE MBlk))))then if(Z.Ix s36.1 (Z.xlen (.ref r 0 n n:MixE MBlk)))then if(Z.XPt s36.2.2 (.ref r 0 n n) (Z.toN s36.1))then if(Z.XPt s36.2.2 (.ref r 0 n n) (Z.toN s36.1))then if(Z.XPt s36.2.2 (.ref r 0 n n) (Z.toN s36.1))then Z.bnd (Z.xat s36.2.2 (.ref r 0 n n) (Z.toN s36.1) (0,(0,((MixE.nil:MixE (Int)),())))) fun(x46:MBlk)=>
 Z.bnd (Z.xset s36.2.2 (.ref r 0 n n) (Z.toN s36.1) ((-7),(x46.2.1,(x46.2.2.1,())))) fun(x47:List (List MBlk))=>
 Z.loop (fun(s48:(Int)×(List (List (Int)))) k49=>
 if(Z.Ix s36.1 (Z.xlen (.ref r 0 n n:MixE MBlk)))then if(Z.XPt x47 (.ref r 0 n n) (Z.toN s36.1))then if(Z.XPt x47 (.ref r 0 n n) (Z.toN s36.1))then if(Z.XPt x47 (.ref r 0 n n) (Z.toN s36.1))then Z.bnd (Z.xat x47 (.ref r 0 n n) (Z.toN s36.1) (0,(0,((MixE.nil:MixE (Int)),())))) fun(x58:MBlk)=>
 (bif (Z.ilt s48.1 (Z.ofN (Z.xlen x58.2.2.1)))then if(Z.Ix s36.1 (Z.xlen (.ref r 0 n n:MixE MBlk)))then if(Z.XPt x47 (.ref r 0 n n) (Z.toN s36.1))then if(Z.XPt x47 (.ref r 0 n n) (Z.toN s36.1))then if(Z.XPt x47 (.ref r 0 n n) (Z.toN s36.1))then Z.bnd (Z.xat x47 (.ref r 0 n n) (Z.toN s36.1) (0,(0,((MixE.nil:MixE (Int)),())))) fun(x67:MBlk)=>
 if(Z.Ix s36.1 (Z.xlen (.ref r 0 n n:MixE MBlk)))then if(Z.XPt x47 (.ref r 0 n n) (Z.toN s36.1))then if(Z.XPt x47 (.ref r 0 n n) (Z.toN s36.1))then if(Z.XPt x47 (.ref r 0 n n) (Z.toN s36.1))then Z.bnd (Z.xat x47 (.ref r 0 n n) (Z.toN s36.1) (0,(0,((MixE.nil:MixE (Int)),())))) fun(x76:MBlk)=>
 if(Z.Ix s48.1 (Z.xlen x76.2.2.1))then if(Z.XPt s48.2 x76.2.2.1 (Z.toN s48.1))then if(Z.XPt s48.2 x76.2.2.1 (Z.toN s48.1))then Z.bnd (Z.xat s48.2 x76.2.2.1 (Z.toN s48.1) 0) fun(x83:Int)=>
 Z.bnd (Z.wrap .u8 (Z.add x83 1)) fun(x84:Int)=>
 if(Z.Ix s48.1 (Z.xlen x67.2.2.1))then if(Z.XPt s48.2 x67.2.2.1 (Z.toN s48.1))then if(Z.XPt s48.2 x67.2.2.1 (Z.toN s48.1))then Z.bnd (Z.xset s48.2 x67.2.2.1 (Z.toN s48.1) x84) fun(x91:List (List (Int)))=>
 Z.bnd (Z.wrap .i64 (Z.add s48.1 1)) fun(x92:Int)=>
 k49 (x92,x91)
 else none
 else none
 else none
 else none
 else none
 else none
 else none
 else none
 else none
 else none
 else none
 else none
 else none
 else none
 else Z.bnd (Z.wrap .i64 (Z.add s36.1 1)) fun(x93:Int)=>
 k37 (x93,(s48.2,x47)))
 else none
 else none
 else none
 else none) (0,s36.2.1)
 else none
 else none
 else none
 else none
 else fin s36)) (0,(Q,P))=some res:=by
  refine zWx (fun(d:Int×(List (List Int)×List (List MBlk)))=>∃(j:Nat) (Q:List (List Int)) (P:List (List MBlk)),j≤n∧d=((j:Int),(Q,P))∧Sp Q0 P0 Q P) (fun d=>n-d.1.toNat) ?_ ⟨0,Q,P,Jd _,rfl,hS⟩ (yW3 _ _ (by omega))
  rintro d k ⟨j,Q,P,hj,rfl,hS⟩ hk;dsimp only;by_cases hlt:j<n
  · refine zQq (Qu (by simp only[Z.ofN,Z.xlen];omega)) ?_
    have x1:Z.Ix (j:Int) (Z.xlen (.ref r 0 n n:MixE MBlk)):=⟨by omega,by show(j:Int).toNat<n;omega⟩
    have pt:∀P,Sp Q0 P0 Q P→Z.XPt P (.ref r 0 n n:MixE MBlk) (Z.toN (j:Int)):=fun P h=>by
      have e:=h.p2 r;rw[hn]at e;have hl:=h.p1;simp only[Z.XPt,MixE.xpt,e,Qu (show r<P.length by omega)]
      simp[Z.toN,hlt]
    have pt0:=pt P hS;refine zQb x1 (zQb pt0 (zQb pt0 (zQb pt0 (zQi (y:=(P.getD r []).getD j zN) (by show(P.getD r []).getD (0+j) _=_;rw[Jo]) ?_))))
    obtain⟨v,hv⟩:∃v:MBlk,v=((-7:Int),(((P.getD r []).getD j zN).2.1,(((P.getD r []).getD j zN).2.2.1,()))):=⟨_,rfl⟩;refine zQi (y:=P.set r ((P.getD r []).set j v)) (by rw[hv];show P.set r ((P.getD r []).set (0+j) _)=_;rw[Jo]) ?_
    have hS2:Sp Q0 P0 Q (P.set r ((P.getD r []).set j v)):=hS.setP r j v (by rw[hv])
    have hPl:r<P.length:=by have:=hS.p1;omega
    have hrl:(P.getD r []).length=n:=(hS.p2 r).trans hn;have xa:Z.xat (P.set r ((P.getD r []).set j v)) (.ref r 0 n n:MixE MBlk) (Z.toN (j:Int)) (0,(0,((MixE.nil:MixE (Int)),())))=v:=by
      show((P.set r ((P.getD r []).set j v)).getD r []).getD (0+j) _=v;rw[Jo,yQi,Qf ⟨rfl,hPl⟩,yQi,Qf ⟨rfl,by omega⟩]
    obtain⟨i,dd,hi,hdl,hdb,hdd⟩:=hb r j (by omega)
    have hvd:v.2.2.1=Z.xrow i dd:=by rw[hv];exact(hS.p3 r j).trans hdd
    generalize P.set r ((P.getD r []).set j v)=P2 at *;have hxl:Z.xlen (Z.xrow i dd)=dd.length:=by
      by_cases h0:dd.length=0
      · have:dd=[]:=Qr.1 h0
        subst this;rfl
      ·unfold Z.xrow;rw[Qi h0]
    refine zWx (fun(d:Int×List (List Int))=>∃(q:Nat) (Q:List (List Int)),q≤dd.length∧d=((q:Int),Q)∧Sp Q0 P0 Q P2) (fun d=>dd.length-d.1.toNat) ?_ ⟨0,Q,Jd _,rfl,hS2⟩ (yW3 _ _ (by omega))
    rintro d k2 ⟨q,Q2,hq,rfl,hT⟩ hk2;dsimp only;have pt2:Z.XPt P2 (.ref r 0 n n:MixE MBlk) (Z.toN (j:Int)):=by
      have e:=hT.p2 r;rw[hn]at e;have hl:=hT.p1;simp only[Z.XPt,MixE.xpt,e,Qu (show r<P2.length by omega)]
      simp[Z.toN,hlt]
    refine zQb x1 (zQb pt2 (zQb pt2 (zQb pt2 (zQi xa ?_))));rw[hvd];by_cases hql:q<dd.length
    · refine zQq (Qu (by rw[hxl];simp only[Z.ofN];omega)) ?_
      refine zQb x1 (zQb pt2 (zQb pt2 (zQb pt2 (zQi xa ?_))));refine zQb x1 (zQb pt2 (zQb pt2 (zQb pt2 (zQi xa ?_))));rw[hvd];have y1:Z.Ix (q:Int) (Z.xlen (Z.xrow i dd)):=⟨by omega,by rw[hxl];show(q:Int).toNat<_;omega⟩
      have er:Z.xrow i dd=.ref i 0 dd.length dd.length:=by unfold Z.xrow;rw[Qi (by omega)]
      have hQi:(Q2.getD i []).length=dd.length:=(hT.q2 i).trans hdl;have hQl:i<Q2.length:=by have:=hT.q1;omega
      have y2:Z.XPt Q2 (Z.xrow i dd) (Z.toN (q:Int)):=by
        rw[er];simp only[Z.XPt,MixE.xpt,hQi,Qu hQl];simp[Z.toN,hql]
      refine zQb y1 (zQb y2 (zQb y2 (zQi rfl (zQi rfl ?_))));generalize Z.wrap .u8 _=z;refine zQb y1 (zQb y2 (zQb y2 (zQi (y:=Q2.set i ((Q2.getD i []).set q z)) ?_ ?_)))
      · rw[er]
        show Q2.set i ((Q2.getD i []).set (0+q) z)=_;rw[Jo]
      refine zQi (zY5 (by omega)) ?_
      exact hk2 _ ⟨q+1,_,hql,rfl,hT.setQ i q z⟩ (by show dd.length-((q+1:Nat):Int).toNat<dd.length-((q:Int)).toNat;omega)
    · refine zQs (Qx (by rw[hxl];simp only[Z.ofN];omega)) ?_
      refine zQi (zY5 (by omega)) ?_
      exact hk _ ⟨j+1,Q2,P2,hlt,rfl,hT⟩ (by show n-((j+1:Nat):Int).toNat<n-((j:Int)).toNat;omega)
  · refine zQs (Qx (by simp only[Z.ofN,Z.xlen];omega)) ?_
    exact hfin _ Q P hS
theorem rp_bs{Q:List (List Int)}{l:List IB}(hQ:InQ Q l):Bs Q [l.map mkI]:=by
 intro r j hj;have hr:r=0:=by
  by_cases h:r=0
  ·exact h
  ·have:([l.map mkI]:List (List MBlk)).getD r []=[]:=by
    rw[List.getD_eq_getElem?_getD,J2 (by simp;omega)];rfl
   rw[this]at hj;simp at hj
 subst hr;have e:([l.map mkI]:List (List MBlk)).getD 0 []=l.map mkI:=rfl;rw[e]at hj⊢;have hjl:j<l.length:=by rw[Qh]at hj;exact hj
 obtain⟨q1,q2⟩:=hQ _ (Ka hjl);have hq:=(List.getElem?_eq_some_iff.1 q1).1;refine⟨l[j].2,l[j].1.2.2.1,hq, ?_,q2, ?_⟩
 ·rw[List.getD_eq_getElem?_getD,q1];rfl
 ·simp[List.getD,hjl,mkI]
theorem wQs{α β:Type}{f:α→Option β}:∀{l:List α} {r:List β},l.length=r.length→(∀(i:Nat) (h:i<l.length) (h':i<r.length),f l[i]=some r[i])→Z.mapO f l=some r
 |[],[],_,_=>rfl
 |[],_::_,h,_=>by simp at h
 |_::_,[],h,_=>by simp at h
 |x::l,y::r,h,hf=>by
  show List.mapM f (x::l)=_;rw[K7];have h0:f x=some y:=hf 0 (by simp) (by simp)
  have ih:List.mapM f l=some r:=wQs (by simpa using h) fun i h1 h2=>hf (i+1) (by simp;omega) (by simp;omega)
  rw[h0,ih];rfl
theorem xKs{β:Type}{Q:List (List Int)}{P:List (List MBlk)}{d:MixE MBlk}{o:List Blk}{r:β}{fin:List Blk→Option β}(h:Rp Q P d o)(hfin:fin o=some r):
    (if(Z.XOk P d)then Z.bind (Z.mapO (fun(e20:MBlk)=>
 if(Z.XOk Q e20.2.2.1)then Z.bnd (Z.xget Q e20.2.2.1) fun(x23:List (Int))=>
 some (e20.1,(e20.2.1,(x23,e20.2.2.2)))
 else none) (Z.xget P d)) fun(x24:List Blk)=>fin x24
 else none)=some r:=by
  rcases h with⟨rfl,rfl⟩|⟨l,rfl,rfl,rfl,hQ⟩
  ·exact zQb (by simp[Z.XOk,MixE.xok]) (zQh (y:=[]) rfl hfin)
  · refine zQb (r1_ok _) ?_
    rw[vYk];refine zQh (y:=l.map (·.1)) (wQs (by simp) fun i h1 h2=>?_) hfin
    have hi:i<l.length:=by simpa using h2
    obtain⟨q1,_⟩:=hQ _ (Ka hi);obtain⟨o1,o2,_⟩:=wY0 q1;have e:(l.map mkI)[i]=mkI l[i]:=by simp
    have e2:(l.map (·.1))[i]=l[i].1:=by simp
    rw[e,e2];exact zQb o1 (zQi o2 rfl)
theorem yY2{β:Type}{Q:List (List Int)}{P:List (List MBlk)}{d:MixE MBlk}{o:List Blk}{res:β}{fin:Int×(List (List Int)×List (List MBlk))→Option β}(h:Rp Q P d o)(hl:o.length≤1000000)(hfin:∀x,fin x=some res):
Z.loop (fun(s58:(Int)×((List (List (Int)))×(List (List (MBlk))))) k59=>
 (bif (Z.ilt s58.1 (Z.ofN (Z.xlen d)))then if(Z.Ix s58.1 (Z.xlen d))then if(Z.XPt s58.2.2 d (Z.toN s58.1))then if(Z.XPt s58.2.2 d (Z.toN s58.1))then if(Z.XPt s58.2.2 d (Z.toN s58.1))then Z.bnd (Z.xat s58.2.2 d (Z.toN s58.1) (0,(0,((MixE.nil:MixE (Int)),())))) fun(x68:MBlk)=>
 Z.bnd (Z.xset s58.2.2 d (Z.toN s58.1) ((-7),(x68.2.1,(x68.2.2.1,())))) fun(x69:List (List (MBlk)))=>
 Z.loop (fun(s70:(Int)×(List (List (Int)))) k71=>
 if(Z.Ix s58.1 (Z.xlen d))then if(Z.XPt x69 d (Z.toN s58.1))then if(Z.XPt x69 d (Z.toN s58.1))then if(Z.XPt x69 d (Z.toN s58.1))then Z.bnd (Z.xat x69 d (Z.toN s58.1) (0,(0,((MixE.nil:MixE (Int)),())))) fun(x80:MBlk)=>
 (bif (Z.ilt s70.1 (Z.ofN (Z.xlen x80.2.2.1)))then if(Z.Ix s58.1 (Z.xlen d))then if(Z.XPt x69 d (Z.toN s58.1))then if(Z.XPt x69 d (Z.toN s58.1))then if(Z.XPt x69 d (Z.toN s58.1))then Z.bnd (Z.xat x69 d (Z.toN s58.1) (0,(0,((MixE.nil:MixE (Int)),())))) fun(x89:MBlk)=>
 if(Z.Ix s58.1 (Z.xlen d))then if(Z.XPt x69 d (Z.toN s58.1))then if(Z.XPt x69 d (Z.toN s58.1))then if(Z.XPt x69 d (Z.toN s58.1))then Z.bnd (Z.xat x69 d (Z.toN s58.1) (0,(0,((MixE.nil:MixE (Int)),())))) fun(x98:MBlk)=>
 if(Z.Ix s70.1 (Z.xlen x98.2.2.1))then if(Z.XPt s70.2 x98.2.2.1 (Z.toN s70.1))then if(Z.XPt s70.2 x98.2.2.1 (Z.toN s70.1))then Z.bnd (Z.xat s70.2 x98.2.2.1 (Z.toN s70.1) 0) fun(x105:Int)=>
 Z.bnd (Z.wrap .u8 (Z.add x105 1)) fun(x106:Int)=>
 if(Z.Ix s70.1 (Z.xlen x89.2.2.1))then if(Z.XPt s70.2 x89.2.2.1 (Z.toN s70.1))then if(Z.XPt s70.2 x89.2.2.1 (Z.toN s70.1))then Z.bnd (Z.xset s70.2 x89.2.2.1 (Z.toN s70.1) x106) fun(x113:List (List (Int)))=>
 Z.bnd (Z.wrap .i64 (Z.add s70.1 1)) fun(x114:Int)=>
 k71 (x114,x113)
 else none
 else none
 else none
 else none
 else none
 else none
 else none
 else none
 else none
 else none
 else none
 else none
 else none
 else none
 else Z.bnd (Z.wrap .i64 (Z.add s58.1 1)) fun(x115:Int)=>
 k59 (x115,(s70.2,x69)))
 else none
 else none
 else none
 else none) (0,s58.2.1)
 else none
 else none
 else none
 else none
 else fin s58)) (0,(Q,P))=some res:=by
  rcases h with⟨rfl,rfl⟩|⟨l,rfl,rfl,rfl,hQ⟩
  · refine zWx (fun(d:Int×(List (List Int)×List (List MBlk)))=>d.1=0) (fun d=>0) ?_ rfl (by omega)
    rintro d k hd0 hk;refine zQs (by rw[hd0];rfl) ?_
    exact hfin _
  · have hlen:(l.map mkI).length≤1000000:=by rw[Qh]at hl⊢;exact hl
    exact spoil1 0 _ Q [l.map mkI] fin res (rp_bs hQ) (by simp) rfl hlen (fun j Q P _=>hfin _) Q [l.map mkI] (Sp.refl _ _)
end Go.Proofs.Ytampmlalpifkoaa
