/- EvictFills answers true. -/
import Derived.Test.YtoceaomlohgkkaaEvD
import Derived.Test.YtoceaomlohgkkaaM6
namespace Go.Proofs.Ytoceaomlohgkkaa
open Go.Eng
set_option linter.unusedVariables false
set_option linter.unusedSimpArgs false
theorem zYn{α:Type}(l:List α)(i j:Nat)(v z:α):(l.set i v).getD j z=if i=j∧i<l.length then v else l.getD j z:=by
 simp only[List.getD_eq_getElem?_getD,List.getElem?_set];by_cases h:i=j
 ·subst h
  by_cases h2:i<l.length
  ·simp[h2]
  ·simp[h2]
 ·simp[h]
abbrev zM:MBlk:=(0,(0,((MixE.nil:MixE Int),())))
def Bs(Q0:List (List Int))(P0:List (List MBlk)):Prop:=∀r j,j<(P0.getD r []).length→∃(i:Nat) (d:List Int),i<Q0.length∧(Q0.getD i []).length=d.length∧d.length≤2000000∧((P0.getD r []).getD j zM).2.2.1=Z.xrow i d
structure Sp (Q0:List (List Int)) (P0:List (List MBlk)) (Q:List (List Int)) (P:List (List MBlk)):Prop where
 q1:Q.length=Q0.length
 q2:∀j,(Q.getD j []).length=(Q0.getD j []).length
 p1:P.length=P0.length
 p2:∀r,(P.getD r []).length=(P0.getD r []).length
 p3:∀r j,((P.getD r []).getD j zM).2.2.1=((P0.getD r []).getD j zM).2.2.1
theorem Sp.refl(Q0:List (List Int))(P0:List (List MBlk)):Sp Q0 P0 Q0 P0:=⟨rfl,fun _=>rfl,rfl,fun _=>rfl,fun _ _=>rfl⟩
theorem Sp.setQ{Q0:List (List Int)}{P0:List (List MBlk)}{Q:List (List Int)}{P:List (List MBlk)}(h:Sp Q0 P0 Q P)(i k:Nat)(x:Int):Sp Q0 P0 (Q.set i ((Q.getD i []).set k x)) P:=by
 refine⟨by rw[List.length_set];exact h.q1,fun j=>?_,h.p1,h.p2,h.p3⟩
 rw[zYn];split
 ·rename_i hh
  rw[List.length_set,hh.1];exact h.q2 j
 ·exact h.q2 j
theorem Sp.setP{Q0:List (List Int)}{P0:List (List MBlk)}{Q:List (List Int)}{P:List (List MBlk)}(h:Sp Q0 P0 Q P)(r j:Nat)(v:MBlk)(hv:v.2.2.1=((P.getD r []).getD j zM).2.2.1):Sp Q0 P0 Q (P.set r ((P.getD r []).set j v)):=by
 refine⟨h.q1,h.q2,by rw[List.length_set];exact h.p1,fun i=>?_,fun i k=>?_⟩
 ·rw[zYn]
  split
  ·rename_i hh
   rw[List.length_set,hh.1];exact h.p2 i
  ·exact h.p2 i
 ·rw[zYn]
  split
  ·rename_i hh
   rw[zYn];split
   ·rename_i h2
    rw[hv,hh.1,h2.1];exact h.p3 i k
   ·rw[hh.1];exact h.p3 i k
  ·exact h.p3 i k
theorem vZ7{β:Type}(r n:Nat)(Q0:List (List Int))(P0:List (List MBlk))(fin:List (List Int)→List (List MBlk)→Option β)(res:β)(hb:Bs Q0 P0)(hr:r<P0.length)(hn:(P0.getD r []).length=n)(hnb:n≤1000000)(hfin:∀Q P,Sp Q0 P0 Q P→fin Q P=some res)(Q:List (List Int))(P:List (List MBlk))(hS:Sp Q0 P0 Q P):Z.loop (fun(s36:(Int)×((List (List (Int)))×(List (List MBlk)))) k37=>
 (bif (Z.ilt s36.1 (Z.ofN (Z.xlen (.ref r 0 n n:MixE MBlk))))then if(Z.Ix s36.1 (Z.xlen (.ref r 0 n n:MixE MBlk)))then if(Z.XPt s36.2.2 (.ref r 0 n n) (Z.toN s36.1))then if(Z.XPt s36.2.2 (.ref r 0 n n) (Z.toN s36.1))then if(Z.XPt s36.2.2 (.ref r 0 n n) (Z.toN s36.1))then Z.bnd (Z.xat s36.2.2 (.ref r 0 n n) (Z.toN s36.1) (0,(0,((MixE.nil:MixE (Int)),())))) fun(x46:MBlk)=>
 Z.bnd (Z.xset s36.2.2 (.ref r 0 n n) (Z.toN s36.1) ((-7),(x46.2.1,(x46.2.2.1,())))) fun(x47:List (List MBlk))=>
 Z.loop (fun(s48:(Int)×(List (List (Int)))) k49=>
 if(Z.Ix s36.1 (Z.xlen (.ref r 0 n n:MixE MBlk)))then if(Z.XPt x47 (.ref r 0 n n) (Z.toN s36.1))then if(Z.XPt x47 (.ref r 0 n n) (Z.toN s36.1))then if(Z.XPt x47 (.ref r 0 n n) (Z.toN s36.1))then Z.bnd (Z.xat x47 (.ref r 0 n n) (Z.toN s36.1) (0,(0,((MixE.nil:MixE (Int)),())))) fun(x58:MBlk)=>
 (bif (Z.ilt s48.1 (Z.ofN (Z.xlen x58.2.2.1)))then if(Z.Ix s36.1 (Z.xlen (.ref r 0 n n:MixE MBlk)))then if(Z.XPt x47 (.ref r 0 n n) (Z.toN s36.1))then if(Z.XPt x47 (.ref r 0 n n) (Z.toN s36.1))then if(Z.XPt x47 (.ref r 0 n n) (Z.toN s36.1))then Z.bnd (Z.xat x47 (.ref r 0 n n) (Z.toN s36.1) (0,(0,((MixE.nil:MixE (Int)),())))) fun(x67:MBlk)=>
 if(Z.Ix s36.1 (Z.xlen (.ref r 0 n n:MixE MBlk)))then if(Z.XPt x47 (.ref r 0 n n) (Z.toN s36.1))then if(Z.XPt x47 (.ref r 0 n n) (Z.toN s36.1))then if(Z.XPt x47 (.ref r 0 n n) (Z.toN s36.1))then Z.bnd (Z.xat x47 (.ref r 0 n n) (Z.toN s36.1) (0,(0,((MixE.nil:MixE (Int)),())))) fun(x76:MBlk)=>
 if(Z.Ix s48.1 (Z.xlen x76.2.2.1))then if(Z.XPt s48.2 x76.2.2.1 (Z.toN s48.1))then if(Z.XPt s48.2 x76.2.2.1 (Z.toN s48.1))then Z.bnd (Z.xat s48.2 x76.2.2.1 (Z.toN s48.1) 0) fun(x83:Int)=>
 Z.bnd (Z.wrap .u8 (Z.add x83 1)) fun(x84:Int)=>
 if(Z.Ix s48.1 (Z.xlen x67.2.2.1))then if(Z.XPt s48.2 x67.2.2.1 (Z.toN s48.1))then if(Z.XPt s48.2 x67.2.2.1 (Z.toN s48.1))then Z.bnd (Z.xset s48.2 x67.2.2.1 (Z.toN s48.1) x84) fun(x91:List (List (Int)))=>
 Z.bnd (Z.wrap .i64 (Z.add s48.1 1)) fun(x92:Int)=>
 k49 (x92,x91)
 else none
 else none
 else none
 else none
 else none
 else none
 else none
 else none
 else none
 else none
 else none
 else none
 else none
 else none
 else Z.bnd (Z.wrap .i64 (Z.add s36.1 1)) fun(x93:Int)=>
 k37 (x93,(s48.2,x47)))
 else none
 else none
 else none
 else none) (0,s36.2.1)
 else none
 else none
 else none
 else none
 else fin s36.2.1 s36.2.2)) (0,(Q,P))=some res:=by
  refine zWc (fun(d:Int×(List (List Int)×List (List MBlk)))=>∃(j:Nat) (Q:List (List Int)) (P:List (List MBlk)),j≤n∧d=((j:Int),(Q,P))∧Sp Q0 P0 Q P) (fun d=>n-d.1.toNat) ?_ ⟨0,Q,P,Jj _,rfl,hS⟩ (yJw _ _ (by omega))
  rintro d k ⟨j,Q,P,hj,rfl,hS⟩ hk;dsimp only;by_cases hlt:j<n
  · refine zQ9 (decide_eq_true (by simp only[Z.ofN,Z.xlen];omega)) ?_
    have x1:Z.Ix (j:Int) (Z.xlen (.ref r 0 n n:MixE MBlk)):=⟨by omega,by show(j:Int).toNat<n;omega⟩
    have pt:∀P,Sp Q0 P0 Q P→Z.XPt P (.ref r 0 n n:MixE MBlk) (Z.toN (j:Int)):=fun P h=>by
      have e:=h.p2 r;rw[hn]at e;have hl:=h.p1;simp only[Z.XPt,MixE.xpt,e,decide_eq_true (show r<P.length by omega)]
      simp[Z.toN,hlt]
    have pt0:=pt P hS;refine zQc x1 (zQc pt0 (zQc pt0 (zQc pt0 (zQo (y:=(P.getD r []).getD j zM) (by show(P.getD r []).getD (0+j) _=_;rw[Jx]) ?_))))
    obtain⟨v,hv⟩:∃v:MBlk,v=((-7:Int),(((P.getD r []).getD j zM).2.1,(((P.getD r []).getD j zM).2.2.1,()))):=⟨_,rfl⟩;refine zQo (y:=P.set r ((P.getD r []).set j v)) (by rw[hv];show P.set r ((P.getD r []).set (0+j) _)=_;rw[Jx]) ?_
    have hS2:Sp Q0 P0 Q (P.set r ((P.getD r []).set j v)):=hS.setP r j v (by rw[hv])
    have hPl:r<P.length:=by have:=hS.p1;omega
    have hrl:(P.getD r []).length=n:=(hS.p2 r).trans hn;have xa:Z.xat (P.set r ((P.getD r []).set j v)) (.ref r 0 n n:MixE MBlk) (Z.toN (j:Int)) (0,(0,((MixE.nil:MixE (Int)),())))=v:=by
      show((P.set r ((P.getD r []).set j v)).getD r []).getD (0+j) _=v;rw[Jx,zYn,if_pos ⟨rfl,hPl⟩,zYn,if_pos ⟨rfl,by omega⟩]
    obtain⟨i,dd,hi,hdl,hdb,hdd⟩:=hb r j (by omega)
    have hvd:v.2.2.1=Z.xrow i dd:=by rw[hv];exact(hS.p3 r j).trans hdd
    generalize P.set r ((P.getD r []).set j v)=P2 at *;have hxl:Z.xlen (Z.xrow i dd)=dd.length:=by
      by_cases h0:dd.length=0
      · have:dd=[]:=Qq.1 h0
        subst this;rfl
      ·unfold Z.xrow;rw[if_neg h0]
    refine zWc (fun(d:Int×List (List Int))=>∃(q:Nat) (Q:List (List Int)),q≤dd.length∧d=((q:Int),Q)∧Sp Q0 P0 Q P2) (fun d=>dd.length-d.1.toNat) ?_ ⟨0,Q,Jj _,rfl,hS2⟩ (yJw _ _ (by omega))
    rintro d k2 ⟨q,Q2,hq,rfl,hT⟩ hk2;dsimp only;have pt2:Z.XPt P2 (.ref r 0 n n:MixE MBlk) (Z.toN (j:Int)):=by
      have e:=hT.p2 r;rw[hn]at e;have hl:=hT.p1;simp only[Z.XPt,MixE.xpt,e,decide_eq_true (show r<P2.length by omega)]
      simp[Z.toN,hlt]
    refine zQc x1 (zQc pt2 (zQc pt2 (zQc pt2 (zQo xa ?_))));rw[hvd];by_cases hql:q<dd.length
    · refine zQ9 (decide_eq_true (by rw[hxl];simp only[Z.ofN];omega)) ?_
      refine zQc x1 (zQc pt2 (zQc pt2 (zQc pt2 (zQo xa ?_))));refine zQc x1 (zQc pt2 (zQc pt2 (zQc pt2 (zQo xa ?_))));rw[hvd];have y1:Z.Ix (q:Int) (Z.xlen (Z.xrow i dd)):=⟨by omega,by rw[hxl];show(q:Int).toNat<_;omega⟩
      have er:Z.xrow i dd=.ref i 0 dd.length dd.length:=by unfold Z.xrow;rw[if_neg (by omega)]
      have hQi:(Q2.getD i []).length=dd.length:=(hT.q2 i).trans hdl;have hQl:i<Q2.length:=by have:=hT.q1;omega
      have y2:Z.XPt Q2 (Z.xrow i dd) (Z.toN (q:Int)):=by
        rw[er];simp only[Z.XPt,MixE.xpt,hQi,decide_eq_true hQl];simp[Z.toN,hql]
      refine zQc y1 (zQc y2 (zQc y2 (zQo rfl (zQo rfl ?_))));generalize Z.wrap .u8 _=z;refine zQc y1 (zQc y2 (zQc y2 (zQo (y:=Q2.set i ((Q2.getD i []).set q z)) ?_ ?_)))
      · rw[er]
        show Q2.set i ((Q2.getD i []).set (0+q) z)=_;rw[Jx]
      refine zQo (yYm (by omega)) ?_
      exact hk2 _ ⟨q+1,_,hql,rfl,hT.setQ i q z⟩ (by show dd.length-((q+1:Nat):Int).toNat<dd.length-((q:Int)).toNat;omega)
    · refine zQ0 (decide_eq_false (by rw[hxl];simp only[Z.ofN];omega)) ?_
      refine zQo (yYm (by omega)) ?_
      exact hk _ ⟨j+1,Q2,P2,hlt,rfl,hT⟩ (by show n-((j+1:Nat):Int).toNat<n-((j:Int)).toNat;omega)
  · refine zQ0 (decide_eq_false (by simp only[Z.ofN,Z.xlen];omega)) ?_
    exact hfin Q P hS
theorem xYa{α β:Type}{f:α→Option β}:∀{l:List α} {r:List β},l.length=r.length→(∀(i:Nat) (h:i<l.length) (h':i<r.length),f l[i]=some r[i])→Z.mapO f l=some r
 |[],[],_,_=>rfl
 |[],_::_,h,_=>by simp at h
 |_::_,[],h,_=>by simp at h
 |x::l,y::r,h,hf=>by
  show List.mapM f (x::l)=_;rw[Kj];have h0:f x=some y:=hf 0 (by simp) (by simp)
  have ih:List.mapM f l=some r:=xYa (by simpa using h) fun i h1 h2=>hf (i+1) (by simp;omega) (by simp;omega)
  rw[h0,ih];rfl
section
variable {B S W:Int} {H a m:Nat} {s:List Blk}
theorem vWt(s:List Blk):∀e:MBlk,Z.XOk (dQ s) e.2.2.1→(if(Z.XOk (dQ s) e.2.2.1)then Z.bnd (Z.xget (dQ s) e.2.2.1) fun(x14:List (Int))=>
 some (e.1,(e.2.1,(x14,e.2.2.2)))
 else none)=some ((e.1,(e.2.1,(Z.xget (dQ s) e.2.2.1,()))):Blk):=fun e h=>zQc h (zQo rfl rfl)
theorem wYf(H a m:Nat)(s:List Blk)(k:Nat):Z.mapO (fun(e8:MixE MBlk)=>
 if(Z.XOk (zWq H a m s k) e8)then Z.bind (Z.mapO (fun(e11:MBlk)=>
 if(Z.XOk (dQ s) e11.2.2.1)then Z.bnd (Z.xget (dQ s) e11.2.2.1) fun(x14:List (Int))=>
 some (e11.1,(e11.2.1,(x14,e11.2.2.2)))
 else none) (Z.xget (zWq H a m s k) e8)) fun(x15:List Blk)=>
 some x15
 else none) (refV (zWq H a m s k))=some (zZm H a m s k):=by
  have hl1:(zWq H a m s k).length=(zJf H m (dpS H a s) s.length k).length:=Qg ..;have hl2:(zZm H a m s k).length=(zJf H m (dpS H a s) s.length k).length:=Qg ..
  refine xYa (by rw[zX7];omega) fun i h h'=>?_
  have h1:i<(zWq H a m s k).length:=by omega
  have h0:i<(zJf H m (dpS H a s) s.length k).length:=by omega
  have e:(refV (zWq H a m s k))[i]=.ref i 0 (zWq H a m s k)[i].length (zWq H a m s k)[i].length:=by simp[refV,List.getD,h1]
  have e2:(zWq H a m s k).getD i []=(zWq H a m s k)[i]:=by simp[List.getD,h1]
  have e3:(zWq H a m s k)[i]=((zJf H m (dpS H a s) s.length k)[i]).map (mI s):=by simp[zWq]
  have e4:(zZm H a m s k)[i]=((zJf H m (dpS H a s) s.length k)[i]).map (bI s):=by simp[zZm]
  rw[e];refine zQc ?_ ?_
  ·simp only[Z.XOk,MixE.xok,e2,decide_eq_true h1];simp
  have eg:Z.xget (zWq H a m s k) (.ref i 0 (zWq H a m s k)[i].length (zWq H a m s k)[i].length:MixE MBlk)=(zWq H a m s k)[i]:=by
    show(((zWq H a m s k).getD i []).drop 0).take (zWq H a m s k)[i].length=_;rw[e2,J1,Q4]
  rw[eg,e3,e4];exact zQp (wQ4 s (vWt s) _ (wXs H m (dpS H a s) s.length k _ (J0 h0))) rfl
theorem vKp(s:List Blk)(hd:∀x∈s,x.2.2.1.length≤2000000)(LL:List (List Nat))(hL:∀l∈LL,∀i∈l,i<s.length):Bs (dQ s) (LL.map fun l=>l.map (mI s)):=by
 intro r j hj;have hr:r<LL.length:=by
  by_cases h:r<LL.length
  ·exact h
  ·rw[List.getD_eq_getElem?_getD,Jl (by rw[Qg];omega)]at hj;simp at hj
 have e:(LL.map fun l=>l.map (mI s)).getD r []=LL[r].map (mI s):=by simp[List.getD,hr]
 rw[e]at hj⊢;have hj2:j<LL[r].length:=by rw[Qg]at hj;exact hj
 have hi:=hL _ (J0 hr) _ (J0 hj2);have e2:(LL[r].map (mI s)).getD j zM=mI s LL[r][j]:=by simp[List.getD,hj2]
 rw[e2];have hq:=vQ7 s hi;refine⟨LL[r][j],(bI s LL[r][j]).2.2.1,by simp[dQ];exact hi, ?_, ?_,rfl⟩
 ·rw[List.getD_eq_getElem?_getD,hq];rfl
 ·rw[vWv s hi];exact hd _ (J0 hi)
end
theorem xWw (B S H W leaf:Int)(s:List Blk)(hd:∀x∈s,x.2.2.1.length≤2000000):zZj ((B,(S,(H,(W,())))),(s,leaf))=some true:=by
  unfold zZj;dsimp only;refine zQp (yJu s 40) ?_;cases hg:grtS s 40 with
  |true=>exact zQ9 rfl rfl
  | false=>
    refine zQ0 rfl ?_;have hl:s.length≤40:=by
      unfold grtS at hg;rw[Bool.or_eq_false_iff]at hg;have:=of_decide_eq_false hg.1;omega
    refine zQp (xW3 s hd (by omega)) ?_
    have last:∀j26:Bool,j26=true→Z.join (σ:=Bool) (fun k153=>
 (bif j26 then Z.bind (zXg (s,s)) fun(x154:Bool)=>
 k153 (Z.zQ1 true x154 false)
 else k153 false)) (fun(j155:Bool)=>
 some j155)=some true:=fun j hj=>by
      subst hj;refine vQg (fun j=>j=true) (fun j hj=>by rw[hj]) (fun k hk=>?_)
      refine zQ9 rfl ?_;exact zQp (zJw s (by omega)) (hk _ rfl)
    have bad:∀e:Int,zW5 ((B,(S,(H,(W,())))),(s,leaf))=some (vQv e)→zXw ((B,(S,(H,(W,())))),(s,leaf))=some ([],([],e))→_:=fun e h1 h2=>(⟨h1,h2⟩:_∧_)
    have cases3:(∃e:Int,zW5 ((B,(S,(H,(W,())))),(s,leaf))=some (vQv e)∧zXw ((B,(S,(H,(W,())))),(s,leaf))=some ([],([],e)))∨(∃(h a m:Nat),H=(h:Int)∧leaf=(a:Int)∧Ctx B S W h a m s∧ckS B S H W s=0):=by
      rcases ck_two B S H W s with hck|hck
      · cases hlf:isL H leaf with
        |false=>exact .inl ⟨2,wKt B S H W leaf s (by omega) hck hlf,wWl B S H W leaf s (by omega) hck hlf⟩
        | true=>
          obtain⟨h,a,m,e1,e2,C⟩:=ctx_of hck (by omega) hlf
          exact .inr ⟨h,a,m,e1,e2,C,hck⟩
      ·exact .inl ⟨8,vQu B S H W leaf s (by omega) hck,wKu B S H W leaf s (by omega) hck⟩
    clear bad;rcases cases3 with⟨e,h1,h2⟩|⟨h,a,m,rfl,rfl,C,hck⟩
    · refine zQp h1 (zQp h2 ?_)
      unfold vQv;dsimp only;refine vQg (fun j=>j=true) (fun j hj=>?_) (fun k hk=>?_)
      · refine zWc (fun(d:Int×(List (List Int)×List (List MBlk)))=>d.1=0) (fun d=>0) ?_ rfl (by omega)
        rintro d k hd0 hk;refine zQ0 (by rw[hd0];rfl) ?_
        refine zWc (fun(d:Int×(List (List Int)×List (List MBlk)))=>d.1=0) (fun d=>0) ?_ rfl (by omega)
        rintro d2 k2 hd2 hk2;refine zQ0 (by rw[hd2];rfl) ?_
        exact last j hj
      · refine zQc (by simp[Z.XOk,MixE.xok]) (zQp (y:=[]) rfl ?_)
        refine zQp (yZb [] (by simp) (by simp)) (zQ9 rfl ?_)
        refine zQc (by simp[Z.XOk,MixE.xok]) (zQp (y:=[]) rfl ?_)
        refine zQp (zJw [] (by simp)) (zQ9 rfl ?_)
        exact hk _ (by simp[Z.zQ1,Z.ieq])
    · refine zQp (vY1 C hck) (zQp (vQw C hck) ?_)
      unfold vY2;dsimp only;have hPl:(zWq h a m s (h+1)).length=h+1:=by unfold zWq;rw[Qg,yZd]
      have hRl:=vKs h a m s (h+1);have hRg:=vKt h a m s (h+1);have hRin:=yWw h m (dpS h a s) s.length (h+1);have h2:=C.h2;have bP:Bs (dQ s) (zWq h a m s (h+1)):=vKp s hd _ (wXs h m (dpS h a s) s.length (h+1))
      have bR:Bs (dQ s) (Rm h a m s (h+1)):=by
        have e:Rm h a m s (h+1)=((List.range (h+1+1)).map (zKb h m (dpS h a s) s.length)).map fun l=>l.map (mI s):=by
          unfold Rm;rw[Jk];rfl
        rw[e];refine vKp s hd _ fun l hl i hi=>?_
        obtain⟨q,_,rfl⟩:=Q5.1 hl;exact(yWw h m (dpS h a s) s.length q).2 i hi
      have hrn:(zY3 h a m s (h+1)).length≤1000:=by
        unfold zY3;rw[Qg];omega
      have hrowl:∀l∈zWq h a m s (h+1),l.length≤1000000:=fun l hlm=>by
        unfold zWq at hlm;obtain⟨li,h5,rfl⟩:=Q5.1 hlm;rw[Qg];unfold zJf at h5;obtain⟨r,_,rfl⟩:=Q5.1 h5;split
        · have:=yKg m r (dpS h a s) (zKb h m (dpS h a s) s.length (h-r)) _ (Qf _)
          rw[Q4]at this;have:=C.m4;unfold rowI;omega
        ·simp
      refine vQg (fun j=>j=true) (fun j hj=>?_) (fun k hk=>?_)
      · -- written over
        refine zWc (fun(d:Int×(List (List Int)×List (List MBlk)))=>∃(i:Nat) (Q:List (List Int)) (P:List (List MBlk)),i≤h+1∧d=((i:Int),(Q,P))∧Sp (dQ s) (zWq h a m s (h+1)) Q P) (fun d=>h+1-d.1.toNat) ?_ ⟨0,_,_,Jj _,rfl,Sp.refl _ _⟩ (yJw _ _ (by omega))
        rintro d k ⟨i,Q,P,hi,rfl,hS⟩ hk;dsimp only;by_cases hlt:i<h+1
        · refine zQ9 (decide_eq_true (by simp only[Z.ofN,Z.xlen];omega)) ?_
          have x1:Z.Ix (i:Int) (Z.xlen (.ref 0 0 (h+1) (h+1):MixE (MixE MBlk))):=⟨by omega,by show(i:Int).toNat<h+1;omega⟩
          have x2:Z.XPt [refV (zWq h a m s (h+1))] (.ref 0 0 (h+1) (h+1):MixE (MixE MBlk)) (Z.toN (i:Int)):=by
            simp only[Z.XPt,MixE.xpt];simp[zX7,hPl,Z.toN,hlt]
          have hir:i<(zWq h a m s (h+1)).length:=by omega
          refine zQc x1 (zQc x2 (zQc x2 (zQo (y:=.ref i 0 (zWq h a m s (h+1))[i].length (zWq h a m s (h+1))[i].length) ?_ ?_)))
          · show(refV (zWq h a m s (h+1))).getD (0+i) _=_
            rw[Jx,wXv _ hir]
          refine vZ7 i _ (dQ s) (zWq h a m s (h+1)) (fun Q P=>Z.bnd (Z.wrap .i64 (Z.add (i:Int) 1)) fun(x94:Int)=>k (x94,(Q,P))) true bP hir (by simp[List.getD,hir]) (hrowl _ (J0 hir)) (fun Q P hS=>?_) Q P hS
          refine zQo (yYm (by omega)) ?_
          exact hk _ ⟨i+1,Q,P,hlt,rfl,hS⟩ (by show h+1-((i+1:Nat):Int).toNat<h+1-((i:Int)).toNat;omega)
        · refine zQ0 (decide_eq_false (by simp only[Z.ofN,Z.xlen];omega)) ?_
          have hS2:Sp (dQ s) (Rm h a m s (h+1)) Q (Rm h a m s (h+1)):=⟨hS.q1,hS.q2,rfl,fun _=>rfl,fun _ _=>rfl⟩
          exact vZ7 (h+1) _ (dQ s) (Rm h a m s (h+1)) (fun _ _=>Z.join (σ:=Bool) (fun k153=>
 (bif j then Z.bind (zXg (s,s)) fun(x154:Bool)=>
 k153 (Z.zQ1 true x154 false)
 else k153 false)) (fun(j155:Bool)=>
 some j155)) true bR (by omega) (by rw[hRg]) (by omega) (fun _ _ _=>last j hj) Q _ hS2
      · refine zQc ?_ ?_
        · simp only[Z.XOk,MixE.xok]
          simp[zX7,hPl]
        have eg:Z.xget [refV (zWq h a m s (h+1))] (.ref 0 0 (h+1) (h+1):MixE (MixE MBlk))=refV (zWq h a m s (h+1)):=by
          show((refV (zWq h a m s (h+1))).drop 0).take (h+1)=_;rw[J1,Q8 (by rw[zX7];omega)]
        rw[eg];refine zQp (wYf h a m s (h+1)) ?_;have hBl:∀l∈zZm h a m s (h+1),l.length≤1000000:=fun l hlm=>by
          unfold zZm at hlm;obtain⟨li,h5,rfl⟩:=Q5.1 hlm;have:=hrowl (li.map (mI s)) (by unfold zWq;exact Q5.2 ⟨li,h5,rfl⟩)
          rw[Qg]at this⊢;exact this
        refine zQp (yZb _ (by unfold zZm;rw[Qg,yZd];omega) hBl) (zQ9 rfl ?_)
        refine zQc ?_ ?_
        · simp only[Z.XOk,MixE.xok,hRg,decide_eq_true (show h+1<(Rm h a m s (h+1)).length by omega)]
          simp
        have eg2:Z.xget (Rm h a m s (h+1)) (.ref (h+1) 0 (zY3 h a m s (h+1)).length (zY3 h a m s (h+1)).length:MixE MBlk)=zY3 h a m s (h+1):=by
          show(((Rm h a m s (h+1)).getD (h+1) []).drop 0).take (zY3 h a m s (h+1)).length=_;rw[hRg,J1,Q4]
        rw[eg2];refine zQp (wQ4 s (vWt s) _ hRin.2) ?_;refine zQp (zJw _ (by rw[Qg];omega)) (zQ9 rfl ?_)
        exact hk _ rfl
theorem vXi{l:List Nat}{n:Nat}(h:n∈l):n≤l.sum:=by
 induction l with
 |nil=>cases h
 |cons x l ih=>
  rcases Je.1 h with rfl|h
  ·simp
  ·have:=ih h;simp only[List.sum_cons];omega
theorem sizB(d:List Int):siz (.list (.int .u8)) d=d.length+1:=by
 have key:∀d:List Int,(List.map (siz (.int .u8)) d).sum=d.length:=by
  intro d;induction d with
  |nil=>rfl
  |cons x d ih=>
   rw[Qh,List.sum_cons,ih,Js];show 1+d.length=d.length+1;omega
 show(List.map (siz (.int .u8)) d).sum+1=d.length+1;rw[key]
abbrev cBl:C:=.pair (.int .i64) (.pair (.int .i64) (.pair (.list (.int .u8)) .unit))
theorem sizBl(x:Blk):x.2.2.1.length+2≤siz cBl x:=by
 have:=sizB x.2.2.1;simp only[siz]at this⊢;omega
theorem sizBls{l:List Blk}{n:Nat}(h:siz (.list cBl) l≤n):∀x∈l,x.2.2.1.length≤n:=by
 have h3:siz (.list cBl) l=(l.map (siz cBl)).sum+1:=by simp only[siz]
 intro x hx;have h1:=sizBl x;have h2:=vXi (List.mem_map_of_mem (f:=siz cBl) hx);omega
theorem yWa(d:Els zWy.args)(hf:Fits zWy.args d)(hz:sizs zWy.args d≤1048576):zZj d=some true:=by
 obtain⟨⟨B,S,H,W,_⟩,s,leaf⟩:=d;have h1:siz (.list cBl) s≤1048576:=by
  simp only[sizs,zWy]at hz;unfold cBl;omega
 exact xWw B S H W leaf s fun x hx=>by have:=sizBls h1 x hx;omega
end Go.Proofs.Ytoceaomlohgkkaa
