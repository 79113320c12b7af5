/- Stashes whose blocks' data stand in rows: what they are; Twin. -/
import Derived.Test.YtampmlalpifkoaaStashV
namespace Go.Proofs.Ytampmlalpifkoaa
open Go.Eng
set_option linter.unusedVariables false
set_option linter.unusedSimpArgs false
theorem wY0{α:Type}{Q:List (List α)}{k:Nat}{d:List α}(h:Q[k]?=some d):Z.XOk Q (Z.xrow k d)∧Z.xget Q (Z.xrow k d)=d∧Z.xlen (Z.xrow k d)=d.length:=by
 have hk:=(List.getElem?_eq_some_iff.1 h).1;have hg:Q.getD k []=d:=by simp[List.getD,h]
 by_cases hd:d.length=0
 ·have:d=[]:=Qr.1 hd
  subst this;simp[Z.xrow,Z.XOk,MixE.xok,Z.xget,Z.xlen]
 ·refine⟨?_, ?_, ?_⟩
  ·simp only[Z.XOk,Z.xrow,Qi hd,MixE.xok,Qc,decide_eq_true_eq,beq_iff_eq]
   refine⟨hk, ?_, ?_⟩<;>first|(rw[hg];done)|(rw[hg];omega)|omega
  ·simp only[Z.xrow,Qi hd,Z.xget,hg,Jt,Jj]
  ·simp only[Z.xrow,Qi hd,Z.xlen]
abbrev IB:=Blk×Nat
def mkI(x:IB):MBlk:=(x.1.1,(x.1.2.1,(Z.xrow x.2 x.1.2.2.1,())))
def InQ(Q:List (List Int))(l:List IB):Prop:=∀x∈l,Q[x.2]?=some x.1.2.2.1∧x.1.2.2.1.length≤2000000
theorem InQ.app{Q R:List (List Int)}{l:List IB}(h:InQ Q l):InQ (Q++R) l:=fun x hx=>by
 obtain⟨a,b⟩:=h x hx;have:=(List.getElem?_eq_some_iff.1 a).1;exact⟨by rw[Qb this];exact a,b⟩
theorem InQ.ins{Q:List (List Int)}{l:List IB}{d:Blk}(h:InQ Q l)(hd:d.2.2.1.length≤2000000)(p:Nat):InQ (Q++[d.2.2.1]) (l.take p++(d,Q.length)::l.drop p):=fun x hx=>by
 rcases Qy.1 hx with hx|hx
 ·exact h.app x (Kk hx)
 ·rcases Jm.1 hx with rfl|hx
  ·exact⟨by simp,hd⟩
  ·exact h.app x (Kv hx)
theorem InQ.put{Q:List (List Int)}{l:List IB}{d:Blk}(h:InQ Q l)(hd:d.2.2.1.length≤2000000)(p:Nat):InQ (Q++[d.2.2.1]) (l.set p (d,Q.length)):=fun x hx=>by
 rcases Wo hx with hx|rfl
 ·exact h.app x hx
 ·exact⟨by simp,hd⟩
def zlF:Nat→List Blk→List IB
 |_,[]=>[]
 |k,x::l=>(x,k)::zlF (k+1) l
theorem xQj:∀(k:Nat) (l:List Blk),(zlF k l).map (·.1)=l
 |_,[]=>rfl
 |k,x::l=>by simp only[zlF,Qg,xQj (k+1) l]
theorem wZv:∀(k:Nat) (l:List Blk),(zlF k l).length=l.length
 |_,[]=>rfl
 |k,x::l=>by simp only[zlF,Jc,wZv (k+1) l]
theorem wYx:∀(k:Nat) (l:List Blk) (i:Nat) (h:i<l.length),(zlF k l)[i]? =some (l[i],k+i)
 |k,x::l,0,h=>rfl
 |k,x::l,i+1,h=>by
  simp only[zlF,List.getElem?_cons_succ,List.getElem_cons_succ];rw[wYx (k+1) l i (by simpa using h),show k+1+i=k+(i+1) by omega]
theorem wYw(s:List Blk)(hd:∀x∈s,x.2.2.1.length≤2000000):InQ (s.map fun x=>x.2.2.1) (zlF 0 s):=fun x hx=>by
 obtain⟨i,hi,rfl⟩:=List.getElem_of_mem hx;have hi2:i<s.length:=by rw[wZv]at hi;exact hi
 have e:(zlF 0 s)[i]=(s[i],i):=by
  have:=wYx 0 s i hi2;rw[Qm hi,Jo]at this;exact Wl this
 rw[e];exact⟨by simp[hi2],hd _ (Ka hi2)⟩
def zM(s:List Blk):List MBlk:=(zlF 0 s).map mkI
theorem xX3(s:List Blk):(zM s).length=s.length:=by unfold zM;rw[Qh,wZv]
theorem wYz{s:List Blk}{i:Nat}(h:i<s.length):(zM s).take (i+1)=(zM s).take i++[(s[i].1,(s[i].2.1,(Z.xrow i s[i].2.2.1,())))]:=by
 have hz:i<(zM s).length:=by rw[xX3];exact h
 rw[K0 hz];congr 2;have:=wYx 0 s i h;rw[Jo]at this;have e:(zM s)[i]?=some (mkI (s[i],i)):=by unfold zM;rw[Qt,this];rfl
 rw[Qm hz]at e;exact Wl e
theorem r1_gr{α:Type}(L:List α):Z.XGr [L] (.ref 0 0 L.length L.length:MixE α):=by simp[Z.XGr,MixE.xgr]
theorem r1_ok{α:Type}(L:List α):Z.XOk [L] (.ref 0 0 L.length L.length:MixE α):=by simp[Z.XOk,MixE.xok]
theorem r1_pt{α:Type}(L:List α){i:Nat}(h:i<L.length):Z.XPt [L] (.ref 0 0 L.length L.length:MixE α) i:=by simp[Z.XPt,MixE.xpt,h]
theorem vYk{α:Type}(L:List α):Z.xget [L] (.ref 0 0 L.length L.length:MixE α)=L:=by
 show(L.drop 0).take L.length=L;rw[Jt,Jj]
def Rp(Q:List (List Int))(P:List (List MBlk))(d:MixE MBlk)(o:List Blk):Prop:=(d=.nil∧o=[])∨∃l:List IB,P=[l.map mkI]∧d=.ref 0 0 (l.map mkI).length (l.map mkI).length∧l.map (·.1)=o∧InQ Q l
theorem atM{l:List IB}{Q:List (List Int)}{o:List Blk}(hlo:l.map (·.1)=o)(hQ:InQ Q l){j:Nat}(hj:j<o.length)(hl:o.length≤1000000):
  ∃i,Z.Ix (j:Int) (Z.xlen (.ref 0 0 (l.map mkI).length (l.map mkI).length:MixE MBlk))∧Z.XPt [l.map mkI] (.ref 0 0 (l.map mkI).length (l.map mkI).length:MixE MBlk) (Z.toN (j:Int))∧
   Z.xat [l.map mkI] (.ref 0 0 (l.map mkI).length (l.map mkI).length:MixE MBlk) (Z.toN (j:Int)) ((0,(0,((MixE.nil:MixE Int),()))):MBlk)=(o[j].1,(o[j].2.1,(Z.xrow i o[j].2.2.1,())))∧
   Z.XOk Q (Z.xrow i o[j].2.2.1)∧Z.xget Q (Z.xrow i o[j].2.2.1)=o[j].2.2.1:=by
 subst hlo;have hjl:j<l.length:=by simpa using hj
 have hjm:j<(l.map mkI).length:=by simpa using hjl
 have e:(l.map (·.1))[j]=l[j].1:=by simp
 obtain⟨q1,_⟩:=hQ _ (Ka hjl);obtain⟨o1,o2,_⟩:=wY0 q1;rw[e];refine⟨l[j].2,⟨by omega,by show(j:Int).toNat<(l.map mkI).length;omega⟩,r1_pt _ (by show(j:Int).toNat<_;omega), ?_,o1,o2⟩
 show(l.map mkI).getD (0+j) _=_;rw[Jo];simp[List.getD,hjl,mkI]
theorem bisM{β:Type}{l:List IB}{Q:List (List Int)}{o:List Blk}{id:Int}{r:β}{fin:Int×Int→Option β}(hlo:l.map (·.1)=o)(hQ:InQ Q l)(hl:o.length≤1000000)(hp:o.Pairwise (fun x y=>x.1<y.1))(hfin:fin (((lbN o id:Nat):Int),((lbN o id:Nat):Int))=some r):
    Z.loop (fun(s26:(Int)×(Int)) k27=>
 (bif (Z.ilt s26.1 s26.2)then Z.bnd (Z.wrap .i64 (Z.sub s26.2 s26.1)) fun(x28:Int)=>
 if(Z.IsZ 2)then none
 else Z.bnd (Z.wrap .i64 (Z.tdiv x28 2)) fun(x31:Int)=>
 Z.bnd (Z.wrap .i64 (Z.add s26.1 x31)) fun(x32:Int)=>
 if(Z.Ix x32 (Z.xlen (.ref 0 0 (l.map mkI).length (l.map mkI).length:MixE MBlk)))then if(Z.XPt [l.map mkI] (.ref 0 0 (l.map mkI).length (l.map mkI).length) (Z.toN x32))then if(Z.XPt [l.map mkI] (.ref 0 0 (l.map mkI).length (l.map mkI).length) (Z.toN x32))then Z.bnd (Z.xat [l.map mkI] (.ref 0 0 (l.map mkI).length (l.map mkI).length) (Z.toN x32) (0,(0,((MixE.nil:MixE (Int)),())))) fun(x39:MBlk)=>
 if(Z.XOk Q x39.2.2.1)then Z.bnd (Z.xget Q x39.2.2.1) fun(x42:List (Int))=>
 Z.bind (zW3 (x39.1,(x39.2.1,(x42,())))) fun(x43:Int)=>
 (bif (Z.ilt x43 id)then Z.bnd (Z.wrap .i64 (Z.add x32 1)) fun(x44:Int)=>
 k27 (x44,s26.2)
 else k27 (s26.1,x32))
 else none
 else none
 else none
 else none
 else fin s26)) (0,(Z.ofN (Z.xlen (.ref 0 0 (l.map mkI).length (l.map mkI).length:MixE MBlk))))=some r:=by
  have hll:(l.map mkI).length=o.length:=by rw[←hlo];simp
  refine bis (s:=o) (id:=id) (by omega) (by simp only[Z.ofN,Z.xlen];rw[hll]) hp (fun lo hi k hlt hh hm ka kb=>?_) (fun k=>?_)
  · dsimp only
    refine xJa hlt (by omega) ?_
    obtain⟨i,a1,a2,a3,a4,a5⟩:=atM hlo hQ hm hl;refine zQb a1 (zQb a2 (zQb a2 (zQi a3 ?_)));refine zQb a4 (zQi a5 ?_);refine zQh (y:=o[lo+(hi-lo)/2].1) rfl ?_
    by_cases hs:o[lo+(hi-lo)/2].1<id
    · refine zQq (Qu hs) ?_
      exact zQi (zY5 (by omega)) (ka hs)
    ·exact zQs (Qx hs) (kb hs)
  · dsimp only
    exact zQs (Qx (by omega)) hfin
theorem insM{β:Type}{l:List IB}{Q:List (List Int)}{o:List Blk}{b:Blk}{p:Nat}{r:β}{fin:(List (List Int))×(List MBlk)→Option β}(hlo:l.map (·.1)=o)(hb:b.2.2.1.length≤2000000)(hl:o.length≤100000)(hp:p≤o.length)(hfin:fin (Q++[b.2.2.1],(l.take p++(b,Q.length)::l.drop p).map mkI)=some r):
    Z.bind (zW4 (b.1,(b.2.1,(b.2.2.1,())))) (fun(x65:Blk)=>
 Z.bnd (Z.app Q (x65.2.2.1::([]:List (List (Int))))) fun(x66:List (List (Int)))=>
 if(Z.XGr [l.map mkI] (.ref 0 0 (l.map mkI).length (l.map mkI).length))then if(Z.EqN (Z.len [l.map mkI]) 1)then Z.bind (Z.yXm (Z.xlen (.ref 0 0 (l.map mkI).length (l.map mkI).length:MixE MBlk)) (fun(k71:Nat)=>zQl (k71,(x66,((Z.xget [l.map mkI] (.ref 0 0 (l.map mkI).length (l.map mkI).length)),((p:Int),((x65.1,(x65.2.1,((Z.xrow (Z.len Q) x65.2.2.1),())))::([]:List MBlk))))))) (zQk (x66,((p:Int),((x65.1,(x65.2.1,((Z.xrow (Z.len Q) x65.2.2.1),())))::([]:List MBlk)))))) fun(x72:(List (List (Int)))×(List MBlk))=>
 if(Z.Lt (Z.xlen (.ref 0 0 (l.map mkI).length (l.map mkI).length:MixE MBlk)) (Z.len x72.2))then fin x72
 else none
 else none
 else none)=some r:=by
  have hll:(l.map mkI).length=o.length:=by rw[←hlo];simp
  refine zQh (y:=b) (zZy b.1 b.2.1 b.2.2.1 hb) ?_;refine zQi (y:=Q++[b.2.2.1]) rfl ?_;refine zQb (r1_gr _) (zQb rfl ?_);rw[vYk];have hany:=wX0 (Q++[b.2.2.1]) (l.map mkI) (mkI (b,Q.length)) p (by omega) (by omega)
  refine zQh hany ?_;have e:(l.map mkI).take p++mkI (b,Q.length)::(l.map mkI).drop p=(l.take p++(b,Q.length)::l.drop p).map mkI:=by
    rw[Qw,Qg,J1,J9]
  rw[e];refine zQb ?_ hfin;show(l.map mkI).length<((l.take p++(b,Q.length)::l.drop p).map mkI).length;simp only[Qh,Q5,Jc,Jf,J6];omega
theorem uQd{β:Type}{s:List Blk}{r:β}{fin:(MixE MBlk)×((List (List MBlk))×((List (List (Int)))×(Int)))→Option β}(hl:s.length≤100000)(hd:∀x∈s,x.2.2.1.length≤2000000)
    (hfin:fin (.ref 0 0 (zM s).length (zM s).length,([zM s],(s.map fun x=>x.2.2.1,(s.length:Int))))=some r):
    Z.loop (fun(s9:(MixE MBlk)×((List (List MBlk))×((List (List (Int)))×(Int)))) k10=>
 (bif (Z.ilt s9.2.2.2 (Z.ofN (Z.len s)))then if(Z.Ix s9.2.2.2 (Z.len s))then Z.bnd (Z.get s (Z.toN s9.2.2.2) (0,(0,(([]:List (Int)),())))) fun(x13:Blk)=>
 Z.bind (zW4 (x13.1,(x13.2.1,(x13.2.2.1,())))) fun(x14:Blk)=>
 Z.bnd (Z.app s9.2.2.1 (x14.2.2.1::([]:List (List (Int))))) fun(x15:List (List (Int)))=>
 if(Z.XGr s9.2.1 s9.1)then if(Z.EqN (Z.len ((x14.1,(x14.2.1,((Z.xrow (Z.len s9.2.2.1) x14.2.2.1),())))::([]:List MBlk))) 0)then Z.bnd (Z.wrap .i64 (Z.add s9.2.2.2 1)) fun(x20:Int)=>
 k10 (s9.1,(s9.2.1,(x15,x20)))
 else if(Z.Big (Z.xlen s9.1) (Z.len ((x14.1,(x14.2.1,((Z.xrow (Z.len s9.2.2.1) x14.2.2.1),())))::([]:List MBlk))) 40)then none
 else Z.bnd (Z.xapp s9.2.1 s9.1 ((x14.1,(x14.2.1,((Z.xrow (Z.len s9.2.2.1) x14.2.2.1),())))::([]:List MBlk))) fun(x23:List (List MBlk))=>
 Z.bnd (Z.wY1 s9.1 (Z.len ((x14.1,(x14.2.1,((Z.xrow (Z.len s9.2.2.1) x14.2.2.1),())))::([]:List MBlk)))) fun(x24:MixE MBlk)=>
 Z.bnd (Z.wrap .i64 (Z.add s9.2.2.2 1)) fun(x25:Int)=>
 k10 (x24,(x23,(x15,x25)))
 else none
 else none
 else fin s9)) ((Z.xnew (α:=MBlk) 0 (Z.toN 0)),((([]:List MBlk)::([]:List (List MBlk))),(([]:List (List (Int))),0)))=some r:=by
  refine zWx (fun(d:(MixE MBlk)×((List (List MBlk))×((List (List (Int)))×(Int))))=>∃i:Nat,i≤s.length∧d=(.ref 0 0 i i,([(zM s).take i],((s.take i).map fun x=>x.2.2.1,(i:Int))))) (fun d=>s.length-d.2.2.2.toNat) ?_ ⟨0,Jd _,rfl⟩ (yW3 _ _ (by omega))
  rintro d k ⟨i,hi,rfl⟩ hk;dsimp only;by_cases hlt:i<s.length
  · refine zQq (Qu (by simp only[Z.ofN,Z.len];omega)) ?_
    refine zQb (ixN hlt (by omega)) (zQi (getN s hlt _) ?_)
    refine zQh (zZy s[i].1 s[i].2.1 s[i].2.2.1 (hd _ (Ka hlt))) ?_;have hql:((s.take i).map fun x=>x.2.2.1).length=i:=by rw[Qh,Jf];omega
    have hzl:((zM s).take i).length=i:=by rw[Jf,xX3];omega
    refine zQi (y:=(s.take (i+1)).map fun x=>x.2.2.1) (by rw[K0 hlt,Qw];rfl) ?_
    have hg:=r1_gr ((zM s).take i);rw[hzl]at hg;refine zQb hg ?_;refine iteN (by show¬(1:Nat)=0;decide) ?_
    refine iteN (fun h=>?_) ?_
    · have h:2^44<(i+1)*41:=h
      omega
    refine zQi (y:=[(zM s).take (i+1)]) ?_ ?_
    · rw[wYz hlt]
      show [(zM s).take i].set 0 ([(zM s).take i].getD 0 []++[(s[i].1,(s[i].2.1,(Z.xrow ((s.take i).map fun x=>x.2.2.1).length s[i].2.2.1,())))])=_
      rw[hql];rfl
    refine zQi (y:=.ref 0 0 (i+1) (i+1)) rfl ?_;refine zQi (zY5 (by omega)) ?_
    exact hk _ ⟨i+1,hlt,rfl⟩ (by show s.length-(((i+1:Nat):Int)).toNat<s.length-((i:Int)).toNat;omega)
  · refine zQs (Qx (by simp only[Z.ofN,Z.len];omega)) ?_
    have e:i=s.length:=by omega
    subst e;have e2:(zM s).take s.length=zM s:=Q9 (by rw[xX3];exact Qe _)
    rw[Jj,e2];rw[xX3]at hfin;exact hfin
theorem vKi(s:List Blk)(hl:s.length≤100000)(hd:∀x∈s,x.2.2.1.length≤2000000):∃Q P d,zYn s=some ((Q,P),d)∧Rp Q P d s:=by
 refine⟨_,_,_, ?_, .inr ⟨zlF 0 s,rfl,rfl,xQj 0 s,wYw s hd⟩⟩;unfold zYn;refine zQb (Z.zYx.2 ⟨Int.le_refl _,by simp only[Z.ofN,Z.len];omega,by simp only[Z.ofN,Z.len];omega,by simp only[Z.ofN,Z.len];omega⟩) ?_
 refine zQb (Jd _) ?_;refine zQh (y:=[]) rfl ?_;exact uQd hl hd rfl
end Go.Proofs.Ytampmlalpifkoaa
