/- Filling rows: how deep blocks go, and how a stash is parted, by the blocks' numbers. -/
import Derived.Test.YtoceaomlohgkkaaStashP
import Derived.Test.YtoceaomlohgkkaaGeodeep
namespace Go.Proofs.Ytoceaomlohgkkaa
open Go.Eng
set_option linter.unusedVariables false
set_option linter.unusedSimpArgs false
abbrev MBlk:=Int×(Int×(MixE Int×Unit))
theorem wK8{α:Type}{Q:List (List α)}{k:Nat}{d:List α}(h:Q[k]?=some d):Z.XOk Q (Z.xrow k d)∧Z.xget Q (Z.xrow k d)=d∧Z.xlen (Z.xrow k d)=d.length:=by
 have hk:=(Qa.1 h).1;have hg:Q.getD k []=d:=by simp[List.getD,h]
 by_cases hd:d.length=0
 ·have:d=[]:=Qq.1 hd
  subst this;simp[Z.xrow,Z.XOk,MixE.xok,Z.xget,Z.xlen]
 ·refine⟨?_, ?_, ?_⟩
  ·simp only[Z.XOk,Z.xrow,if_neg hd,MixE.xok,Qc,decide_eq_true_eq,beq_iff_eq]
   refine⟨hk, ?_, ?_⟩<;>first|(rw[hg];done)|(rw[hg];omega)|omega
  ·simp only[Z.xrow,if_neg hd,Z.xget,hg,J1,Q4]
  ·simp only[Z.xrow,if_neg hd,Z.xlen]
theorem dp_ex{H A B:Nat}(hA:A<2^H)(hB:B<2^H):∃D,D≤H∧(∀r,r≤D→rowN H A r=rowN H B r)∧(D=H∨rowN H A (D+1)≠rowN H B (D+1)):=
 vQ4 _ _ H (by rw[xJk hA,xJk hB])
open Classical in
noncomputable def dpN(H A B:Nat):Nat:=if h:A<2^H∧B<2^H then Classical.choose (dp_ex h.1 h.2)else 0
theorem wZp{H A B:Nat}(hA:A<2^H)(hB:B<2^H):dpN H A B≤H∧(∀r,r≤dpN H A B→rowN H A r=rowN H B r)∧(dpN H A B=H∨rowN H A (dpN H A B+1)≠rowN H B (dpN H A B+1)):=by
 unfold dpN;rw[dif_pos ⟨hA,hB⟩];exact Classical.choose_spec (dp_ex hA hB)
def stp(m row:Nat)(dp:Nat→Nat)(p:List Nat×List Nat)(i:Nat):List Nat×List Nat:=if p.1.length<m∧row≤dp i then(p.1++[i],p.2)else(p.1,p.2++[i])
def pass(m row:Nat)(dp:Nat→Nat)(l:List Nat):List Nat×List Nat:=l.foldl (stp m row dp) ([],[])
theorem yY6(m row:Nat)(dp:Nat→Nat)(l:List Nat){q:Nat}(h:q<l.length):pass m row dp (l.take (q+1))=stp m row dp (pass m row dp (l.take q)) l[q]:=by
 unfold pass;rw[Ks h,List.foldl_append];rfl
theorem stp_in{m row q:Nat}{dp:Nat→Nat}{l:List Nat}{p:List Nat×List Nat}{x:Nat}(hx:x∈l)(h:p.1.length≤m∧p.1.length+p.2.length=q∧(∀i∈p.1,i∈l)∧∀i∈p.2,i∈l):
  (stp m row dp p x).1.length≤m∧(stp m row dp p x).1.length+(stp m row dp p x).2.length=q+1∧(∀i∈(stp m row dp p x).1,i∈l)∧∀i∈(stp m row dp p x).2,i∈l:=by
 obtain⟨a,b,c,d⟩:=h;unfold stp;split
 ·rename_i hh
  refine⟨by simp;omega,by simp;omega,fun i hi=>?_,d⟩
  rcases Qw.1 hi with hi|hi
  ·exact c i hi
  ·rw[List.mem_singleton]at hi;subst hi;exact hx
 ·refine⟨a,by simp;omega,c,fun i hi=> ?_⟩
  rcases Qw.1 hi with hi|hi
  ·exact d i hi
  ·rw[List.mem_singleton]at hi;subst hi;exact hx
theorem yKg(m row:Nat)(dp:Nat→Nat)(l:List Nat):∀q,q≤l.length→(pass m row dp (l.take q)).1.length≤m∧(pass m row dp (l.take q)).1.length+(pass m row dp (l.take q)).2.length=q∧(∀i∈(pass m row dp (l.take q)).1,i∈l)∧∀i∈(pass m row dp (l.take q)).2,i∈l
 |0,_=>by simp[pass]
 |q+1,h=>by
  rw[yY6 m row dp l (by omega)]
  exact stp_in (J0 (by omega)) (yKg m row dp l q (by omega))
def zKb(H m:Nat)(dp:Nat→Nat)(n:Nat):Nat→List Nat
 |0=>List.range n
 |k+1=>(pass m (H-k) dp (zKb H m dp n k)).2
def rowI(H m:Nat)(dp:Nat→Nat)(n r:Nat):List Nat:=(pass m r dp (zKb H m dp n (H-r))).1
def zJf(H m:Nat)(dp:Nat→Nat)(n k:Nat):List (List Nat):=(List.range (H+1)).map fun r=>if H<r+k then rowI H m dp n r else []
theorem yWw(H m:Nat)(dp:Nat→Nat)(n:Nat):∀k,(zKb H m dp n k).length≤n∧∀i∈zKb H m dp n k,i<n
 |0=>by simp[zKb]
 |k+1=>by
  obtain⟨a,b⟩:=yWw H m dp n k;have:=yKg m (H-k) dp (zKb H m dp n k) _ (Qf _);rw[Q4]at this;obtain⟨p1,p2,p3,p4⟩:=this;refine⟨?_,fun i hi=>b i (p4 i hi)⟩
  show(pass m (H-k) dp (zKb H m dp n k)).2.length≤n;omega
theorem vJp(H m:Nat)(dp:Nat→Nat)(n r:Nat):∀i∈rowI H m dp n r,i<n:=by
 have:=yKg m r dp (zKb H m dp n (H-r)) _ (Qf _);rw[Q4]at this;intro i hi;exact(yWw H m dp n _).2 i (this.2.2.1 i hi)
theorem yZd(H m:Nat)(dp:Nat→Nat)(n k:Nat):(zJf H m dp n k).length=H+1:=by simp[zJf]
theorem wXs(H m:Nat)(dp:Nat→Nat)(n k:Nat):∀l∈zJf H m dp n k,∀i∈l,i<n:=by
 intro l hl i hi;obtain⟨r,_,rfl⟩:=Q5.1 hl;split at hi
 ·exact vJp H m dp n r i hi
 ·simp at hi
theorem xXd(H m:Nat)(dp:Nat→Nat)(n:Nat):zJf H m dp n 0=List.replicate (H+1) []:=by
 refine List.ext_getElem (by simp[zJf]) fun i h1 h2=>?_
 have:i<H+1:=by simpa[zJf]using h1
 simp only[zJf,List.getElem_map,List.getElem_range,List.getElem_replicate];rw[if_neg (by omega)]
theorem xXe(H m:Nat)(dp:Nat→Nat)(n:Nat){k:Nat}(hk:k≤H):(zJf H m dp n k).set (H-k) (pass m (H-k) dp (zKb H m dp n k)).1=zJf H m dp n (k+1):=by
 refine List.ext_getElem (by simp[zJf]) fun i h1 h2=>?_
 have hi:i<H+1:=by simpa[zJf]using h2
 rw[List.getElem_set];simp only[zJf,List.getElem_map,List.getElem_range];by_cases e:H-k=i
 ·rw[if_pos e,if_pos (by omega)]
  unfold rowI;rw[←e,show H-(H-k)=k by omega]
 ·rw[if_neg e]
  by_cases h3:H<i+k
  ·rw[if_pos h3,if_pos (by omega)]
  ·rw[if_neg h3,if_neg (by omega)]
theorem xJj(H m:Nat)(dp:Nat→Nat)(n:Nat){k:Nat}(hk:k≤H):(zJf H m dp n k).set (H-k) []=zJf H m dp n k:=by
 refine List.ext_getElem (by simp) fun i h1 h2=>?_
 rw[List.getElem_set];split
 ·rename_i e
  subst e;simp only[zJf,List.getElem_map,List.getElem_range];rw[if_neg (by omega)]
 ·rfl
section
variable (s:List Blk)
def bI(i:Nat):Blk:=s.getD i noB
def mI(i:Nat):MBlk:=((bI s i).1,((bI s i).2.1,(Z.xrow i (bI s i).2.2.1,())))
def dQ:List (List Int):=s.map fun x=>x.2.2.1
theorem bI_all:(List.range s.length).map (bI s)=s:=by
 refine List.ext_getElem (by simp) fun i h1 h2=>?_
 simp[bI,List.getD,h2]
theorem vWv{i:Nat}(h:i<s.length):bI s i=s[i]:=by simp[bI,List.getD,h]
theorem vQ7{i:Nat}(h:i<s.length):(dQ s)[i]?=some (bI s i).2.2.1:=by rw[vWv s h];simp[dQ,h]
theorem wQ4{f:MBlk→Option Blk}(hf:∀e,Z.XOk (dQ s) e.2.2.1→f e=some (e.1,(e.2.1,(Z.xget (dQ s) e.2.2.1,())))):∀(l:List Nat),(∀i∈l,i<s.length)→Z.mapO f (l.map (mI s))=some (l.map (bI s))
 |[],_=>rfl
 |x::l,h=>by
  obtain⟨h1,h2,_⟩:=wK8 (vQ7 s (h x (by simp)))
  have ih:=wQ4 hf l fun i hi=>h i (by simp[hi])
  show((x::l).map (mI s)).mapM f=some ((x::l).map (bI s));have ih':(l.map (mI s)).mapM f=some (l.map (bI s)):=ih;have e:=hf (mI s x) h1;have e2:(mI s x).2.2.1=Z.xrow x (bI s x).2.2.1:=rfl
  rw[e2,h2]at e;simp only[Qh,Kj,e,ih',Option.bind_eq_bind,Jv,Option.pure_def];rfl
end
def refV{α:Type}(l:List (List α)):List (MixE α):=(List.range l.length).map fun j=>.ref j 0 (l.getD j []).length (l.getD j []).length
theorem zX7{α:Type}(l:List (List α)):(refV l).length=l.length:=by simp[refV]
theorem wXv{α:Type}(l:List (List α)){j:Nat}(h:j<l.length)(z:MixE α):(refV l).getD j z=.ref j 0 l[j].length l[j].length:=by
 simp[refV,List.getD,h]
theorem wXu{α:Type}(l:List (List α)){j:Nat}(h:j<l.length)(r:List α):(refV l).set j (.ref j 0 r.length r.length)=refV (l.set j r):=by
 apply Ji;intro i;by_cases hi:i<l.length
 ·by_cases e:i=j
  ·subst e
   rw[Qj (by rw[zX7];exact hi)]
   simp[refV,hi,List.getD]
  ·rw[Qe (Ne.symm e)]
   simp[refV,hi,List.getD,Qe (Ne.symm e),List.getElem_set_ne (Ne.symm e)]
 ·rw[Jl (by rw[List.length_set,zX7];omega),Jl (by rw[zX7,List.length_set];omega)]
theorem xJm{α:Type}(n:Nat):(Z.xK4 n:List (MixE α))=refV (List.replicate n []):=by
 unfold Z.xK4 refV;rw[List.length_replicate];apply Jo;intro j hj;have:j<n:=List.mem_range.1 hj;simp[List.getD,this]
theorem vWg{B S H W:Int}{s:List Blk}(h:ckS B S H W s=0):(zXn B S H W).2=0∧stB B S H s=true:=by
 unfold ckS at h;split at h
 ·rename_i h0
  split at h
  ·rename_i h1;exact⟨h0,h1⟩
  ·simp at h
 ·simp at h
theorem ck_two(B S H W:Int)(s:List Blk):ckS B S H W s=0∨ckS B S H W s=8:=by
 unfold ckS;split
 ·split
  ·exact .inl rfl
  ·exact .inr rfl
 ·exact .inr rfl
theorem wYc(x:Blk):zYi ((x.1,(x.2.1,(x.2.2.1,()))),(x.1,(x.2.1,(x.2.2.1,()))))=some true:=by rw[yYz,wZ7]
theorem zJw(s:List Blk)(hl:s.length≤1000000):zXg (s,s)=some true:=by
 unfold zXg;dsimp only;refine zQ0 (by simp[Z.ine]) ?_
 refine zWc (fun(d:Int)=>∃i:Nat,d=i∧i≤s.length) (fun d=>s.length-d.toNat) ?_ ⟨0,rfl,Jj _⟩ (yJw _ _ (by omega))
 rintro d k ⟨i,rfl,hi⟩ hk;by_cases hlt:i<s.length
 ·refine zQ9 (decide_eq_true (by simp only[Z.ofN,Z.len];omega)) ?_
  refine zQc (ixN hlt (by omega)) (zQo (getN s hlt _) ?_)
  refine zQc (ixN hlt (by omega)) (zQo (getN s hlt _) ?_)
  refine zQp (wYc s[i]) ?_;refine zQ0 rfl ?_;refine zQo (yYm (by omega)) ?_
  exact hk _ ⟨i+1,rfl,hlt⟩ (by show s.length-(((i+1:Nat):Int)).toNat<s.length-((i:Int)).toNat;omega)
 ·exact zQ0 (decide_eq_false (by simp only[Z.ofN,Z.len];omega)) rfl
theorem wYj{α:Type}(P:List (List α)):Z.mapO (fun(e84:MixE α)=>
 if(Z.XOk P e84)then Z.bnd (Z.xget P e84) fun(x87:List α)=>
 some x87
 else none) (refV P)=some P:=by
  have key:∀(l:List (MixE α)) (r:List (List α)),l.length=r.length→(∀(i:Nat) (h:i<l.length) (h':i<r.length),Z.XOk P l[i]∧Z.xget P l[i]=r[i])→Z.mapO (fun(e84:MixE α)=>
 if(Z.XOk P e84)then Z.bnd (Z.xget P e84) fun(x87:List α)=>
 some x87
 else none) l=some r:=by
    intro l;induction l with
    | nil=>intro r h _;cases r with
      |nil=>rfl
      |cons y r=>simp at h
    | cons x l ih=>
      intro r h hf;cases r with
      |nil=>simp at h
      | cons y r=>
        obtain⟨a,b⟩:=hf 0 (by simp) (by simp)
        have ih':=ih r (by simpa using h) fun i h1 h2=>hf (i+1) (by simp;omega) (by simp;omega)
        show List.mapM _ (x::l)=_;rw[Kj];have e0:(if Z.XOk P x then Z.bnd (Z.xget P x) fun(x87:List α)=>some x87 else none)=some y:=zQc a (zQo b rfl)
        have ih2:List.mapM (fun(e84:MixE α)=>if(Z.XOk P e84)then Z.bnd (Z.xget P e84) fun(x87:List α)=>some x87 else none) l=some r:=ih'
        rw[e0,ih2];rfl
  refine key _ _ (zX7 P) fun i h h'=>?_
  have e:(refV P)[i]=.ref i 0 P[i].length P[i].length:=by simp[refV,List.getD,h']
  have e2:P.getD i []=P[i]:=by simp[List.getD,h']
  rw[e];constructor
  ·simp only[Z.XOk,MixE.xok,e2,decide_eq_true h'];simp
  · show((P.getD i []).drop 0).take P[i].length=_
    rw[e2,J1,Q4]
end Go.Proofs.Ytoceaomlohgkkaa
