/- Devices: what was seen, done again. -/
import Derived.Test.YtghnechjgchajaaDevF
import Derived.Test.YtghnechjgchajaaDevH
namespace Go.Proofs.Ytghnechjgchajaa
open Go.Eng
set_option linter.unusedVariables false
set_option linter.unusedSimpArgs false
def sumS(l:List SeeT)(k:Nat):Nat:=((l.take k).map fun x=>min x.2.2.2.1.length 100000).sum
theorem xWu(l:List SeeT){k:Nat}(h:k<l.length):sumS l (k+1)=sumS l k+min l[k].2.2.2.1.length 100000:=by
 unfold sumS;rw[Qr h,Qx,List.sum_append];simp
theorem wZw(l:List SeeT):∀k,sumS l k≤100000*k
 |0=>by simp[sumS]
 | k+1=>by
  have ih:=wZw l k;by_cases h:k<l.length
  ·rw[xWu l h];omega
  ·have:sumS l (k+1)=sumS l k:=by unfold sumS;rw[Qf (by omega),Qf (by omega)]
   omega
theorem uXk(l:List SeeT):∃g,zXr l=some g:=by
 refine⟨decide (2000<l.length)||decide (200000<sumS l 2000), ?_⟩;unfold zXr;have fin:∀n:Nat,n=sumS l 2000→(bif (Z.igt (Z.ofN (Z.len l)) 2000)then some true else some (Z.zQi false true (Z.igt (n:Int) 200000)))=some (decide (2000<l.length)||decide (200000<sumS l 2000)):=fun n hn=>by
  by_cases h:2000<l.length
  ·rw[decide_eq_true h]
   exact zQe (by simp only[Z.igt,Z.ofN,Z.len];exact decide_eq_true (by omega)) rfl
  ·rw[decide_eq_false h]
   refine zQd (by simp only[Z.igt,Z.ofN,Z.len];exact decide_eq_false (by omega)) ?_
   rw[show Z.zQi false true (Z.igt (n:Int) 200000)=decide ((n:Int)>200000)from rfl,Bool.false_or,hn]
   congr 1;exact decide_eq_decide.2 (by omega)
 refine zQn (fun(s:Int×Int)=>∃i:Nat,i≤l.length∧i≤2000∧s=((sumS l i:Int),(i:Int))) (fun s=>2000-s.2.toNat) ?_ ⟨0,Qw _,by omega,rfl⟩ (zXd 2000 _ (by omega))
 rintro s k ⟨i,hi,hi2,rfl⟩ hk;dsimp only;by_cases h:i<l.length
 ·refine zQe (decide_eq_true (by simp only[Z.ofN,Z.len];omega)) ?_
  by_cases h2:i<2000
  ·refine zQe (by simp[Z.zQi,Z.ilt];omega) ?_
   refine zQa (ixND h) (zQb (zWg l h _) ?_);have e:=xWu l h;have b:=wZw l i;rw[uK4];refine zQb (y:=((sumS l (i+1):Nat):Int)) ((zY1 (by simp only[Z.add];omega)).trans (by simp only[Z.add];omega)) ?_
   refine zQb (zQ1 (by omega)) ?_
   exact hk _ ⟨i+1,h,h2,rfl⟩ (by show 2000-((i+1:Nat):Int).toNat<2000-((i:Int)).toNat;omega)
  ·refine zQd (by simp[Z.zQi,Z.ilt];omega) ?_
   have:i=2000:=by omega
   subst this;exact fin _ rfl
 ·refine zQd (decide_eq_false (by simp only[Z.ofN,Z.len];omega)) ?_
  refine fin _ ?_;unfold sumS;rw[Qf (by omega),Qf (by omega)]
theorem segR{α:Type}(l:List α):Z.app (Z.seg ([]:List α) 0 0) l=l:=rfl
theorem wZu(l:List SeeT)(hl:l.length≤2000000)(hb:∀x∈l,x.2.2.2.1.length≤2000000):zKz l=some l:=by
 unfold zKz;refine zQa rfl ?_;refine zQn (fun(s:List SeeT×Int)=>∃i:Nat,i≤l.length∧s=(l.take i,(i:Int))) (fun s=>l.length-s.2.toNat) ?_ ⟨0,Qw _,rfl⟩ (zXd _ _ (by omega))
 rintro s k ⟨i,hi,rfl⟩ hk;dsimp only;by_cases h:i<l.length
 ·refine zQe (decide_eq_true (by simp only[Z.ofN,Z.len];omega)) ?_
  refine zQa (ixND h) (zQb (zWg l h _) ?_);have hx:=hb _ (Qh h);refine zQa (Qg _) ?_;refine zWa (bigD (by show 0≤2000000;omega) (by simp only[Z.len];omega) (by omega)) ?_
  refine zQb (y:=l[i].2.2.2.1) (segR _) ?_;refine zQa (Qg _) ?_;refine zWa (bigD (by simp only[Z.len,J1];omega) (by show 1≤2000000;omega) (by omega)) ?_
  refine zQa rfl ?_;refine zQb (y:=l.take (i+1)) (by rw[Qr h];rfl) ?_
  refine zQb (zQ1 (by omega)) ?_
  refine zQa rfl ?_;exact hk _ ⟨i+1,h,rfl⟩ (by show l.length-((i+1:Nat):Int).toNat<l.length-((i:Int)).toNat;omega)
 ·refine zQd (decide_eq_false (by simp only[Z.ofN,Z.len];omega)) ?_
  rw[Qf (by omega)]
theorem xYo(l:List SeeT)(hl:l.length≤1000000000):zZo (l,l)=some true:=by
 unfold zZo;refine zQd (by simp[Z.ine]) ?_
 refine zQn (fun(s:Int)=>∃i:Nat,s=(i:Int)∧i≤l.length) (fun s=>l.length-s.toNat) ?_ ⟨0,rfl,Qw _⟩ (zXd _ _ (by omega))
 rintro s k ⟨i,rfl,hi⟩ hk;by_cases h:i<l.length
 ·have g:=zWg l h (0,(0,(0,(([]:List (Int)),()))))
  have x:=ixND h;refine zQe (decide_eq_true (by simp only[Z.ofN,Z.len];omega)) ?_
  refine zQa x (zQb g (zQa x (zQb g ?_)));refine zQd (by simp[Z.ine]) ?_
  refine zQa x (zQb g (zQa x (zQb g ?_)));refine zQd (by simp[Z.zQi,Z.ine]) ?_
  refine zQa x (zQb g (zQa x (zQb g ?_)));refine zQd (by simp[Z.zQi,Z.ine]) ?_
  refine zQa x (zQb g (zQa x (zQb g ?_)));refine zQm (yKz _ _) ?_;rw[decide_eq_true rfl];refine zQd rfl ?_;refine zQb (zQ1 (by omega)) ?_
  exact hk _ ⟨i+1,rfl,h⟩ (by show l.length-((i+1:Nat):Int).toNat<l.length-((i:Int)).toNat;omega)
 ·exact zQd (decide_eq_false (by simp only[Z.ofN,Z.len];omega)) rfl
theorem wJ7(L:Lev)(hl:L.length≤1000000)(hf:L.flatten.length≤1000000):zZf L=some L:=by
 unfold zZf;refine zQn (fun(s:MixE (List Int)×(List Lev×Int))=>∃i:Nat,i≤L.length∧s=(.ref 0 0 i i,([L.take i],(i:Int)))) (fun s=>L.length-s.2.2.toNat) ?_ ⟨0,Qw _,rfl⟩ (zXd _ _ (by omega))
 rintro s k ⟨i,hi,rfl⟩ hk;dsimp only;have tl:(L.take i).length=i:=by rw[J1];omega
 by_cases h:i<L.length
 ·refine zQe (decide_eq_true (by simp only[Z.ofN,Z.len];omega)) ?_
  refine zQa (ixND h) (zQb (zWg L h _) ?_);have hx:=yQm L h;refine zQa (Qg _) ?_;refine zWa (bigD (by show 0≤2000000;omega) (by simp only[Z.len];omega) (by omega)) ?_
  refine zQb (y:=L[i]) (segR _) ?_;refine zQa (Qg _) ?_;refine zQa (by simp[Z.XGr,MixE.xgr,tl]) ?_
  refine iteN (by show¬(1:Nat)=0;decide) ?_
  refine zWa (bigD (by show i≤2000000;omega) (by show 1≤2000000;omega) (by omega)) ?_
  refine zQb (y:=[L.take (i+1)]) ?_ ?_
  ·show [L.take i].set 0 ([L.take i].getD 0 []++[L[i]])=_
   rw[Qr h];rfl
  refine zQb (y:=MixE.ref 0 0 (i+1) (i+1)) rfl ?_;refine zQb (zQ1 (by omega)) ?_
  exact hk _ ⟨i+1,h,rfl⟩ (by show L.length-((i+1:Nat):Int).toNat<L.length-((i:Int)).toNat;omega)
 ·refine zQd (decide_eq_false (by simp only[Z.ofN,Z.len];omega)) ?_
  have hi2:i=L.length:=by omega
  subst hi2;rw[Q2];refine zQa (by simp[Z.XW,MixE.xw]) ?_
  refine zQb (y:=L) ?_ rfl;show(L.drop 0).take L.length=L;rw[Jb,Qf (Qg _)]
theorem twinG(d:List Lev)(hb:DevB d):yZb (d,())=some (d,()):=by
 unfold yZb;dsimp only;have hn:=hb.many;refine zQa rfl ?_;refine zQn (fun(s:Int×List Lev)=>∃i:Nat,i≤d.length∧s=((i:Int),d.take i)) (fun s=>d.length-s.1.toNat) ?_ ⟨0,Qw _,rfl⟩ (zXd _ _ (by omega))
 rintro s k ⟨i,hi,rfl⟩ hk;dsimp only;by_cases h:i<d.length
 ·refine zQe (decide_eq_true (by simp only[Z.ofN,Z.len];omega)) ?_
  refine zQa (ixND h) (zQb (zWg d h _) ?_);have hL:=hb.lev _ (Qh h);have hF:=hb.flat _ (Qh h);refine zQm (wJ7 d[i] (by omega) hF) ?_
  refine zQa (Qg _) ?_;refine zWa (bigD (by simp only[Z.len,J1];omega) (by show 1≤2000000;omega) (by omega)) ?_
  refine zQa rfl ?_;refine zQb (y:=d.take (i+1)) (by rw[Qr h];rfl) ?_
  refine zQb (zQ1 (by omega)) ?_
  refine zQa rfl ?_;exact hk _ ⟨i+1,h,rfl⟩ (by show d.length-((i+1:Nat):Int).toNat<d.length-((i:Int)).toNat;omega)
 ·refine zQd (decide_eq_false (by simp only[Z.ofN,Z.len];omega)) ?_
  rw[Qf (by omega)]
def yWx(d:List Lev)(n:Nat):List (MixE Byt):=(List.range n).map fun j=>Z.xrow j (d.getD j [])
theorem vQ9(d:List Lev){i:Nat}(h:i<d.length):yWx d (i+1)=yWx d i++[Z.xrow i d[i]]:=by
 unfold yWx;rw[List.range_succ,Qx];simp[List.getD,h]
theorem yQd(d:List Lev)(n:Nat):(yWx d n).length=n:=by simp[yWx]
theorem twinR(d:List Lev)(hb:DevB d):zYn (d,())=some ((d,[yWx d d.length]),(.ref 0 0 d.length d.length,())):=by
 unfold zYn;dsimp only;have hn:=hb.many;refine zQn (fun(s:Int×(List (List (MixE Byt))×(List Lev×MixE (MixE Byt))))=>∃i:Nat,i≤d.length∧s=((i:Int),([yWx d i],(d.take i, .ref 0 0 i i)))) (fun s=>d.length-s.1.toNat) ?_ ⟨0,Qw _,rfl⟩ (zXd _ _ (by omega))
 rintro s k ⟨i,hi,rfl⟩ hk;dsimp only;have tl:(d.take i).length=i:=by rw[J1];omega
 by_cases h:i<d.length
 ·refine zQe (decide_eq_true (by simp only[Z.ofN,Z.len];omega)) ?_
  refine zQa (ixND h) (zQb (zWg d h _) ?_);have hL:=hb.lev _ (Qh h);have hF:=hb.flat _ (Qh h);refine zQm (wJ7 d[i] (by omega) hF) ?_
  refine zQb (y:=d.take (i+1)) (Qr h).symm ?_;refine zQa (by simp[Z.XGr,MixE.xgr,yQd]) ?_
  refine iteN (by show¬(1:Nat)=0;decide) ?_
  refine zWa (bigD (by show i≤2000000;omega) (by show 1≤2000000;omega) (by omega)) ?_
  refine zQb (y:=[yWx d (i+1)]) ?_ ?_
  ·rw[vQ9 d h]
   show [yWx d i].set 0 ([yWx d i].getD 0 []++[Z.xrow (d.take i).length d[i]])=_;rw[tl];rfl
  refine zQb (y:=MixE.ref 0 0 (i+1) (i+1)) rfl ?_;refine zQb (zQ1 (by omega)) ?_
  exact hk _ ⟨i+1,h,rfl⟩ (by show d.length-((i+1:Nat):Int).toNat<d.length-((i:Int)).toNat;omega)
 ·refine zQd (decide_eq_false (by simp only[Z.ofN,Z.len];omega)) ?_
  have hi2:i=d.length:=by omega
  subst hi2;rw[Q2]
theorem xW7(d:List Lev){l:List SeeT}{q:Nat}(h:q<l.length):reps d (l.take (q+1))=if l[q].1=2 then wrB (reps d (l.take q)) l[q].2.1 l[q].2.2.1 l[q].2.2.2.1 else reps d (l.take q):=by
 unfold reps;rw[Qr h,List.foldl_append];rfl
theorem vZn{d:List Lev}{x:SeeT}(hm:zW5 d x):∃(i:Nat) (hi:i<d.length) (k:Nat) (hk:k<d[i].length),x.2.1=(i:Int)∧x.2.2.1=((k+1:Nat):Int)∧x.2.2.2.1.length=d[i][k].length:=by
 obtain⟨i,hi,hie,hat⟩:=xQ4 hm.2.1;obtain⟨k,hk,hxe⟩:=hat 0 (by simp)
 replace hxe:x.2.2.1=((k+1:Nat):Int):=hxe;have hlq:=hm.2.2;rw[hie,hxe,zYv hi hk]at hlq;exact⟨i,hi,k,hk,hie,hxe,hlq⟩
theorem yKu{d:List Lev}{l:List SeeT}(hall:∀x∈l,zW5 d x):∀q:Nat,q≤l.length→dims d=dims (reps d (l.take q))
 |0,_=>rfl
 | q+1,hq=>by
  have ih:=yKu hall q (by omega)
  rw[xW7 d (show q<l.length from hq)]
  split
  ·obtain⟨i,hi,k,hk,e1,e2,e3⟩:=vZn (hall _ (Qh (show q<l.length from hq)))
   rw[e1,e2];exact xQy ih hi hk _ e3
  ·exact ih
theorem yJ5{α:Type}{j:Nat}{L:List α}(h:L.length≠0):Z.xrow j L=.ref j 0 L.length L.length:=if_neg h
theorem wZf{c:CfgT}{d:List Lev}{l:List SeeT}(hok:zZs c d)(hall:∀x∈l,zW5 d x)(hl:l.length≤2000000):zK4 ((d,()),l)=some (reps d l,()):=by
 unfold zK4;dsimp only;obtain⟨b1,b2⟩:=zK1 hok;refine zQm (twinR d (xZk hok)) ?_;refine zQn (fun(s:Int×List Lev)=>∃q:Nat,q≤l.length∧s=((q:Int),reps d (l.take q))) (fun s=>l.length-s.1.toNat) ?_ ⟨0,Qw _,rfl⟩ (zXd _ _ (by omega))
 rintro s k ⟨q,hq,rfl⟩ hk;dsimp only;have hd:=yKu hall q hq;by_cases hlt:q<l.length
 ·have hs:=xW7 d hlt
  have dec:l.length-((q+1:Nat):Int).toNat<l.length-((q:Int)).toNat:=by omega
  have g:=zWg l hlt (0,(0,(0,(([]:List (Int)),()))));have ix:=ixND hlt;refine zQe (decide_eq_true (by simp only[Z.ofN,Z.len];omega)) ?_
  refine zQa ix (zQb g ?_);by_cases h2:l[q].1=2
  ·refine zQe (by simp[Z.ieq,h2]) ?_
   refine zQa ix (zQb g ?_);obtain⟨i,hi,x,hx,e1,e2,e3⟩:=vZn (hall _ (Qh hlt));rw[if_pos h2,e1,e2]at hs;have b3:=b2 _ (Qh hi);have hbl:=b3.2 _ (Qh hx);have hn:=zYu hd
   generalize reps d (l.take q)=D at *;have hi':i<D.length:=by omega
   have hL:=zKd hd hi hi';have hLl:=yXx hL;have hgD:D.getD i []=D[i]:=by simp[List.getD,hi']
   rw[xWm hi']at hs;have er:Z.xrow i d[i]=.ref i 0 d[i].length d[i].length:=yJ5 (by omega)
   have hx':x<D[i].length:=by omega
   rw[e1];refine zQa ⟨by omega,by show(i:Int).toNat<d.length;omega⟩ ?_
   have p2:Z.XPt [yWx d d.length] (.ref 0 0 d.length d.length:MixE (MixE Byt)) (Z.toN (i:Int)):=by simp[Z.XPt,MixE.xpt,yQd,Z.toN,hi]
   refine zQa p2 (zQa p2 ?_);refine zQb (y:=MixE.ref i 0 d[i].length d[i].length) ?_ ?_
   ·show(yWx d d.length).getD (0+i) _=_
    rw[Jc,←er];simp[yWx,List.getD,hi]
   refine zQa ix (zQb g ?_);rw[e2];refine zQb (sub1 (by omega)) ?_
   refine zQa ix (zQb g ?_);refine zQa (Qg _) ?_;refine zWa (bigD (by show 0≤2000000;omega) (by simp only[Z.len];omega) (by omega)) ?_
   refine zQb (y:=l[q].2.2.2.1) (segR _) ?_;refine zQa ⟨by omega,by show(x:Int).toNat<d[i].length;omega⟩ ?_
   have q2:Z.XPt D (.ref i 0 d[i].length d[i].length:MixE Byt) (Z.toN (x:Int)):=by
    simp only[Z.XPt,MixE.xpt,hgD,decide_eq_true hi'];simp[Z.toN,hLl,hx']
   refine zQa q2 (zQa q2 ?_);refine zQb (y:=D.set i (D[i].set x l[q].2.2.2.1)) ?_ ?_
   ·show D.set i ((D.getD i []).set (0+x) _)=_
    rw[hgD,Jc]
   refine zQb (zQ1 (by omega)) ?_
   exact hk _ ⟨q+1,hlt,by rw[hs]⟩ dec
  ·refine zQd (by simp[Z.ieq,h2]) ?_
   rw[if_neg h2]at hs;refine zQb (zQ1 (by omega)) ?_
   exact hk _ ⟨q+1,hlt,by rw[hs]⟩ dec
 ·refine zQd (decide_eq_false (by simp only[Z.ofN,Z.len];omega)) ?_
  rw[Qf (by omega)]at hd⊢
  clear hk;generalize reps d l=D at *;have hn:=zYu hd;refine zQa (by simp[Z.XOk,MixE.xok,yQd]) ?_
  have hx:Z.xget [yWx d d.length] (.ref 0 0 d.length d.length:MixE (MixE Byt))=yWx d d.length:=by
   show((yWx d d.length).drop 0).take d.length=_;rw[Jb,Qf (by rw[yQd];omega)]
  rw[hx];refine zQm (zJ7 (r:=D) (by rw[yQd];omega) fun i h h'=>?_) rfl
  have hi:i<d.length:=by rw[yQd]at h;exact h
  have hL:=zKd hd hi h';have hLl:=yXx hL;have b3:=b2 _ (Qh hi);have e:(yWx d d.length)[i]=.ref i 0 d[i].length d[i].length:=by
   rw[←yJ5 (by omega)]
   simp[yWx,List.getD,hi]
  rw[e];have hgD:D.getD i []=D[i]:=by simp[List.getD,h']
  refine zQa (by simp only[Z.XOk,MixE.xok,hgD,decide_eq_true h'];simp[hLl]) ?_
  refine zQb (y:=D[i]) ?_ rfl;show((D.getD i []).drop 0).take d[i].length=D[i];rw[hgD,Jb,Qf (by omega)]
theorem uWx(d:List Lev)(level:Int)(at_:List Int)(hl:d.length≤1000000000)(ha:at_.length≤1000000000):zKn ((d,()),(level,at_))=some (plB d level at_):=by
 unfold zKn;dsimp only;by_cases h0:level<0
 ·refine zQe (decide_eq_true h0) ?_
  rw[yK3 fun h=>by have:=h.1.1;omega]
 refine zQd (decide_eq_false h0) ?_;by_cases h1:(d.length:Int)≤level
 ·refine zQe (by simp only[Z.zQi,Z.ige,Z.ofN,Z.len];simpa using h1) ?_
  rw[yK3 fun h=>by have:=h.1.2;omega]
 refine zQd (by simp only[Z.zQi,Z.ige,Z.ofN,Z.len];simpa using h1) ?_
 obtain⟨i,rfl⟩:∃i:Nat,level=(i:Int):=⟨level.toNat,by omega⟩
 have hi:i<d.length:=by omega
 have hget:d.getD (i:Int).toNat []=d[i]:=by simp[List.getD,hi]
 refine zQn (fun(s:Int)=>∃q:Nat,s=(q:Int)∧q≤at_.length∧∀(j:Nat) (h:j<at_.length),j<q→1≤at_[j]∧at_[j]≤d[i].length) (fun s=>at_.length-s.toNat) ?_ ⟨0,rfl,Qw _,fun _ _ h=>absurd h (Nat.not_lt_zero _)⟩ (zXd _ _ (by omega))
 rintro s k2 ⟨q,rfl,hq,hqq⟩ hk2;by_cases hlt:q<at_.length
 ·refine zQe (decide_eq_true (by simp only[Z.ofN,Z.len];omega)) ?_
  refine zQa (ixND hlt) (zQb (zWg at_ hlt _) ?_);have no:¬(1≤at_[q]∧at_[q]≤d[i].length)→plB d (i:Int) at_=false:=fun hn=>yK3 fun h=>hn (by have:=h.2 _ (Qh hlt);rw[hget]at this;exact this)
  by_cases hge:1≤at_[q]
  ·refine zQd (decide_eq_false (by omega)) ?_
   refine zQa (ixND hlt) (zQb (zWg at_ hlt _) ?_);refine zQa (ixND hi) (zQb (zWg d hi _) ?_);by_cases hle:at_[q]≤d[i].length
   ·refine zQd (by simp only[Z.zQi,Z.igt,Z.ofN,Z.len];simpa using hle) ?_
    refine zQb (zQ1 (by omega)) ?_
    refine hk2 _ ⟨q+1,rfl,hlt,fun j hj hji=>?_⟩ (by show at_.length-((q+1:Nat):Int).toNat<at_.length-((q:Int)).toNat;omega)
    by_cases e:j=q
    ·subst e;exact⟨hge,hle⟩
    ·exact hqq j hj (by omega)
   ·refine zQe (by simp only[Z.zQi,Z.igt,Z.ofN,Z.len];simpa using hle) ?_
    rw[no fun h=>hle h.2]
  ·refine zQe (decide_eq_true (by omega)) ?_
   rw[no fun h=>hge h.1]
 ·refine zQd (decide_eq_false (by simp only[Z.ofN,Z.len];omega)) ?_
  rw[wKd ⟨⟨by omega,by omega⟩,fun x hx=>by
   rw[hget];obtain⟨j,hj,rfl⟩:=List.getElem_of_mem hx;exact hqq j hj (by omega)⟩]
theorem vKh{c:CfgT}{d:List Lev}(hok:zZs c d)(x:SeeT):zYp ((d,()),x)=some (yXj d x):=by
  obtain⟨b1,b2⟩:=zK1 hok;unfold zYp;dsimp only;have rest:(x.1=1∨x.1=2)→(if(Z.Le (Z.addN 0 1) (Z.len (x.2.2.1::([]:List (Int)))))then Z.bind (zKn ((d,()),(x.2.1,(Z.seg (x.2.2.1::([]:List (Int))) 0 1)))) fun(x3:Bool)=>
 (bif (Z.zQi true x3 false)then if(Z.Ix x.2.1 (Z.len d))then Z.bnd (Z.get d (Z.toN x.2.1) ([]:List (List (Int)))) fun(x6:List (List (Int)))=>
 if(Z.Ix 0 (Z.len x6))then Z.bnd (Z.get x6 (Z.toN 0) ([]:List (Int))) fun(x9:List (Int))=>
 some (Z.zQi true (Z.ieq (Z.ofN (Z.len x.2.2.2.1)) (Z.ofN (Z.len x9))) false)
 else none
 else none
 else some false)
 else none)=some (yXj d x):=fun hk=>by
    refine zQa (Qg _) ?_;refine zQm (uWx d x.2.1 [x.2.2.1] (by omega) (by simp)) ?_
    by_cases hp:plD d x.2.1 [x.2.2.1]
    · rw[wKd hp]
      refine zQe rfl ?_;obtain⟨i,hi,hie,hat⟩:=xQ4 hp;obtain⟨k,hk2,hke⟩:=hat 0 (by simp)
      replace hke:x.2.2.1=((k+1:Nat):Int):=hke;have b3:=b2 _ (Qh hi);have h0:0<d[i].length:=by omega
      have hi':i<(shS c).length:=by have:=hok.2.1;omega
      have hsame:d[i][0].length=d[i][k].length:=by
        obtain⟨_,hq⟩:=hok.2.2 i hi hi';have q1:=hq _ (Qh h0);have q2:=hq _ (Qh hk2);omega
      have hbk:bkt d x.2.1 x.2.2.1=d[i][k]:=by rw[hie,hke,zYv hi hk2]
      have hmay:zW5 d x↔x.2.2.2.1.length=d[i][0].length:=⟨fun h=>by have:=h.2.2;rw[hbk]at this;omega,fun h=>⟨hk,hp,by rw[hbk];omega⟩⟩
      rw[hie];refine zQa (ixND hi) (zQb (zWg d hi _) ?_);refine zQa (ixND (i:=0) h0) (zQb (zWg (i:=0) d[i] h0 _) ?_);by_cases he:x.2.2.2.1.length=d[i][0].length
      · rw[xWa (hmay.2 he)]
        simp[Z.zQi,Z.ieq,Z.ofN,Z.len,he]
      · rw[zYs fun h=>he (hmay.1 h)]
        simp only[Z.zQi,Z.ieq,Z.ofN,Z.len];simp;omega
    · rw[yK3 hp,zYs fun h=>hp h.2.1]
      exact zQd rfl rfl
  by_cases h1:x.1=1
  · refine zQe (by simp[Z.ieq,h1]) ?_
    exact rest (.inl h1)
  · refine zQd (by simp[Z.ieq,h1]) ?_
    by_cases h2:x.1=2
    · refine zQe (by simp[Z.zQi,Z.ieq,h2]) ?_
      exact rest (.inr h2)
    · refine zQd (by simp[Z.zQi,Z.ieq,h2]) ?_
      rw[zYs fun h=>by rcases h.1 with h|h<;>contradiction]
theorem vZu(c:CfgT)(d:List Lev)(l:List SeeT)(hl:d.length≤1000000000)(hL:∀L∈d,L.length≤1000000000)(ha:l.length≤2000000):zYo (c,((d,()),l))=some (repD c d l):=by
 unfold zYo;dsimp only;refine zQm (wWv c d hl hL) ?_;unfold repD;rcases vJt c d with⟨h0,hok⟩|⟨h8,hno⟩
 ·rw[h0,if_pos hok]
  refine zQd rfl ?_;refine zQn (fun(s:Int)=>∃q:Nat,s=(q:Int)∧q≤l.length∧∀(j:Nat) (h:j<l.length),j<q→zW5 d l[j]) (fun s=>l.length-s.toNat) ?_ ⟨0,rfl,Qw _,fun _ _ h=>absurd h (Nat.not_lt_zero _)⟩ (zXd _ _ (by omega))
  rintro s k ⟨q,rfl,hq,hqq⟩ hk;by_cases hlt:q<l.length
  ·refine zQe (decide_eq_true (by simp only[Z.ofN,Z.len];omega)) ?_
   refine zQa (ixND hlt) (zQb (zWg l hlt _) ?_);refine zQm (vKh hok l[q]) ?_;by_cases hm:zW5 d l[q]
   ·rw[xWa hm]
    refine zQd rfl (zQb (zQ1 (by omega)) ?_)
    refine hk _ ⟨q+1,rfl,hlt,fun j hj hji=>?_⟩ (by show l.length-((q+1:Nat):Int).toNat<l.length-((q:Int)).toNat;omega)
    by_cases e:j=q
    ·subst e;exact hm
    ·exact hqq j hj (by omega)
   ·rw[zYs hm,if_neg fun h=>hm (h _ (Qh hlt))]
    exact zQe rfl rfl
  ·refine zQd (decide_eq_false (by simp only[Z.ofN,Z.len];omega)) ?_
   have hall:∀x∈l,zW5 d x:=fun x hx=>by
    obtain⟨j,hj,rfl⟩:=List.getElem_of_mem hx;exact hqq j hj (by omega)
   rw[if_pos hall];exact zQm (wZf hok hall ha) rfl
 ·rw[h8,if_neg hno]
  exact zQe rfl rfl
open Classical in
noncomputable def repR(c:CfgT)(d:List Lev)(l:List SeeT):(List Byt×(List (List (MixE Int))×List (List (MixE (MixE Int)))))×((MixE (MixE (MixE Int))×Unit)×Int):=
 if zZs c d then(if∀x∈l,zW5 d x then((qD (reps d l),(p1D d d.length,[p2D d d.length])),((.ref 0 0 d.length d.length,()),0))else(([],([],[])),((.nil,()),2)))else(([],([],[])),((.nil,()),8))
theorem xYs(c:CfgT)(d:List Lev)(l:List SeeT)(hl:d.length≤1000000000)(hL:∀L∈d,L.length≤100000000)(ha:l.length≤2000000):zXm (c,((d,()),l))=some (repR c d l):=by
 unfold zXm;dsimp only;refine zQm (xKr c d hl fun L h=>by have:=hL L h;omega) ?_
 unfold repR;rcases vJt c d with⟨h0,hok⟩|⟨h8,hno⟩
 ·rw [h0,if_pos hok]
  refine zQd rfl ?_;refine zQn (fun(s:Int)=>∃q:Nat,s=(q:Int)∧q≤l.length∧∀(j:Nat) (h:j<l.length),j<q→zW5 d l[j]) (fun s=>l.length-s.toNat) ?_ ⟨0,rfl,Qw _,fun _ _ h=>absurd h (Nat.not_lt_zero _)⟩ (zXd _ _ (by omega))
  rintro s k ⟨q,rfl,hq,hqq⟩ hk;by_cases hlt:q<l.length
  ·refine zQe (decide_eq_true (by simp only[Z.ofN,Z.len];omega)) ?_
   refine zQa (ixND hlt) (zQb (zWg l hlt _) ?_);refine zQm (wQ0 d l[q] hl hL) ?_;by_cases hm:zW5 d l[q]
   ·rw[xWa hm]
    refine zQd rfl (zQb (zQ1 (by omega)) ?_)
    refine hk _ ⟨q+1,rfl,hlt,fun j hj hji=>?_⟩ (by show l.length-((q+1:Nat):Int).toNat<l.length-((q:Int)).toNat;omega)
    by_cases e:j=q
    ·subst e;exact hm
    ·exact hqq j hj (by omega)
   ·rw[zYs hm,if_neg fun h=>hm (h _ (Qh hlt))]
    exact zQe rfl rfl
  ·refine zQd (decide_eq_false (by simp only[Z.ofN,Z.len];omega)) ?_
   have hall:∀x∈l,zW5 d x:=fun x hx=>by
    obtain⟨j,hj,rfl⟩:=List.getElem_of_mem hx;exact hqq j hj (by omega)
   rw[if_pos hall];clear hk hqq;obtain⟨b1,b2⟩:=zK1 hok;refine zQm (yXz d (xZk hok)) ?_;refine zQn (fun(s:Int×List Byt)=>∃q:Nat,q≤l.length∧s=((q:Int),qD (reps d (l.take q)))) (fun s=>l.length-s.1.toNat) ?_ ⟨0,Qw _,rfl⟩ (zXd _ _ (by omega))
   rintro s k ⟨q,hq,rfl⟩ hk;dsimp only;have hd:=yKu hall q hq;by_cases hlt:q<l.length
   ·refine zQe (decide_eq_true (by simp only[Z.ofN,Z.len];omega)) ?_
    refine zQa (ixND hlt) (zQb (zWg l hlt _) ?_);have hm:=hall _ (Qh hlt);have hs:=xW7 d hlt;have dec:l.length-((q+1:Nat):Int).toNat<l.length-((q:Int)).toNat:=by omega
    by_cases h2:l[q].1=2
    ·refine zQe (by simp[Z.ieq,h2]) ?_
     obtain⟨i,hi,x,hx,hie,hxe,hlq⟩:=vZn hm;have b3:=b2 _ (Qh hi);have hbl:=b3.2 _ (Qh hx);rw[if_pos h2,hie,hxe]at hs;obtain⟨p1,p2,p3⟩:=wY5 hi;rw[hie,hxe];refine zQa p1 (zQa p2 (zQa p2 (zQb p3 ?_)))
     refine zQb (sub1 (by omega)) ?_
     obtain⟨q1,q2,q3⟩:=wWa hi hx;refine zQa q1 (zQa q2 (zQa q2 (zQb q3 ?_)));obtain⟨w1,w2,w3⟩:=xJ8 hd hi hx l[q].2.2.2.1 (by omega) (by omega)
     refine zQa w1 (zQb w2 ?_);refine zQb (zQ1 (by omega)) ?_
     exact hk _ ⟨q+1,hlt,by rw[hs]⟩ dec
    ·refine zQd (by simp[Z.ieq,h2]) ?_
     rw[if_neg h2]at hs;refine zQb (zQ1 (by omega)) ?_
     exact hk _ ⟨q+1,hlt,by rw[hs]⟩ dec
   ·refine zQd (decide_eq_false (by simp only[Z.ofN,Z.len];omega)) ?_
    rw[Qf (by omega)]
 ·rw[h8,if_neg hno]
  exact zQe rfl rfl
end Go.Proofs.Ytghnechjgchajaa
