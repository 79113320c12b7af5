/- Devices: what was seen, done again. -/
import Derived.Test.YtnbmjkbbppcbcaaDevF
import Derived.Test.YtnbmjkbbppcbcaaDevH
namespace Go.Proofs.Ytnbmjkbbppcbcaa
open Go.Eng
set_option linter.unusedVariables false
set_option linter.unusedSimpArgs false
theorem segR{α:Type}(l:List α):Z.app (Z.seg ([]:List α) 0 0) l=l:=rfl
theorem zKz(l:List SeeT)(hl:l.length≤1000000000):zXf (l,l)=some true:=by
 unfold zXf;refine zQm (by simp[Z.ine]) ?_
 refine zQt (fun(s:Int)=>∃i:Nat,s=(i:Int)∧i≤l.length) (fun s=>l.length-s.toNat) ?_ ⟨0,rfl,Q8 _⟩ (zZb _ _ (by omega))
 rintro s k ⟨i,rfl,hi⟩ hk;by_cases h:i<l.length
 ·have g:=zW0 l h (0,(0,(0,(([]:List (Int)),()))))
  have x:=ixND h;refine zQo (decide_eq_true (by simp only[Z.ofN,Z.len];omega)) ?_
  refine zQa x (zQc g (zQa x (zQc g ?_)));refine zQm (by simp[Z.ine]) ?_
  refine zQa x (zQc g (zQa x (zQc g ?_)));refine zQm (by simp[Z.zQ3,Z.ine]) ?_
  refine zQa x (zQc g (zQa x (zQc g ?_)));refine zQm (by simp[Z.zQ3,Z.ine]) ?_
  refine zQa x (zQc g (zQa x (zQc g ?_)));refine zQw (yZr _ _) ?_;rw[decide_eq_true rfl];refine zQm rfl ?_;refine zQc (zW2 (by omega)) ?_
  exact hk _ ⟨i+1,rfl,h⟩ (by show l.length-((i+1:Nat):Int).toNat<l.length-((i:Int)).toNat;omega)
 ·exact zQm (decide_eq_false (by simp only[Z.ofN,Z.len];omega)) rfl
theorem xZ6(L:Lev)(hl:L.length≤1000000)(hf:L.flatten.length≤1000000):zXs L=some L:=by
 unfold zXs;refine zQt (fun(s:MixE (List Int)×(List Lev×Int))=>∃i:Nat,i≤L.length∧s=(.ref 0 0 i i,([L.take i],(i:Int)))) (fun s=>L.length-s.2.2.toNat) ?_ ⟨0,Q8 _,rfl⟩ (zZb _ _ (by omega))
 rintro s k ⟨i,hi,rfl⟩ hk;dsimp only;have tl:(L.take i).length=i:=by rw[Jn];omega
 by_cases h:i<L.length
 ·refine zQo (decide_eq_true (by simp only[Z.ofN,Z.len];omega)) ?_
  refine zQa (ixND h) (zQc (zW0 L h _) ?_);have hx:=zYb L h;refine zQa (Qf _) ?_;refine zWv (bigD (by show 0≤2000000;omega) (by simp only[Z.len];omega) (by omega)) ?_
  refine zQc (y:=L[i]) (segR _) ?_;refine zQa (Qf _) ?_;refine zQa (by simp[Z.XGr,MixE.xgr,tl]) ?_
  refine iteN (by show¬(1:Nat)=0;decide) ?_
  refine zWv (bigD (by show i≤2000000;omega) (by show 1≤2000000;omega) (by omega)) ?_
  refine zQc (y:=[L.take (i+1)]) ?_ ?_
  ·show [L.take i].set 0 ([L.take i].getD 0 []++[L[i]])=_
   rw[Qx h];rfl
  refine zQc (y:=MixE.ref 0 0 (i+1) (i+1)) rfl ?_;refine zQc (zW2 (by omega)) ?_
  exact hk _ ⟨i+1,h,rfl⟩ (by show L.length-((i+1:Nat):Int).toNat<L.length-((i:Int)).toNat;omega)
 ·refine zQm (decide_eq_false (by simp only[Z.ofN,Z.len];omega)) ?_
  have hi2:i=L.length:=by omega
  subst hi2;rw[Jd];refine zQa (by simp[Z.XW,MixE.xw]) ?_
  refine zQc (y:=L) ?_ rfl;show(L.drop 0).take L.length=L;rw[J3,Qg (Qf _)]
theorem twinG(d:List Lev)(hb:DevB d):yWs (d,())=some (d,()):=by
 unfold yWs;dsimp only;have hn:=hb.many;refine zQa rfl ?_;refine zQt (fun(s:Int×List Lev)=>∃i:Nat,i≤d.length∧s=((i:Int),d.take i)) (fun s=>d.length-s.1.toNat) ?_ ⟨0,Q8 _,rfl⟩ (zZb _ _ (by omega))
 rintro s k ⟨i,hi,rfl⟩ hk;dsimp only;by_cases h:i<d.length
 ·refine zQo (decide_eq_true (by simp only[Z.ofN,Z.len];omega)) ?_
  refine zQa (ixND h) (zQc (zW0 d h _) ?_);have hL:=hb.lev _ (Qr h);have hF:=hb.flat _ (Qr h);refine zQw (xZ6 d[i] (by omega) hF) ?_
  refine zQa (Qf _) ?_;refine zWv (bigD (by simp only[Z.len,Jn];omega) (by show 1≤2000000;omega) (by omega)) ?_
  refine zQa rfl ?_;refine zQc (y:=d.take (i+1)) (by rw[Qx h];rfl) ?_
  refine zQc (zW2 (by omega)) ?_
  refine zQa rfl ?_;exact hk _ ⟨i+1,h,rfl⟩ (by show d.length-((i+1:Nat):Int).toNat<d.length-((i:Int)).toNat;omega)
 ·refine zQm (decide_eq_false (by simp only[Z.ofN,Z.len];omega)) ?_
  rw[Qg (by omega)]
def yQk(d:List Lev)(n:Nat):List (MixE Byt):=(List.range n).map fun j=>Z.xrow j (d.getD j [])
theorem wJl(d:List Lev){i:Nat}(h:i<d.length):yQk d (i+1)=yQk d i++[Z.xrow i d[i]]:=by
 unfold yQk;rw[List.range_succ,Qv];simp[List.getD,h]
theorem zJ4(d:List Lev)(n:Nat):(yQk d n).length=n:=by simp[yQk]
theorem twinR(d:List Lev)(hb:DevB d):zJp (d,())=some ((d,[yQk d d.length]),(.ref 0 0 d.length d.length,())):=by
 unfold zJp;dsimp only;have hn:=hb.many;refine zQt (fun(s:Int×(List (List (MixE Byt))×(List Lev×MixE (MixE Byt))))=>∃i:Nat,i≤d.length∧s=((i:Int),([yQk d i],(d.take i, .ref 0 0 i i)))) (fun s=>d.length-s.1.toNat) ?_ ⟨0,Q8 _,rfl⟩ (zZb _ _ (by omega))
 rintro s k ⟨i,hi,rfl⟩ hk;dsimp only;have tl:(d.take i).length=i:=by rw[Jn];omega
 by_cases h:i<d.length
 ·refine zQo (decide_eq_true (by simp only[Z.ofN,Z.len];omega)) ?_
  refine zQa (ixND h) (zQc (zW0 d h _) ?_);have hL:=hb.lev _ (Qr h);have hF:=hb.flat _ (Qr h);refine zQw (xZ6 d[i] (by omega) hF) ?_
  refine zQc (y:=d.take (i+1)) (Qx h).symm ?_;refine zQa (by simp[Z.XGr,MixE.xgr,zJ4]) ?_
  refine iteN (by show¬(1:Nat)=0;decide) ?_
  refine zWv (bigD (by show i≤2000000;omega) (by show 1≤2000000;omega) (by omega)) ?_
  refine zQc (y:=[yQk d (i+1)]) ?_ ?_
  ·rw[wJl d h]
   show [yQk d i].set 0 ([yQk d i].getD 0 []++[Z.xrow (d.take i).length d[i]])=_;rw[tl];rfl
  refine zQc (y:=MixE.ref 0 0 (i+1) (i+1)) rfl ?_;refine zQc (zW2 (by omega)) ?_
  exact hk _ ⟨i+1,h,rfl⟩ (by show d.length-((i+1:Nat):Int).toNat<d.length-((i:Int)).toNat;omega)
 ·refine zQm (decide_eq_false (by simp only[Z.ofN,Z.len];omega)) ?_
  have hi2:i=d.length:=by omega
  subst hi2;rw[Jd]
theorem wQ1{α:Type}{j:Nat}{L:List α}(h:L.length≠0):Z.xrow j L=.ref j 0 L.length L.length:=if_neg h
theorem wK4(d:List Lev)(level:Int)(at_:List Int)(hl:d.length≤1000000000)(ha:at_.length≤1000000000):zK8 ((d,()),(level,at_))=some (plB d level at_):=by
 unfold zK8;dsimp only;by_cases h0:level<0
 ·refine zQo (decide_eq_true h0) ?_
  rw[xW9 fun h=>by have:=h.1.1;omega]
 refine zQm (decide_eq_false h0) ?_;by_cases h1:(d.length:Int)≤level
 ·refine zQo (by simp only[Z.zQ3,Z.ige,Z.ofN,Z.len];simpa using h1) ?_
  rw[xW9 fun h=>by have:=h.1.2;omega]
 refine zQm (by simp only[Z.zQ3,Z.ige,Z.ofN,Z.len];simpa using h1) ?_
 obtain⟨i,rfl⟩:∃i:Nat,level=(i:Int):=⟨level.toNat,by omega⟩
 have hi:i<d.length:=by omega
 have hget:d.getD (i:Int).toNat []=d[i]:=by simp[List.getD,hi]
 refine zQt (fun(s:Int)=>∃q:Nat,s=(q:Int)∧q≤at_.length∧∀(j:Nat) (h:j<at_.length),j<q→1≤at_[j]∧at_[j]≤d[i].length) (fun s=>at_.length-s.toNat) ?_ ⟨0,rfl,Q8 _,fun _ _ h=>absurd h (Nat.not_lt_zero _)⟩ (zZb _ _ (by omega))
 rintro s k2 ⟨q,rfl,hq,hqq⟩ hk2;by_cases hlt:q<at_.length
 ·refine zQo (decide_eq_true (by simp only[Z.ofN,Z.len];omega)) ?_
  refine zQa (ixND hlt) (zQc (zW0 at_ hlt _) ?_);have no:¬(1≤at_[q]∧at_[q]≤d[i].length)→plB d (i:Int) at_=false:=fun hn=>xW9 fun h=>hn (by have:=h.2 _ (Qr hlt);rw[hget]at this;exact this)
  by_cases hge:1≤at_[q]
  ·refine zQm (decide_eq_false (by omega)) ?_
   refine zQa (ixND hlt) (zQc (zW0 at_ hlt _) ?_);refine zQa (ixND hi) (zQc (zW0 d hi _) ?_);by_cases hle:at_[q]≤d[i].length
   ·refine zQm (by simp only[Z.zQ3,Z.igt,Z.ofN,Z.len];simpa using hle) ?_
    refine zQc (zW2 (by omega)) ?_
    refine hk2 _ ⟨q+1,rfl,hlt,fun j hj hji=>?_⟩ (by show at_.length-((q+1:Nat):Int).toNat<at_.length-((q:Int)).toNat;omega)
    by_cases e:j=q
    ·subst e;exact⟨hge,hle⟩
    ·exact hqq j hj (by omega)
   ·refine zQo (by simp only[Z.zQ3,Z.igt,Z.ofN,Z.len];simpa using hle) ?_
    rw[no fun h=>hle h.2]
  ·refine zQo (decide_eq_true (by omega)) ?_
   rw[no fun h=>hge h.1]
 ·refine zQm (decide_eq_false (by simp only[Z.ofN,Z.len];omega)) ?_
  rw[wJt ⟨⟨by omega,by omega⟩,fun x hx=>by
   rw[hget];obtain⟨j,hj,rfl⟩:=List.getElem_of_mem hx;exact hqq j hj (by omega)⟩]
end Go.Proofs.Ytnbmjkbbppcbcaa
