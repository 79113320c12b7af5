/- Devices: parts joined; a device in new memory, its rows in places. -/
import Derived.Test.YtghnechjgchajaaStep2
namespace Go.Proofs.Ytghnechjgchajaa
open Go.Eng
set_option linter.unusedVariables false
set_option linter.unusedSimpArgs false
abbrev Byt:=List Int
abbrev Lev:=List Byt
theorem zWg{α:Type}(l:List α){i:Nat}(h:i<l.length)(z:α):Z.get l (Z.toN (i:Int)) z=l[i]:=by simp[Z.get,Z.toN,List.getD,h]
theorem ixND{α:Type}{l:List α}{i:Nat}(h:i<l.length):Z.Ix (i:Int) (Z.len l):=⟨by omega,by simp only[Z.len];omega⟩
theorem zQ1{i:Nat}(h:i<9223372036854775807):Z.wrap .i64 (Z.add (i:Int) 1)=((i+1:Nat):Int):=Z.yX5 (by omega)
theorem yXs(l:Lev)(i:Nat):(l.take i).flatten.length≤l.flatten.length:=by
 have:l.flatten=(l.take i).flatten++(l.drop i).flatten:=by rw[←List.flatten_append,Qt]
 rw[this,Qz];omega
theorem yJn(l:Lev){i:Nat}(h:i<l.length):(l.take (i+1)).flatten=(l.take i).flatten++l[i]:=by
 rw[Qr h,List.flatten_append,Jt,List.flatten_nil,Jl]
theorem yQm(l:Lev){i:Nat}(h:i<l.length):(l.take i).flatten.length+l[i].length≤l.flatten.length:=by
 have:=yXs l (i+1);rw[yJn l h,Qz]at this;exact this
theorem bigD{a b k:Nat}(ha:a≤2000000)(hb:b≤2000000)(hk:k≤100):¬Z.Big a b k:=by
 simp only[Z.Big];have:(2:Nat)^44=17592186044416:=by decide
 have h1:(a+b)*(k+1)≤4000000*101:=Nat.mul_le_mul (by omega) (by omega)
 omega
theorem xZo{l:Lev}{r:Byt}(hr:r=l.flatten)(hl:l.length≤1000000)(ht:l.flatten.length≤1000000):
    Z.loop (fun(s45:(List (Int))×(Int)) k46=>
 (bif (Z.ilt s45.2 (Z.ofN (Z.len l)))then if(Z.Ix s45.2 (Z.len l))then Z.bnd (Z.get l (Z.toN s45.2) ([]:List (Int))) fun(x49:List (Int))=>
 if(Z.Big (Z.len s45.1) (Z.len x49) 1)then none
 else if(Z.EqN (Z.len s45.1) (Z.len s45.1))then Z.bnd (Z.app s45.1 x49) fun(x54:List (Int))=>
 Z.bnd (Z.wrap .i64 (Z.add s45.2 1)) fun(x55:Int)=>
 if(Z.EqN (Z.len x54) (Z.len x54))then k46 (x54,x55)
 else none
 else none
 else none
 else if(Z.EqN (Z.len s45.1) (Z.len s45.1))then some s45.1
 else none)) (([]:List (Int)),0)=some r:=by
  subst hr;refine zQn (fun s=>∃i:Nat,i≤l.length∧s=((l.take i).flatten,(i:Int))) (fun s=>l.length-s.2.toNat) ?_ ⟨0,by omega,rfl⟩ (zXd l.length _ (by omega))
  rintro s k ⟨i,hi,rfl⟩ hk;dsimp only;by_cases h:i<l.length
  · refine zQe (decide_eq_true (by simp only[Z.ofN,Z.len];omega)) ?_
    refine zQa (ixND h) (zQb (zWg l h _) ?_);have h1:=yQm l h;refine zWa (bigD (by simp only[Z.len];omega) (by simp only[Z.len];omega) (by omega)) ?_
    refine zQa rfl ?_;refine zQb (y:=(l.take (i+1)).flatten) (yJn l h).symm ?_;refine zQb (zQ1 (by omega)) ?_
    refine zQa rfl ?_;exact hk _ ⟨i+1,by omega,rfl⟩ (by show l.length-((i+1:Nat):Int).toNat<l.length-((i:Int)).toNat;omega)
  · refine zQd (decide_eq_false (by simp only[Z.ofN,Z.len];omega)) ?_
    refine zQa rfl ?_;rw[Qf (by omega)]
theorem vW9(l:Lev)(hl:l.length≤1000000)(ht:l.flatten.length≤1000000):zWl l=some l.flatten:=by
 unfold zWl;refine zQn (fun s=>∃i:Nat,i≤l.length∧s=(((l.take i).flatten.length:Int),(i:Int))) (fun s=>l.length-s.2.toNat) ?_ ⟨0,by omega,rfl⟩ (zXd l.length _ (by omega))
 rintro s k ⟨i,hi,rfl⟩ hk;dsimp only;have h1:=yXs l i;by_cases h:i<l.length
 ·refine zQe (decide_eq_true (by simp only[Z.ofN,Z.len];omega)) ?_
  refine zQa (ixND h) (zQb (zWg l h _) ?_);have hx:=yQm l h;refine zQb (y:=((l.take (i+1)).flatten.length:Int)) ((zY1 (by simp only[Z.add,Z.ofN,Z.len];omega)).trans (by rw[yJn l h];simp[Z.add,Z.ofN,Z.len])) ?_
  refine zQd (decide_eq_false (by omega)) ?_
  refine zQb (zQ1 (by omega)) ?_
  exact hk _ ⟨i+1,by omega,rfl⟩ (by show l.length-((i+1:Nat):Int).toNat<l.length-((i:Int)).toNat;omega)
 ·refine zQd (decide_eq_false (by simp only[Z.ofN,Z.len];omega)) ?_
  rw[Qf (by omega)]at h1⊢
  refine zQd (decide_eq_false (by omega)) ?_
  refine zQb (y:=0) (zY1 (by simp[Z.sub])) ?_
  refine zQb (y:=(l.flatten.length:Int)) ((zY1 (by simp only[Z.sub];omega)).trans (by simp[Z.sub])) ?_
  by_cases hpos:0<l.flatten.length
  ·refine zQe (decide_eq_true (by omega)) ?_
   refine zQa ⟨by omega,by omega⟩ ?_
   refine zQa (Z.wJu.2 ⟨by omega,by omega,by omega⟩) ?_
   have hrep:Z.rep (α:=Int) (Z.toN (l.flatten.length:Int)) 0=List.replicate l.flatten.length 0:=by simp[Z.rep,Z.toN]
   refine zQb hrep ?_;refine zWa (by simp only[Z.EqN,Z.len,List.length_replicate];omega) ?_
   refine zWa (bigD (by simp[Z.len]) (by simp only[Z.len,List.length_replicate];omega) (by omega)) ?_
   refine zQb (y:=List.replicate l.flatten.length 0) (by simp[Z.app]) ?_
   refine zQa ⟨by omega,by simp only[Z.len];omega⟩ ?_
   refine zQa (by simp only[Z.Lt,Z.len,List.length_replicate];omega) ?_
   refine zQa rfl ?_;refine zQa rfl ?_;exact xZo rfl hl ht
  ·refine zQd (decide_eq_false (by omega)) ?_
   refine zQa rfl ?_;exact xZo rfl hl ht
def refV{α:Type}(l:List (List α)):List (MixE α):=(List.range l.length).map fun j=>.ref j 0 (l.getD j []).length (l.getD j []).length
theorem yX9{α:Type}(l:List (List α)):(refV l).length=l.length:=by simp[refV]
theorem wYj{α:Type}(l:List (List α)){j:Nat}(h:j<l.length)(z:MixE α):(refV l).getD j z=.ref j 0 l[j].length l[j].length:=by
 simp[refV,List.getD,h]
theorem vY9{α:Type}(l:List (List α)){j:Nat}(h:j<l.length)(r:List α):(refV l).set j (.ref j 0 r.length r.length)=refV (l.set j r):=by
 apply Q8;intro i;by_cases hi:i<l.length
 ·by_cases e:i=j
  ·subst e
   rw[Qk (by rw[yX9];exact hi)]
   simp[refV,hi,List.getD]
  ·rw[Qe (Ne.symm e)]
   simp[refV,hi,List.getD,Qe (Ne.symm e),List.getElem_set_ne (Ne.symm e)]
 ·rw[Q4 (by rw[List.length_set,yX9];omega),Q4 (by rw[yX9,List.length_set];omega)]
theorem vZw{α:Type}(n:Nat):(Z.wZm n:List (MixE α))=refV (List.replicate n []):=by
 unfold Z.wZm refV;rw[List.length_replicate];apply Jd;intro j hj;have:j<n:=List.mem_range.1 hj;simp[List.getD,this]
def zK6(L:Lev):List Int:=L.map fun b=>(b.length:Int)
def szD(d:List Lev)(i k:Nat):List (List Int):=(List.range d.length).map fun j=>if j<i then zK6 (d.getD j [])else if j=i then(zK6 (d.getD j [])).take k else []
theorem zJa(d:List Lev)(i k:Nat):(szD d i k).length=d.length:=by simp[szD]
theorem wZv(d:List Lev)(i k:Nat){j:Nat}(h:j<d.length):(szD d i k).getD j []=if j<i then zK6 d[j]else if j=i then(zK6 d[j]).take k else []:=by
 simp[szD,List.getD,h]
theorem wYd(d:List Lev)(i k:Nat){j:Nat}(h:j<d.length):(szD d i k)[j]'(by rw[zJa];exact h)=if j<i then zK6 d[j]else if j=i then(zK6 d[j]).take k else []:=by
 simp[szD,List.getD,h]
theorem vXy(d:List Lev){i k:Nat}(h:i<d.length)(hk:k<d[i].length):(szD d i k).set i ((szD d i k).getD i []++[(d[i][k].length:Int)])=szD d i (k+1):=by
 apply Q8;intro j;by_cases hj:j<d.length
 ·by_cases e:j=i
  ·subst e
   rw[Qk (by rw[zJa];exact hj),wZv d j k hj]
   have e1:(szD d j (k+1))[j]?=some ((zK6 d[j]).take (k+1)):=by simp[szD,hj,List.getD]
   rw[e1];simp only[Nat.lt_irrefl,if_false,if_true];rw[Qr (by simp[zK6];exact hk)]
   simp[zK6]
  ·rw[Qe (Ne.symm e)]
   simp[szD,hj,List.getD,e]
 ·rw[Q4 (by rw[List.length_set,zJa];omega),Q4 (by rw[zJa];omega)]
theorem vYz(d:List Lev){i:Nat}(h:i<d.length):szD d i d[i].length=szD d (i+1) 0:=by
 apply Q8;intro j;by_cases hj:j<d.length
 ·rcases Nat.lt_trichotomy j i with hlt|rfl|hgt
  ·have:j<i+1:=by omega
   simp[szD,hj,List.getD,hlt,this]
  ·simp[szD,hj,List.getD,Qf,zK6]
  ·have h1:¬j<i:=by omega
   have h2:¬j=i:=by omega
   have h3:¬j<i+1:=by omega
   simp[szD,hj,List.getD,h1,h2,h3]
 ·rw[Q4 (by rw[zJa];omega),Q4 (by rw[zJa];omega)]
theorem vYy(d:List Lev):szD d 0 0=List.replicate d.length []:=by
 apply Q8;intro j;by_cases hj:j<d.length
 ·simp[szD,hj,List.getElem?_replicate_of_lt hj]
 ·rw[Q4 (by rw[zJa];omega),Q4 (by simp;omega)]
theorem uX6(d:List Lev){j:Nat}(h:j<d.length)(i k:Nat)(hi:i=d.length):(szD d i k).getD j []=zK6 d[j]:=by
 subst hi;rw[wZv d _ _ h,if_pos h]
def offD(L:Lev)(k:Nat):Nat:=(L.take k).flatten.length
theorem zJ3(L:Lev){k:Nat}(h:k<L.length):offD L (k+1)=offD L k+L[k].length:=by
 unfold offD;rw[yJn L h,Qz]
theorem yYi(L:Lev)(k:Nat):offD L k≤L.flatten.length:=yXs L k
def bkD(q:Nat)(L:Lev)(k:Nat):MixE Int:=Z.xcut (Z.xrow q L.flatten) (offD L k) (offD L (k+1))
def bksD(q:Nat)(L:Lev):List (MixE Int):=(List.range L.length).map (bkD q L)
def bkSo(q:Nat)(L:Lev)(k:Nat):List (MixE Int):=(List.range L.length).map fun j=>if j<k then bkD q L j else .data []
theorem yJ1(q:Nat)(L:Lev)(k:Nat):(bkSo q L k).length=L.length:=by simp[bkSo]
theorem uWv(q:Nat)(L:Lev){k:Nat}(h:k<L.length):(bkSo q L k).set k (bkD q L k)=bkSo q L (k+1):=by
 apply Q8;intro j;by_cases hj:j<L.length
 ·by_cases e:j=k
  ·subst e
   rw[Qk (by rw[yJ1];exact hj)]
   simp[bkSo,hj]
  ·rw[Qe (Ne.symm e)]
   by_cases h1:j<k
   ·have h2:j<k+1:=by omega
    simp[bkSo,hj,h1,h2]
   ·have h2:¬j<k+1:=by omega
    simp[bkSo,hj,h1,h2]
 ·rw[Q4 (by rw[List.length_set,yJ1];omega),Q4 (by rw[yJ1];omega)]
theorem uWw(q:Nat)(L:Lev):bkSo q L L.length=bksD q L:=by
 unfold bkSo bksD;apply Jd;intro j hj;rw[if_pos (List.mem_range.1 hj)]
theorem vJ8(q:Nat)(L:Lev):bkSo q L 0=List.replicate L.length (.data []):=by
 apply Q8;intro j;by_cases hj:j<L.length
 ·simp[bkSo,hj,List.getElem?_replicate_of_lt hj]
 ·rw[Q4 (by rw[yJ1];omega),Q4 (by simp;omega)]
theorem wJw{α:Type}(q:Nat)(w:List α):Z.xlen (Z.xrow q w)=w.length:=by
 unfold Z.xrow;split
 ·rename_i h;show w.length=w.length;rfl
 ·rfl
theorem vYq{α:Type}(Q:List (List α))(w:List α):Z.XCut (Q++[w]) (Z.xrow Q.length w):=by
 unfold Z.xrow Z.XCut;split
 ·rfl
 ·simp[MixE.xcut,List.getD]
def qD(d:List Lev):List Byt:=d.map List.flatten
def p1D(d:List Lev)(i:Nat):List (List (MixE Int)):=(List.range i).map fun j=>bksD j (d.getD j [])
def p2D(d:List Lev)(i:Nat):List (MixE (MixE Int)):=(List.range i).map fun j=>.ref j 0 (d.getD j []).length (d.getD j []).length
theorem uQg(d:List Lev){i:Nat}(h:i<d.length):p1D d (i+1)=p1D d i++[bksD i d[i]]:=by
 unfold p1D;rw[List.range_succ,Qx];simp[List.getD,h]
theorem wYo(d:List Lev){i:Nat}(h:i<d.length):p2D d (i+1)=p2D d i++[.ref i 0 d[i].length d[i].length]:=by
 unfold p2D;rw[List.range_succ,Qx];simp[List.getD,h]
theorem vKk(n:Nat):Z.mapO (fun(e55:List (Int))=>some (Z.zY0 e55)) (Z.rep (α:=List (Int)) n ([]:List (Int)))=some (List.replicate n (.data [])):=by
 show Z.mapO _ (List.replicate n [])=_;induction n with
 |zero=>rfl
 |succ n ih=>
  rw[J7,J7];show List.mapM _ (_::_)=_;rw[Ks];have ih':List.mapM (fun(e55:List (Int))=>some (Z.zY0 e55)) (List.replicate n [])=some (List.replicate n (.data [])):=ih
  rw[ih'];rfl
structure DevB (d:List Lev):Prop where
 many:d.length≤1000
 lev:∀L∈d,L.length≤1000
 flat:∀L∈d,L.flatten.length≤1000000
theorem yXz(d:List Lev)(hb:DevB d):yQq (d,())=some ((qD d,(p1D d d.length,[p2D d d.length])),(.ref 0 0 d.length d.length,())):=by
 unfold yQq;dsimp only;have hn:=hb.many;have hmk:∀m:Nat,m≤1000→Z.MkOk (Z.ofN m) (Z.ofN m) 24:=fun m hm=>Z.zKh.2 ⟨by simp only[Z.ofN];omega,Int.le_refl _,by simp only[Z.ofN];omega,by simp only[Z.ofN];omega⟩
 refine zQa (hmk _ hn) ?_;refine zQn (fun(s:Int×((List (MixE Int))×(List (List Int))))=>∃i:Nat,i≤d.length∧s=((i:Int),(refV (szD d i 0),szD d i 0))) (fun s=>d.length-s.1.toNat) ?_ ⟨0,Qw _, ?_⟩ (zXd _ _ (by omega))
 ·rintro s k ⟨i,hi,rfl⟩ hk
  dsimp only;by_cases h:i<d.length
  ·refine zQe (decide_eq_true (by simp only[Z.ofN,Z.len];omega)) ?_
   refine zQa (ixND h) (zQb (zWg d h _) ?_);have hL:=hb.lev _ (Qh h);have hF:=hb.flat _ (Qh h);refine zQn (fun(s:Int×((List (MixE Int))×(List (List Int))))=>∃q:Nat,q≤d[i].length∧s=((q:Int),(refV (szD d i q),szD d i q))) (fun s=>d[i].length-s.1.toNat) ?_ ⟨0,Qw _,rfl⟩ (zXd _ _ (by omega))
   rintro s k2 ⟨q,hq,rfl⟩ hk2;dsimp only;by_cases hqlt:q<d[i].length
   ·refine zQe (decide_eq_true (by simp only[Z.ofN,Z.len];omega)) ?_
    refine zQa (ixND hqlt) (zQb (zWg d[i] hqlt _) ?_);have hsl:i<(szD d i q).length:=by rw[zJa];exact h
    have hin:Z.In (i:Int) (Z.toN (Z.ofN (Z.len d))):=⟨by omega,by show(i:Int)<((d.length:Int).toNat:Int);omega⟩
    have hrow:(szD d i q).getD i []=(zK6 d[i]).take q:=by rw[wZv d i q h];simp
    have hrl:((zK6 d[i]).take q).length=q:=by rw[J1];simp[zK6];omega
    have hrE:(szD d i q)[i]=(zK6 d[i]).take q:=by rw[wYd d i q h];simp
    refine zQa hin (zQa (by show 0+i<(refV (szD d i q)).length;rw[yX9,zJa];omega) ?_)
    refine zQb (y:=MixE.ref i 0 q q) ?_ ?_
    ·show(refV (szD d i q)).getD (0+i) _=_
     rw[Jc,wYj _ hsl,hrE,hrl]
    refine zQa (Qg _) ?_;refine zQa ?_ ?_
    ·simp only[Z.XGr,MixE.xgr,hrow,hrl,decide_eq_true hsl]
     simp
    refine iteN (by show¬(1:Nat)=0;decide) ?_
    refine zWa (bigD (by show q≤2000000;omega) (by show 1≤2000000;omega) (by omega)) ?_
    refine zQb (y:=szD d i (q+1)) ?_ ?_
    ·show(szD d i q).set i ((szD d i q).getD i []++[(d[i][q].length:Int)])=_
     exact vXy d h hqlt
    refine zQb (y:=MixE.ref i 0 (q+1) (q+1)) rfl ?_;refine zQa hin (zQa (by show 0+i<(refV (szD d i q)).length;rw[yX9,zJa];omega) ?_)
    refine zQb (y:=refV (szD d i (q+1))) ?_ ?_
    ·show(refV (szD d i q)).set (0+i) (.ref i 0 (q+1) (q+1))=_
     rw[Jc,←vXy d h hqlt,hrow];have e:((zK6 d[i]).take q++[(d[i][q].length:Int)]).length=q+1:=by rw[Qz,hrl];rfl
     have:=vY9 (szD d i q) hsl ((zK6 d[i]).take q++[(d[i][q].length:Int)]);rw[e]at this;exact this
    refine zQb (zQ1 (by omega)) ?_
    exact hk2 _ ⟨q+1,hqlt,rfl⟩ (by show d[i].length-((q+1:Nat):Int).toNat<d[i].length-((q:Int)).toNat;omega)
   ·refine zQd (decide_eq_false (by simp only[Z.ofN,Z.len];omega)) ?_
    have hq2:q=d[i].length:=by omega
    subst hq2;refine zQb (zQ1 (by omega)) ?_
    rw[vYz d h];exact hk _ ⟨i+1,h,rfl⟩ (by show d.length-((i+1:Nat):Int).toNat<d.length-((i:Int)).toNat;omega)
  ·refine zQd (decide_eq_false (by simp only[Z.ofN,Z.len];omega)) ?_
   have hi2:i=d.length:=by omega
   clear hk;refine zQn (fun(s:(Int)×((MixE (MixE (MixE (Int))))×((List (List (MixE (MixE (Int)))))×((List (List (Int)))×(List (List (MixE (Int))))))))=>∃j:Nat,j≤d.length∧s=((j:Int),(.ref 0 0 j j,([p2D d j],((qD d).take j,p1D d j))))) (fun s=>d.length-s.1.toNat) ?_ ⟨0,Qw _,rfl⟩ (zXd _ _ (by omega))
   rintro s k ⟨j,hj,rfl⟩ hk;dsimp only;by_cases h:j<d.length
   ·refine zQe (decide_eq_true (by simp only[Z.ofN,Z.len];omega)) ?_
    refine zQa (ixND h) (zQb (zWg d h _) ?_);have hL:=hb.lev _ (Qh h);have hF:=hb.flat _ (Qh h);have hsl:j<(szD d i 0).length:=by rw[zJa];exact h
    have hin:Z.In (j:Int) (Z.toN (Z.ofN (Z.len d))):=⟨by omega,by show(j:Int)<((d.length:Int).toNat:Int);omega⟩
    have hrow:(szD d i 0).getD j []=zK6 d[j]:=uX6 d h i 0 hi2;have hrE:(szD d i 0)[j]=zK6 d[j]:=by rw[wYd d i 0 h,if_pos (by omega)]
    have hrl:(zK6 d[j]).length=d[j].length:=by simp[zK6]
    refine zQa hin (zQa (by show 0+j<(refV (szD d i 0)).length;rw[yX9,zJa];omega) ?_)
    refine zQb (y:=MixE.ref j 0 d[j].length d[j].length) ?_ ?_
    ·show(refV (szD d i 0)).getD (0+j) _=_
     rw[Jc,wYj _ hsl,hrE,hrl]
    refine zQm (vW9 d[j] (by omega) hF) ?_
    have hql:(qD d).length=d.length:=by simp[qD]
    have hqt:((qD d).take j).length=j:=by rw[J1];omega
    refine zQb (y:=(qD d).take (j+1)) ?_ ?_
    ·show(qD d).take j++[d[j].flatten]=_
     rw[Qr (by omega)]
     simp[qD]
    have hx52:(qD d).take (j+1)=(qD d).take j++[d[j].flatten]:=by
     rw[Qr (by omega)]
     simp[qD]
    generalize hLv:d[j]=L at *;refine zQa (hmk L.length hL) ?_;refine zQm (vKk L.length) ?_;refine zQn (fun(s:(List (MixE (Int)))×((Int)×(Int)))=>∃q:Nat,q≤L.length∧s=(bkSo j L q,((offD L q:Int),(q:Int)))) (fun s=>L.length-s.2.2.toNat) ?_ ⟨0,Qw _,by rw[vJ8];rfl⟩ (zXd _ _ (by omega))
    rintro s k2 ⟨q,hq,rfl⟩ hk2;dsimp only;by_cases hqlt:q<L.length
    ·refine zQe (decide_eq_true (by simp only[Z.ofN,Z.xlen];omega)) ?_
     have hix:Z.Ix (q:Int) (Z.xlen (MixE.ref j 0 L.length L.length:MixE Int)):=⟨by omega,by show((q:Int)).toNat<L.length;omega⟩
     have hpt:Z.XPt (szD d i 0) (MixE.ref j 0 L.length L.length:MixE Int) (Z.toN (q:Int)):=by
      simp only[Z.XPt,MixE.xpt,hrow,hrl,decide_eq_true hsl];simp[Z.toN,hqlt]
     refine zQa hix (zQa hpt (zQa hpt ?_));have o1:=zJ3 L hqlt;have o2:=yYi L (q+1);refine zQb (y:=(L[q].length:Int)) ?_ ?_
     ·show((szD d i 0).getD j []).getD (0+q) 0=_
      rw[hrow,Jc];simp[zK6,List.getD,hqlt]
     have hw:Z.wrap .i64 (Z.add (offD L q:Int) (L[q].length:Int))=((offD L (q+1):Nat):Int):=(zY1 (by simp only[Z.add];omega)).trans (by simp only[Z.add];omega)
     refine zQb hw (zQb hw ?_);have hxl:Z.xlen (Z.xrow (Z.len ((qD d).take j)) L.flatten)=L.flatten.length:=wJw _ _;refine zQa ?_ ?_
     ·rw[hx52];exact vYq _ _
     refine zQa (by rw[hxl];exact⟨by omega,by omega⟩) ?_
     refine zQa (by show Z.Bd ((offD L (q+1):Nat):Int) (offD L (q+1));exact⟨by omega,by omega⟩) ?_
     refine zQa (by show Z.Bd ((offD L q:Nat):Int) (offD L (q+1));exact⟨by omega,by omega⟩) ?_
     refine zQb (y:=bkD j L q) ?_ ?_
     ·show Z.xcut (Z.xrow ((qD d).take j).length L.flatten) (offD L q) (offD L (q+1))=_
      rw[hqt];rfl
     refine zQa ⟨by omega,by show(q:Int)<((L.length:Int).toNat:Int);omega⟩ ?_
     refine zQa (by show 0+q<(bkSo j L q).length;rw[yJ1];omega) ?_
     refine zQb (y:=bkSo j L (q+1)) ?_ ?_
     ·show(bkSo j L q).set (0+q) (bkD j L q)=_
      rw[Jc];exact uWv j L hqlt
     refine zQb hw (zQb (zQ1 (by omega)) ?_)
     exact hk2 _ ⟨q+1,hqlt,rfl⟩ (by show L.length-((q+1:Nat):Int).toNat<L.length-((q:Int)).toNat;omega)
    ·refine zQd (decide_eq_false (by simp only[Z.ofN,Z.xlen];omega)) ?_
     have hq2:q=L.length:=by omega
     subst hq2;rw[uWw];refine zQa rfl ?_;refine zQa (by show L.length=(bksD j L).length;simp[bksD]) ?_
     have hp1:p1D d (j+1)=p1D d j++[bksD j L]:=by rw[uQg d h,hLv]
     have hp2:p2D d (j+1)=p2D d j++[.ref j 0 L.length L.length]:=by rw[wYo d h,hLv]
     have hp1l:(p1D d j).length=j:=by simp[p1D]
     have hp2l:(p2D d j).length=j:=by simp[p2D]
     refine zQb (y:=p1D d (j+1)) hp1.symm ?_;refine zQa (by simp[Z.XGr,MixE.xgr,hp2l]) ?_
     refine iteN (by show¬(1:Nat)=0;decide) ?_
     refine zWa (bigD (by show j≤2000000;omega) (by show 1≤2000000;omega) (by omega)) ?_
     refine zQb (y:=[p2D d (j+1)]) ?_ ?_
     ·rw[hp2]
      show [p2D d j].set 0 ([p2D d j].getD 0 []++[.ref (p1D d j).length 0 L.length L.length])=_;rw[hp1l];rfl
     refine zQb (y:=MixE.ref 0 0 (j+1) (j+1)) rfl ?_;refine zQb (zQ1 (by omega)) ?_
     exact hk _ ⟨j+1,h,rfl⟩ (by show d.length-((j+1:Nat):Int).toNat<d.length-((j:Int)).toNat;omega)
   ·refine zQd (decide_eq_false (by simp only[Z.ofN,Z.len];omega)) ?_
    have hj2:j=d.length:=by omega
    subst hj2;have:(qD d).take d.length=qD d:=Qf (by simp[qD])
    rw[this]
 ·rw[vYy]
  show(0,(Z.wZm d.length,List.replicate d.length []))=_;rw[vZw];rfl
end Go.Proofs.Ytghnechjgchajaa
