/- Devices: parts joined; a device in new memory, its rows in places. -/
import Derived.Test.YtghnechjgchajaaStep2
namespace Go.Proofs.Ytghnechjgchajaa
open Go.Eng
set_option linter.unusedVariables false
set_option linter.unusedSimpArgs false
abbrev Byt:=List Int
abbrev Lev:=List Byt
theorem zKb{α:Type}(l:List α){i:Nat}(h:i<l.length)(z:α):Z.get l (Z.toN (i:Int)) z=l[i]:=by simp[Z.get,Z.toN,List.getD,h]
theorem ixND{α:Type}{l:List α}{i:Nat}(h:i<l.length):Z.Ix (i:Int) (Z.len l):=⟨by omega,by simp only[Z.len];omega⟩
theorem zX6{i:Nat}(h:i<9223372036854775807):Z.wrap .i64 (Z.add (i:Int) 1)=((i+1:Nat):Int):=Z.yYf (by omega)
theorem yWi(l:Lev)(i:Nat):(l.take i).flatten.length≤l.flatten.length:=by
 have:l.flatten=(l.take i).flatten++(l.drop i).flatten:=by rw[←List.flatten_append,Qr]
 rw[this,Q4];omega
theorem yZ7(l:Lev){i:Nat}(h:i<l.length):(l.take (i+1)).flatten=(l.take i).flatten++l[i]:=by
 rw[Q6 h,List.flatten_append,Jv,List.flatten_nil,Je]
theorem yZ8(l:Lev){i:Nat}(h:i<l.length):(l.take i).flatten.length+l[i].length≤l.flatten.length:=by
 have:=yWi l (i+1);rw[yZ7 l h,Q4]at this;exact this
theorem bigD{a b k:Nat}(ha:a≤2000000)(hb:b≤2000000)(hk:k≤100):¬Z.Big a b k:=by
 simp only[Z.Big];have:(2:Nat)^44=17592186044416:=by decide
 have h1:(a+b)*(k+1)≤4000000*101:=Nat.mul_le_mul (by omega) (by omega)
 omega
theorem xWh{l:Lev}{r:Byt}(hr:r=l.flatten)(hl:l.length≤1000000)(ht:l.flatten.length≤1000000):
    Z.loop (fun(s45:(List (Int))×(Int)) k46=>
 (bif (Z.ilt s45.2 (Z.ofN (Z.len l)))then if(Z.Ix s45.2 (Z.len l))then Z.bnd (Z.get l (Z.toN s45.2) ([]:List (Int))) fun(x49:List (Int))=>
 if(Z.Big (Z.len s45.1) (Z.len x49) 1)then none
 else if(Z.EqN (Z.len s45.1) (Z.len s45.1))then Z.bnd (Z.app s45.1 x49) fun(x54:List (Int))=>
 Z.bnd (Z.wrap .i64 (Z.add s45.2 1)) fun(x55:Int)=>
 if(Z.EqN (Z.len x54) (Z.len x54))then k46 (x54,x55)
 else none
 else none
 else none
 else if(Z.EqN (Z.len s45.1) (Z.len s45.1))then some s45.1
 else none)) (([]:List (Int)),0)=some r:=by
  subst hr;refine zWd (fun s=>∃i:Nat,i≤l.length∧s=((l.take i).flatten,(i:Int))) (fun s=>l.length-s.2.toNat) ?_ ⟨0,by omega,rfl⟩ (zJy l.length _ (by omega))
  rintro s k ⟨i,hi,rfl⟩ hk;dsimp only;by_cases h:i<l.length
  · refine zQt (decide_eq_true (by simp only[Z.ofN,Z.len];omega)) ?_
    refine zQa (ixND h) (zQd (zKb l h _) ?_);have h1:=yZ8 l h;refine zKa (bigD (by simp only[Z.len];omega) (by simp only[Z.len];omega) (by omega)) ?_
    refine zQa rfl ?_;refine zQd (y:=(l.take (i+1)).flatten) (yZ7 l h).symm ?_;refine zQd (zX6 (by omega)) ?_
    refine zQa rfl ?_;exact hk _ ⟨i+1,by omega,rfl⟩ (by show l.length-((i+1:Nat):Int).toNat<l.length-((i:Int)).toNat;omega)
  · refine zQo (decide_eq_false (by simp only[Z.ofN,Z.len];omega)) ?_
    refine zQa rfl ?_;rw[Qm (by omega)]
theorem wJt(l:Lev)(hl:l.length≤1000000)(ht:l.flatten.length≤1000000):zWm l=some l.flatten:=by
 unfold zWm;refine zWd (fun s=>∃i:Nat,i≤l.length∧s=(((l.take i).flatten.length:Int),(i:Int))) (fun s=>l.length-s.2.toNat) ?_ ⟨0,by omega,rfl⟩ (zJy l.length _ (by omega))
 rintro s k ⟨i,hi,rfl⟩ hk;dsimp only;have h1:=yWi l i;by_cases h:i<l.length
 ·refine zQt (decide_eq_true (by simp only[Z.ofN,Z.len];omega)) ?_
  refine zQa (ixND h) (zQd (zKb l h _) ?_);have hx:=yZ8 l h;refine zQd (y:=((l.take (i+1)).flatten.length:Int)) ((yJ5 (by simp only[Z.add,Z.ofN,Z.len];omega)).trans (by rw[yZ7 l h];simp[Z.add,Z.ofN,Z.len])) ?_
  refine zQo (decide_eq_false (by omega)) ?_
  refine zQd (zX6 (by omega)) ?_
  exact hk _ ⟨i+1,by omega,rfl⟩ (by show l.length-((i+1:Nat):Int).toNat<l.length-((i:Int)).toNat;omega)
 ·refine zQo (decide_eq_false (by simp only[Z.ofN,Z.len];omega)) ?_
  rw[Qm (by omega)]at h1⊢
  refine zQo (decide_eq_false (by omega)) ?_
  refine zQd (y:=0) (yJ5 (by simp[Z.sub])) ?_
  refine zQd (y:=(l.flatten.length:Int)) ((yJ5 (by simp only[Z.sub];omega)).trans (by simp[Z.sub])) ?_
  by_cases hpos:0<l.flatten.length
  ·refine zQt (decide_eq_true (by omega)) ?_
   refine zQa ⟨by omega,by omega⟩ ?_
   refine zQa (Z.xJs.2 ⟨by omega,by omega,by omega⟩) ?_
   have hrep:Z.rep (α:=Int) (Z.toN (l.flatten.length:Int)) 0=List.replicate l.flatten.length 0:=by simp[Z.rep,Z.toN]
   refine zQd hrep ?_;refine zKa (by simp only[Z.EqN,Z.len,List.length_replicate];omega) ?_
   refine zKa (bigD (by simp[Z.len]) (by simp only[Z.len,List.length_replicate];omega) (by omega)) ?_
   refine zQd (y:=List.replicate l.flatten.length 0) (by simp[Z.app]) ?_
   refine zQa ⟨by omega,by simp only[Z.len];omega⟩ ?_
   refine zQa (by simp only[Z.Lt,Z.len,List.length_replicate];omega) ?_
   refine zQa rfl ?_;refine zQa rfl ?_;exact xWh rfl hl ht
  ·refine zQo (decide_eq_false (by omega)) ?_
   refine zQa rfl ?_;exact xWh rfl hl ht
def refV{α:Type}(l:List (List α)):List (MixE α):=(List.range l.length).map fun j=>.ref j 0 (l.getD j []).length (l.getD j []).length
theorem yW3{α:Type}(l:List (List α)):(refV l).length=l.length:=by simp[refV]
theorem wX4{α:Type}(l:List (List α)){j:Nat}(h:j<l.length)(z:MixE α):(refV l).getD j z=.ref j 0 l[j].length l[j].length:=by
 simp[refV,List.getD,h]
theorem vZs{α:Type}(l:List (List α)){j:Nat}(h:j<l.length)(r:List α):(refV l).set j (.ref j 0 r.length r.length)=refV (l.set j r):=by
 apply Q7;intro i;by_cases hi:i<l.length
 ·by_cases e:i=j
  ·subst e
   rw[Qh (by rw[yW3];exact hi)]
   simp[refV,hi,List.getD]
  ·rw[Qe (Ne.symm e)]
   simp[refV,hi,List.getD,Qe (Ne.symm e),List.getElem_set_ne (Ne.symm e)]
 ·rw[Q5 (by rw[List.length_set,yW3];omega),Q5 (by rw[yW3,List.length_set];omega)]
theorem wY8{α:Type}(n:Nat):(Z.wQq n:List (MixE α))=refV (List.replicate n []):=by
 unfold Z.wQq refV;rw[List.length_replicate];apply Jp;intro j hj;have:j<n:=List.mem_range.1 hj;simp[List.getD,this]
def zKx(L:Lev):List Int:=L.map fun b=>(b.length:Int)
def szD(d:List Lev)(i k:Nat):List (List Int):=(List.range d.length).map fun j=>if j<i then zKx (d.getD j [])else if j=i then(zKx (d.getD j [])).take k else []
theorem zK2(d:List Lev)(i k:Nat):(szD d i k).length=d.length:=by simp[szD]
theorem wQx(d:List Lev)(i k:Nat){j:Nat}(h:j<d.length):(szD d i k).getD j []=if j<i then zKx d[j]else if j=i then(zKx d[j]).take k else []:=by
 simp[szD,List.getD,h]
theorem wXz(d:List Lev)(i k:Nat){j:Nat}(h:j<d.length):(szD d i k)[j]'(by rw[zK2];exact h)=if j<i then zKx d[j]else if j=i then(zKx d[j]).take k else []:=by
 simp[szD,List.getD,h]
theorem wYj(d:List Lev){i k:Nat}(h:i<d.length)(hk:k<d[i].length):(szD d i k).set i ((szD d i k).getD i []++[(d[i][k].length:Int)])=szD d i (k+1):=by
 apply Q7;intro j;by_cases hj:j<d.length
 ·by_cases e:j=i
  ·subst e
   rw[Qh (by rw[zK2];exact hj),wQx d j k hj]
   have e1:(szD d j (k+1))[j]?=some ((zKx d[j]).take (k+1)):=by simp[szD,hj,List.getD]
   rw[e1];simp only[Nat.lt_irrefl,if_false,if_true];rw[Q6 (by simp[zKx];exact hk)]
   simp[zKx]
  ·rw[Qe (Ne.symm e)]
   simp[szD,hj,List.getD,e]
 ·rw[Q5 (by rw[List.length_set,zK2];omega),Q5 (by rw[zK2];omega)]
theorem vZm(d:List Lev){i:Nat}(h:i<d.length):szD d i d[i].length=szD d (i+1) 0:=by
 apply Q7;intro j;by_cases hj:j<d.length
 ·rcases Nat.lt_trichotomy j i with hlt|rfl|hgt
  ·have:j<i+1:=by omega
   simp[szD,hj,List.getD,hlt,this]
  ·simp[szD,hj,List.getD,Qm,zKx]
  ·have h1:¬j<i:=by omega
   have h2:¬j=i:=by omega
   have h3:¬j<i+1:=by omega
   simp[szD,hj,List.getD,h1,h2,h3]
 ·rw[Q5 (by rw[zK2];omega),Q5 (by rw[zK2];omega)]
theorem vZl(d:List Lev):szD d 0 0=List.replicate d.length []:=by
 apply Q7;intro j;by_cases hj:j<d.length
 ·simp[szD,hj,List.getElem?_replicate_of_lt hj]
 ·rw[Q5 (by rw[zK2];omega),Q5 (by simp;omega)]
theorem vYk(d:List Lev){j:Nat}(h:j<d.length)(i k:Nat)(hi:i=d.length):(szD d i k).getD j []=zKx d[j]:=by
 subst hi;rw[wQx d _ _ h,if_pos h]
def offD(L:Lev)(k:Nat):Nat:=(L.take k).flatten.length
theorem zJn(L:Lev){k:Nat}(h:k<L.length):offD L (k+1)=offD L k+L[k].length:=by
 unfold offD;rw[yZ7 L h,Q4]
theorem yK2(L:Lev)(k:Nat):offD L k≤L.flatten.length:=yWi L k
def bkD(q:Nat)(L:Lev)(k:Nat):MixE Int:=Z.xcut (Z.xrow q L.flatten) (offD L k) (offD L (k+1))
def bksD(q:Nat)(L:Lev):List (MixE Int):=(List.range L.length).map (bkD q L)
def bkSo(q:Nat)(L:Lev)(k:Nat):List (MixE Int):=(List.range L.length).map fun j=>if j<k then bkD q L j else .data []
theorem yKk(q:Nat)(L:Lev)(k:Nat):(bkSo q L k).length=L.length:=by simp[bkSo]
theorem vK9(q:Nat)(L:Lev){k:Nat}(h:k<L.length):(bkSo q L k).set k (bkD q L k)=bkSo q L (k+1):=by
 apply Q7;intro j;by_cases hj:j<L.length
 ·by_cases e:j=k
  ·subst e
   rw[Qh (by rw[yKk];exact hj)]
   simp[bkSo,hj]
  ·rw[Qe (Ne.symm e)]
   by_cases h1:j<k
   ·have h2:j<k+1:=by omega
    simp[bkSo,hj,h1,h2]
   ·have h2:¬j<k+1:=by omega
    simp[bkSo,hj,h1,h2]
 ·rw[Q5 (by rw[List.length_set,yKk];omega),Q5 (by rw[yKk];omega)]
theorem vJa(q:Nat)(L:Lev):bkSo q L L.length=bksD q L:=by
 unfold bkSo bksD;apply Jp;intro j hj;rw[if_pos (List.mem_range.1 hj)]
theorem vXq(q:Nat)(L:Lev):bkSo q L 0=List.replicate L.length (.data []):=by
 apply Q7;intro j;by_cases hj:j<L.length
 ·simp[bkSo,hj,List.getElem?_replicate_of_lt hj]
 ·rw[Q5 (by rw[yKk];omega),Q5 (by simp;omega)]
theorem vX9{α:Type}(q:Nat)(w:List α):Z.xlen (Z.xrow q w)=w.length:=by
 unfold Z.xrow;split
 ·rename_i h;show w.length=w.length;rfl
 ·rfl
theorem vZa{α:Type}(Q:List (List α))(w:List α):Z.XCut (Q++[w]) (Z.xrow Q.length w):=by
 unfold Z.xrow Z.XCut;split
 ·rfl
 ·simp[MixE.xcut,List.getD]
def qD(d:List Lev):List Byt:=d.map List.flatten
def p1D(d:List Lev)(i:Nat):List (List (MixE Int)):=(List.range i).map fun j=>bksD j (d.getD j [])
def p2D(d:List Lev)(i:Nat):List (MixE (MixE Int)):=(List.range i).map fun j=>.ref j 0 (d.getD j []).length (d.getD j []).length
theorem vZz(d:List Lev){i:Nat}(h:i<d.length):p1D d (i+1)=p1D d i++[bksD i d[i]]:=by
 unfold p1D;rw[List.range_succ,Qx];simp[List.getD,h]
theorem vZy(d:List Lev){i:Nat}(h:i<d.length):p2D d (i+1)=p2D d i++[.ref i 0 d[i].length d[i].length]:=by
 unfold p2D;rw[List.range_succ,Qx];simp[List.getD,h]
theorem vQ0(n:Nat):Z.mapO (fun(e55:List (Int))=>some (Z.yXw e55)) (Z.rep (α:=List (Int)) n ([]:List (Int)))=some (List.replicate n (.data [])):=by
 show Z.mapO _ (List.replicate n [])=_;induction n with
 |zero=>rfl
 |succ n ih=>
  rw[J5,J5];show List.mapM _ (_::_)=_;rw[Kr];have ih':List.mapM (fun(e55:List (Int))=>some (Z.yXw e55)) (List.replicate n [])=some (List.replicate n (.data [])):=ih
  rw[ih'];rfl
structure DevB (d:List Lev):Prop where
 many:d.length≤1000
 lev:∀L∈d,L.length≤1000
 flat:∀L∈d,L.flatten.length≤1000000
theorem zJt(d:List Lev)(hb:DevB d):zJi (d,())=some ((qD d,(p1D d d.length,[p2D d d.length])),(.ref 0 0 d.length d.length,())):=by
 unfold zJi;dsimp only;have hn:=hb.many;have hmk:∀m:Nat,m≤1000→Z.MkOk (Z.ofN m) (Z.ofN m) 24:=fun m hm=>Z.zKt.2 ⟨by simp only[Z.ofN];omega,Int.le_refl _,by simp only[Z.ofN];omega,by simp only[Z.ofN];omega⟩
 refine zQa (hmk _ hn) ?_;refine zWd (fun(s:Int×((List (MixE Int))×(List (List Int))))=>∃i:Nat,i≤d.length∧s=((i:Int),(refV (szD d i 0),szD d i 0))) (fun s=>d.length-s.1.toNat) ?_ ⟨0,Jm _, ?_⟩ (zJy _ _ (by omega))
 ·rintro s k ⟨i,hi,rfl⟩ hk
  dsimp only;by_cases h:i<d.length
  ·refine zQt (decide_eq_true (by simp only[Z.ofN,Z.len];omega)) ?_
   refine zQa (ixND h) (zQd (zKb d h _) ?_);have hL:=hb.lev _ (Qt h);have hF:=hb.flat _ (Qt h);refine zWd (fun(s:Int×((List (MixE Int))×(List (List Int))))=>∃q:Nat,q≤d[i].length∧s=((q:Int),(refV (szD d i q),szD d i q))) (fun s=>d[i].length-s.1.toNat) ?_ ⟨0,Jm _,rfl⟩ (zJy _ _ (by omega))
   rintro s k2 ⟨q,hq,rfl⟩ hk2;dsimp only;by_cases hqlt:q<d[i].length
   ·refine zQt (decide_eq_true (by simp only[Z.ofN,Z.len];omega)) ?_
    refine zQa (ixND hqlt) (zQd (zKb d[i] hqlt _) ?_);have hsl:i<(szD d i q).length:=by rw[zK2];exact h
    have hin:Z.In (i:Int) (Z.toN (Z.ofN (Z.len d))):=⟨by omega,by show(i:Int)<((d.length:Int).toNat:Int);omega⟩
    have hrow:(szD d i q).getD i []=(zKx d[i]).take q:=by rw[wQx d i q h];simp
    have hrl:((zKx d[i]).take q).length=q:=by rw[J7];simp[zKx];omega
    have hrE:(szD d i q)[i]=(zKx d[i]).take q:=by rw[wXz d i q h];simp
    refine zQa hin (zQa (by show 0+i<(refV (szD d i q)).length;rw[yW3,zK2];omega) ?_)
    refine zQd (y:=MixE.ref i 0 q q) ?_ ?_
    ·show(refV (szD d i q)).getD (0+i) _=_
     rw[Jt,wX4 _ hsl,hrE,hrl]
    refine zQa (Qf _) ?_;refine zQa ?_ ?_
    ·simp only[Z.XGr,MixE.xgr,hrow,hrl,decide_eq_true hsl]
     simp
    refine iteN (by show¬(1:Nat)=0;decide) ?_
    refine zKa (bigD (by show q≤2000000;omega) (by show 1≤2000000;omega) (by omega)) ?_
    refine zQd (y:=szD d i (q+1)) ?_ ?_
    ·show(szD d i q).set i ((szD d i q).getD i []++[(d[i][q].length:Int)])=_
     exact wYj d h hqlt
    refine zQd (y:=MixE.ref i 0 (q+1) (q+1)) rfl ?_;refine zQa hin (zQa (by show 0+i<(refV (szD d i q)).length;rw[yW3,zK2];omega) ?_)
    refine zQd (y:=refV (szD d i (q+1))) ?_ ?_
    ·show(refV (szD d i q)).set (0+i) (.ref i 0 (q+1) (q+1))=_
     rw[Jt,←wYj d h hqlt,hrow];have e:((zKx d[i]).take q++[(d[i][q].length:Int)]).length=q+1:=by rw[Q4,hrl];rfl
     have:=vZs (szD d i q) hsl ((zKx d[i]).take q++[(d[i][q].length:Int)]);rw[e]at this;exact this
    refine zQd (zX6 (by omega)) ?_
    exact hk2 _ ⟨q+1,hqlt,rfl⟩ (by show d[i].length-((q+1:Nat):Int).toNat<d[i].length-((q:Int)).toNat;omega)
   ·refine zQo (decide_eq_false (by simp only[Z.ofN,Z.len];omega)) ?_
    have hq2:q=d[i].length:=by omega
    subst hq2;refine zQd (zX6 (by omega)) ?_
    rw[vZm d h];exact hk _ ⟨i+1,h,rfl⟩ (by show d.length-((i+1:Nat):Int).toNat<d.length-((i:Int)).toNat;omega)
  ·refine zQo (decide_eq_false (by simp only[Z.ofN,Z.len];omega)) ?_
   have hi2:i=d.length:=by omega
   clear hk;refine zWd (fun(s:(Int)×((MixE (MixE (MixE (Int))))×((List (List (MixE (MixE (Int)))))×((List (List (Int)))×(List (List (MixE (Int))))))))=>∃j:Nat,j≤d.length∧s=((j:Int),(.ref 0 0 j j,([p2D d j],((qD d).take j,p1D d j))))) (fun s=>d.length-s.1.toNat) ?_ ⟨0,Jm _,rfl⟩ (zJy _ _ (by omega))
   rintro s k ⟨j,hj,rfl⟩ hk;dsimp only;by_cases h:j<d.length
   ·refine zQt (decide_eq_true (by simp only[Z.ofN,Z.len];omega)) ?_
    refine zQa (ixND h) (zQd (zKb d h _) ?_);have hL:=hb.lev _ (Qt h);have hF:=hb.flat _ (Qt h);have hsl:j<(szD d i 0).length:=by rw[zK2];exact h
    have hin:Z.In (j:Int) (Z.toN (Z.ofN (Z.len d))):=⟨by omega,by show(j:Int)<((d.length:Int).toNat:Int);omega⟩
    have hrow:(szD d i 0).getD j []=zKx d[j]:=vYk d h i 0 hi2;have hrE:(szD d i 0)[j]=zKx d[j]:=by rw[wXz d i 0 h,if_pos (by omega)]
    have hrl:(zKx d[j]).length=d[j].length:=by simp[zKx]
    refine zQa hin (zQa (by show 0+j<(refV (szD d i 0)).length;rw[yW3,zK2];omega) ?_)
    refine zQd (y:=MixE.ref j 0 d[j].length d[j].length) ?_ ?_
    ·show(refV (szD d i 0)).getD (0+j) _=_
     rw[Jt,wX4 _ hsl,hrE,hrl]
    refine zQs (wJt d[j] (by omega) hF) ?_
    have hql:(qD d).length=d.length:=by simp[qD]
    have hqt:((qD d).take j).length=j:=by rw[J7];omega
    refine zQd (y:=(qD d).take (j+1)) ?_ ?_
    ·show(qD d).take j++[d[j].flatten]=_
     rw[Q6 (by omega)]
     simp[qD]
    have hx52:(qD d).take (j+1)=(qD d).take j++[d[j].flatten]:=by
     rw[Q6 (by omega)]
     simp[qD]
    generalize hLv:d[j]=L at *;refine zQa (hmk L.length hL) ?_;refine zQs (vQ0 L.length) ?_;refine zWd (fun(s:(List (MixE (Int)))×((Int)×(Int)))=>∃q:Nat,q≤L.length∧s=(bkSo j L q,((offD L q:Int),(q:Int)))) (fun s=>L.length-s.2.2.toNat) ?_ ⟨0,Jm _,by rw[vXq];rfl⟩ (zJy _ _ (by omega))
    rintro s k2 ⟨q,hq,rfl⟩ hk2;dsimp only;by_cases hqlt:q<L.length
    ·refine zQt (decide_eq_true (by simp only[Z.ofN,Z.xlen];omega)) ?_
     have hix:Z.Ix (q:Int) (Z.xlen (MixE.ref j 0 L.length L.length:MixE Int)):=⟨by omega,by show((q:Int)).toNat<L.length;omega⟩
     have hpt:Z.XPt (szD d i 0) (MixE.ref j 0 L.length L.length:MixE Int) (Z.toN (q:Int)):=by
      simp only[Z.XPt,MixE.xpt,hrow,hrl,decide_eq_true hsl];simp[Z.toN,hqlt]
     refine zQa hix (zQa hpt (zQa hpt ?_));have o1:=zJn L hqlt;have o2:=yK2 L (q+1);refine zQd (y:=(L[q].length:Int)) ?_ ?_
     ·show((szD d i 0).getD j []).getD (0+q) 0=_
      rw[hrow,Jt];simp[zKx,List.getD,hqlt]
     have hw:Z.wrap .i64 (Z.add (offD L q:Int) (L[q].length:Int))=((offD L (q+1):Nat):Int):=(yJ5 (by simp only[Z.add];omega)).trans (by simp only[Z.add];omega)
     refine zQd hw (zQd hw ?_);have hxl:Z.xlen (Z.xrow (Z.len ((qD d).take j)) L.flatten)=L.flatten.length:=vX9 _ _;refine zQa ?_ ?_
     ·rw[hx52];exact vZa _ _
     refine zQa (by rw[hxl];exact⟨by omega,by omega⟩) ?_
     refine zQa (by show Z.Bd ((offD L (q+1):Nat):Int) (offD L (q+1));exact⟨by omega,by omega⟩) ?_
     refine zQa (by show Z.Bd ((offD L q:Nat):Int) (offD L (q+1));exact⟨by omega,by omega⟩) ?_
     refine zQd (y:=bkD j L q) ?_ ?_
     ·show Z.xcut (Z.xrow ((qD d).take j).length L.flatten) (offD L q) (offD L (q+1))=_
      rw[hqt];rfl
     refine zQa ⟨by omega,by show(q:Int)<((L.length:Int).toNat:Int);omega⟩ ?_
     refine zQa (by show 0+q<(bkSo j L q).length;rw[yKk];omega) ?_
     refine zQd (y:=bkSo j L (q+1)) ?_ ?_
     ·show(bkSo j L q).set (0+q) (bkD j L q)=_
      rw[Jt];exact vK9 j L hqlt
     refine zQd hw (zQd (zX6 (by omega)) ?_)
     exact hk2 _ ⟨q+1,hqlt,rfl⟩ (by show L.length-((q+1:Nat):Int).toNat<L.length-((q:Int)).toNat;omega)
    ·refine zQo (decide_eq_false (by simp only[Z.ofN,Z.xlen];omega)) ?_
     have hq2:q=L.length:=by omega
     subst hq2;rw[vJa];refine zQa rfl ?_;refine zQa (by show L.length=(bksD j L).length;simp[bksD]) ?_
     have hp1:p1D d (j+1)=p1D d j++[bksD j L]:=by rw[vZz d h,hLv]
     have hp2:p2D d (j+1)=p2D d j++[.ref j 0 L.length L.length]:=by rw[vZy d h,hLv]
     have hp1l:(p1D d j).length=j:=by simp[p1D]
     have hp2l:(p2D d j).length=j:=by simp[p2D]
     refine zQd (y:=p1D d (j+1)) hp1.symm ?_;refine zQa (by simp[Z.XGr,MixE.xgr,hp2l]) ?_
     refine iteN (by show¬(1:Nat)=0;decide) ?_
     refine zKa (bigD (by show j≤2000000;omega) (by show 1≤2000000;omega) (by omega)) ?_
     refine zQd (y:=[p2D d (j+1)]) ?_ ?_
     ·rw[hp2]
      show [p2D d j].set 0 ([p2D d j].getD 0 []++[.ref (p1D d j).length 0 L.length L.length])=_;rw[hp1l];rfl
     refine zQd (y:=MixE.ref 0 0 (j+1) (j+1)) rfl ?_;refine zQd (zX6 (by omega)) ?_
     exact hk _ ⟨j+1,h,rfl⟩ (by show d.length-((j+1:Nat):Int).toNat<d.length-((j:Int)).toNat;omega)
   ·refine zQo (decide_eq_false (by simp only[Z.ofN,Z.len];omega)) ?_
    have hj2:j=d.length:=by omega
    subst hj2;have:(qD d).take d.length=qD d:=Qm (by simp[qD])
    rw[this]
 ·rw[vZl]
  show(0,(Z.wQq d.length,List.replicate d.length []))=_;rw[wY8];rfl
end Go.Proofs.Ytghnechjgchajaa
