/- HarmCrashes answers true. -/
import Derived.Test.YtghnechjgchajaaHarmG
namespace Go.Proofs.Ytghnechjgchajaa
open Go.Eng
set_option linter.unusedVariables false
set_option linter.unusedSimpArgs false
theorem vJy{c:CfgT}{d:List Lev}{l:List SeeT}(hok:zZl c d)(hall:∀x∈l,zXc d x)(hl:l.length≤2000)(n:Nat){y:List Lev}(hy:y=reps (nwS c) ((wrL l).take n)):
    Z.loop (fun(s11:(Int)×(Int)) k12=>
 (bif (Z.ilt s11.2 (Z.ofN (Z.len y)))then Z.loop (fun(s13:(Int)×(Int)) k14=>
 if(Z.Ix s11.2 (Z.len y))then Z.bnd (Z.get y (Z.toN s11.2) ([]:List (List (Int)))) fun(x17:List (List (Int)))=>
 (bif (Z.ilt s13.2 (Z.ofN (Z.len x17)))then Z.bnd (Z.wrap .i64 (Z.add s13.2 1)) fun(x18:Int)=>
 Z.bind (zXy (l,(s11.2,x18))) fun(x19:List (List (Int)))=>
 Z.bnd (Z.wrap .i64 (Z.add s13.1 (Z.ofN (Z.len x19)))) fun(x20:Int)=>
 if(Z.Ix s11.2 (Z.len y))then Z.bnd (Z.get y (Z.toN s11.2) ([]:List (List (Int)))) fun(x23:List (List (Int)))=>
 if(Z.Ix s13.2 (Z.len x23))then Z.bnd (Z.get x23 (Z.toN s13.2) ([]:List (Int))) fun(x26:List (Int))=>
 if(Z.Ix s11.2 (Z.len y))then Z.bnd (Z.get y (Z.toN s11.2) ([]:List (List (Int)))) fun(x29:List (List (Int)))=>
 if(Z.Ix s13.2 (Z.len x29))then Z.bnd (Z.get x29 (Z.toN s13.2) ([]:List (Int))) fun(x32:List (Int))=>
 if(Z.MkOk (Z.ofN (Z.len x32)) (Z.ofN (Z.len x32)) 1)then if(Z.Le (Z.addN 0 (Z.toN (Z.ofN (Z.len x32)))) (Z.len (Z.rep (α:=Int) (Z.toN (Z.ofN (Z.len x32))) 0)))then Z.bind (zXm (x26,(Z.seg (Z.rep (α:=Int) (Z.toN (Z.ofN (Z.len x32))) 0) 0 (Z.toN (Z.ofN (Z.len x32)))))) fun(x37:Bool)=>
 Z.loop (fun(s38:(Bool)×(Int)) k39=>
 (bif (Z.ilt s38.2 (Z.ofN (Z.len x19)))then(bif s38.1 then Z.bnd (Z.wrap .i64 (Z.add s38.2 1)) fun(x40:Int)=>
 k39 (true,x40)
 else if(Z.Ix s11.2 (Z.len y))then Z.bnd (Z.get y (Z.toN s11.2) ([]:List (List (Int)))) fun(x43:List (List (Int)))=>
 if(Z.Ix s13.2 (Z.len x43))then Z.bnd (Z.get x43 (Z.toN s13.2) ([]:List (Int))) fun(x46:List (Int))=>
 if(Z.Ix s38.2 (Z.len x19))then Z.bnd (Z.get x19 (Z.toN s38.2) ([]:List (Int))) fun(x49:List (Int))=>
 Z.bind (zXm (x46,x49)) fun(x50:Bool)=>
 Z.bnd (Z.wrap .i64 (Z.add s38.2 1)) fun(x51:Int)=>
 k39 ((Z.zQs false true x50),x51)
 else none
 else none
 else none)
 else(bif (Z.bnot s38.1)then some false
 else Z.bnd (Z.wrap .i64 (Z.add s13.2 1)) fun(x52:Int)=>
 k14 (x20,x52)))) (x37,0)
 else none
 else none
 else none
 else none
 else none
 else none
 else Z.bnd (Z.wrap .i64 (Z.add s11.2 1)) fun(x53:Int)=>
 k12 (s13.1,x53))
 else none) (s11.1,0)
 else(bif true then(bif (Z.ine 0 0)then some (Z.zQs true true false)
 else some (Z.zQs true (Z.zQs false true (Z.ieq s11.1 ((wrL l).length:Int))) false))
 else some false))) (0,0)=some true:=by
  obtain⟨hd,hb⟩:=vX0 hok hall n hy;clear hy;obtain⟨hok',hall'⟩:=uZ9 hd hok hall;obtain⟨b1,b2⟩:=zYe hok';have hbl:∀x∈l,x.2.2.2.1.length≤1000000:=fun x hx=>by
    obtain⟨i,hi,k,hk,_,_,e⟩:=wZ3 (hall' x hx);have:=(b2 _ (Qo hi)).2 _ (Qo hk);omega
  obtain⟨D,hD⟩:∃D:Nat→Nat,∀(i:Nat) (h:i<y.length),D i=y[i].length:=⟨fun i=>(y.getD i []).length,fun i h=>by simp[List.getD,h]⟩
  have hfin:=vKh D hD l hall';refine zQx (fun(s:Int×Int)=>∃i:Nat,i≤y.length∧s=((vtot l D i:Int),(i:Int))) (fun s=>y.length-s.2.toNat) ?_ ⟨0,Jd _,rfl⟩ (zZ3 _ _ (by omega))
  rintro s k ⟨i,hil,rfl⟩ hk;dsimp only;by_cases hi:i<y.length
  rotate_left
  · refine zQg (decide_eq_false (by simp only[Z.ofN,Z.len];omega)) ?_
    have:i=y.length:=by omega
    subst this;rw[hfin];refine zQl rfl (zQg rfl ?_);simp[Z.zQs,Z.ieq]
  have hYl:=b2 _ (Qo hi);refine zQl (decide_eq_true (by simp only[Z.ofN,Z.len];omega)) ?_
  refine zQx (fun(s:Int×Int)=>∃q:Nat,q≤y[i].length∧s=(((vtot l D i+vsum l (i:Int) q:Nat):Int),(q:Int))) (fun s=>y[i].length-s.2.toNat) ?_ ⟨0,Jd _,rfl⟩ (zZ3 _ _ (by omega))
  rintro s k2 ⟨q,hql,rfl⟩ hk2;dsimp only;refine zQa (ixND hi) (zQc (zXf y hi _) ?_);by_cases hq:q<y[i].length
  rotate_left
  · refine zQg (decide_eq_false (by simp only[Z.ofN,Z.len];omega)) ?_
    have:q=y[i].length:=by omega
    subst this;refine zQc (zWx (by omega)) ?_
    refine hk _ ⟨i+1,hi, ?_⟩ (by show y.length-((i+1:Nat):Int).toNat<y.length-((i:Int)).toNat;omega)
    rw[←hD i hi];rfl
  refine zQl (decide_eq_true (by simp only[Z.ofN,Z.len];omega)) (zQc (zWx (by omega)) ?_)
  refine zQt (yQ3 l _ _ (by omega) hbl) ?_
  have t1:=uQf l D i;have t2:=wY3 l (i:Int) q;have t3:=wWp l (i:Int) ((q+1:Nat):Int) l.length;rw[Q7]at t3;have e3:vsum l (i:Int) (q+1)=vsum l (i:Int) q+(vers l (i:Int) ((q+1:Nat):Int)).length:=rfl
  have hor:=hb i q hi hq;have hY:=hYl.2 _ (Qo hq);generalize hV:vers l (i:Int) ((q+1:Nat):Int)=V at *;refine zQc (y:=((vtot l D i+vsum l (i:Int) (q+1):Nat):Int)) ((yX8 (by simp only[Z.add,Z.ofN,Z.len];omega)).trans (by simp only[Z.add,Z.ofN,Z.len];omega)) ?_
  refine zQa (ixND hi) (zQc (zXf y hi _) (zQa (ixND hq) (zQc (zXf y[i] hq _) ?_)));refine zQa (ixND hi) (zQc (zXf y hi _) (zQa (ixND hq) (zQc (zXf y[i] hq _) ?_)))
  have hK:k2 (((vtot l D i+vsum l (i:Int) (q+1):Nat):Int),((q+1:Nat):Int))=some true:=hk2 _ ⟨q+1,hq,rfl⟩ (by show y[i].length-((q+1:Nat):Int).toNat<y[i].length-((q:Int)).toNat;omega)
  have g1:=zXf y hi ([]:List (List Int));have g2:=zXf y[i] hq ([]:List Int);have x1:=ixND hi;have x2:=ixND hq;generalize y[i][q]=Y at *;refine zQa (Z.zKl.2 ⟨by simp only[Z.ofN,Z.len];omega,Int.le_refl _,by simp only[Z.ofN,Z.len];omega,by simp only[Z.ofN,Z.len];omega⟩) ?_
  refine zQa (by show 0+((Y.length:Int)).toNat≤(List.replicate ((Y.length:Int)).toNat (0:Int)).length;simp) ?_
  have es:Z.seg (Z.rep (α:=Int) (Z.toN (Z.ofN (Z.len Y))) 0) 0 (Z.toN (Z.ofN (Z.len Y)))=List.replicate Y.length 0:=by
    show((List.replicate ((Y.length:Int)).toNat (0:Int)).drop 0).take ((Y.length:Int)).toNat=_;rw[Jv,Qg (by simp)];rfl
  rw[es];refine zQt (zJg _ _) ?_;refine zQx (fun(s:Bool×Int)=>∃m:Nat,m≤V.length∧s.2=(m:Int)∧(Y=List.replicate Y.length 0→s.1=true)∧∀(j:Nat) (h:j<V.length),j<m→Y=V[j]→s.1=true) (fun s=>V.length-s.2.toNat) ?_ ⟨0,Jd _,rfl,fun h=>decide_eq_true (congrArg Z.str h),fun _ _ h=>absurd h (Nat.not_lt_zero _)⟩ (zZ3 _ _ (by omega))
  rintro⟨b,p⟩ k3 ⟨m,hm,hp,hz,hv⟩ hk3;dsimp only at hp hz hv⊢;subst hp;by_cases hlt:m<V.length
  · have dec:V.length-((m+1:Nat):Int).toNat<V.length-((m:Int)).toNat:=by omega
    refine zQl (decide_eq_true (by simp only[Z.ofN,Z.len];omega)) ?_
    cases b with
    |true=>exact zQl rfl (zQc (zWx (by omega)) (hk3 _ ⟨m+1,hlt,rfl,fun _=>rfl,fun _ _ _ _=>rfl⟩ dec))
    | false=>
      refine zQg rfl (zQa x1 (zQc g1 (zQa x2 (zQc g2 (zQa (ixND hlt) (zQc (zXf V hlt _) ?_))))));refine zQt (zJg _ _) (zQc (zWx (by omega)) ?_)
      refine hk3 _ ⟨m+1,hlt,rfl,fun h=>absurd (hz h) (by decide),fun j h hj e=>?_⟩ dec
      by_cases hjm:j<m
      ·exact absurd (hv j h hjm e) (by decide)
      · have:j=m:=by omega
        subst this;show Z.zQs false true (decide (Z.str Y=Z.str V[j]))=true;rw[decide_eq_true (congrArg Z.str e)];rfl
  · refine zQg (decide_eq_false (by simp only[Z.ofN,Z.len];omega)) ?_
    have hbt:b=true:=by
      rcases hor with h|h
      ·exact hz h
      · obtain⟨j,hj,e⟩:=List.getElem_of_mem h
        exact hv j hj (by omega) e.symm
    subst hbt;exact zQg rfl (zQc (zWx (by omega)) hK)
theorem vJo{d:List Lev}(h:yKl d=false):d.length≤1000000∧∀L∈d,L.length≤1000000:=by
 obtain⟨h1,h2⟩:=vJn h;exact⟨by omega,fun L hL=>by have:=h2 L hL;omega⟩
theorem new_in(c:CfgT):(newD c).1.1.length≤1000000∧∀L∈(newD c).1.1,L.length≤1000000:=by
 unfold newD;split
 ·rename_i h
  obtain⟨b1,b2⟩:=zYe (wXa h);exact⟨by show(nwS c).length≤_;omega,fun L hL=>by have:=(b2 L hL).1;omega⟩
 ·exact⟨by show 0≤_;omega,fun L hL=>by simp at hL⟩
theorem wQ2(c:CfgT)(d:List Lev)(l:List SeeT)(at_:Int)(u:Unit):hrm c d l (5,(0,(0,(0,(at_,(0,u))))))=if 0≤at_∧at_≤(wrL l).length then some (reps (nwS c) ((wrL l).take at_.toNat))else none:=by
 unfold hrm;rw[if_pos rfl]
theorem wX5(c:CfgT)(d:List Lev)(l:List SeeT)(at_:Int):zZe (c,((d,()),(l,at_)))=some true:=by
 unfold zZe;dsimp only;refine zQt uK7 (zQt (xXp d) ?_);cases gd:yKl d with
 |true=>exact zQl rfl rfl
 |false=>
 obtain⟨i1,i2⟩:=vJo gd;obtain⟨g,eg,hg⟩:=vKp l;refine zQg rfl (zQt eg ?_);cases g with
 |true=>exact zQl rfl rfl
 |false=>
 have hl:=hg rfl;refine zQg rfl (zQg rfl ?_);obtain⟨n1,n2⟩:=new_in c;refine zQt (yJz c) ?_;refine zQt (zJz c (newD c).1.1 l (by omega) (fun L hL=>by have:=n2 L hL;omega) (by omega)) ?_
 refine zQt (xQz l (by omega)) ?_
 refine zQt (yJt c d l (5,(0,(0,(0,(((wrL l).length:Int),(0,())))))) (by omega) (fun L hL=>by have:=i2 L hL;omega) (by omega)) ?_
 refine zQt (yJt c d l (5,(0,(0,(0,(at_,(0,())))))) (by omega) (fun L hL=>by have:=i2 L hL;omega) (by omega)) ?_
 by_cases hm:mayB c=true
 rotate_left
 ·have e1:newD c=(([],()),8):=if_neg hm
  rw[e1];have hno:¬zZl c d:=fun h=>hm h.1
  refine zQl rfl (zQl rfl ?_);unfold hrmD;rw[if_neg hno];rfl
 have e1:newD c=((nwS c,()),0):=if_pos hm;rw[e1];refine zQg rfl ?_;have k1:=wXa hm;by_cases hall0:∀x∈l,zXc (nwS c) x
 rotate_left
 ·have e2:repD c (nwS c) l=(([],()),2):=by unfold repD;rw[if_pos k1,if_neg hall0]
  rw[e2];refine zQl rfl (zQl rfl ?_);unfold hrmD;by_cases hok:zZl c d
  ·rw[if_pos hok,if_neg fun hall=>hall0 (xQa hok hall).2];rfl
  ·rw[if_neg hok];rfl
 rw[vQ6 k1 hall0];refine zQg rfl ?_;refine zQt (zYn c d (by omega) fun L hL=>by have:=i2 L hL;omega) ?_
 by_cases hok:zZl c d
 rotate_left
 ·rw[xZ6 hok]
  refine zQl rfl (zQl rfl ?_);unfold hrmD;rw[if_neg hok];rfl
 rw[vZa hok];have hd:=xK6 hok k1;have hall:∀x∈l,zXc d x:=fun x hx=>(yZi hd x).2 (hall0 x hx)
 have hA:∀h:xYk,hrmD c d l h=hrmA (hrm c d l h):=fun h=>by unfold hrmD;rw[if_pos hok,if_pos hall]
 rw[hA,hA,wQ2,wQ2,if_pos ⟨by omega,Int.le_refl _⟩]
 rw[show((wrL l).length:Int).toNat=(wrL l).length from rfl,Q7,uX8]
 refine zQg rfl (zQg rfl ?_);have hr:=yWb hall0 _ (Qf _);rw[Q7]at hr;obtain⟨c1,c2⟩:=zYe (wW9 hr k1);refine zQt (xKx _ _ (by show(reps (nwS c) l).length≤_;omega) fun L hL=>by have:=(c2 L hL).1;omega) ?_
 refine zQg (by show Z.zQs false true (Z.bnot (decide (bytD (reps (nwS c) l)=bytD (reps (nwS c) l))))=false;rw[decide_eq_true rfl];rfl) ?_
 by_cases h0:0≤at_
 ·refine zQl (by simpa[Z.ige]using h0) ?_
  by_cases h1:at_≤(wrL l).length
  ·rw[if_pos ⟨h0,h1⟩]
   refine zQg (by simp[Z.zQs,Z.beq,Z.bnot,Z.ieq,Z.ile,hrmA,h1]) ?_
   exact vJy hok hall hl _ rfl
  ·rw[if_neg fun h=>h1 h.2]
   refine zQg (by simp[Z.zQs,Z.beq,Z.bnot,Z.ieq,Z.ile,hrmA,h1]) ?_
   refine zQx (fun(s:Int×Int)=>s.2=0) (fun s=>0) (fun s k hs hk=>?_) rfl (by omega)
   refine zQg (decide_eq_false (by rw[hs];simp[Z.ofN,Z.len,hrmA])) rfl
 ·refine zQg (by simpa[Z.ige]using h0) ?_
  rw[if_neg fun h=>h0 h.1]
  refine zQg rfl ?_;refine zQx (fun(s:Int×Int)=>s.2=0) (fun s=>0) (fun s k hs hk=>?_) rfl (by omega)
  refine zQg (decide_eq_false (by rw[hs];simp[Z.ofN,Z.len,hrmA])) rfl
theorem yQ6(d:Els zXv.args)(hf:Fits zXv.args d):zZe d=some true:=by
 obtain⟨c,⟨d,_⟩,l,at_⟩:=d;exact wX5 c d l at_
end Go.Proofs.Ytghnechjgchajaa
