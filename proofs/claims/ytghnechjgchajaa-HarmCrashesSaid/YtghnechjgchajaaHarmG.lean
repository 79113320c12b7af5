/- Harms: crashes; how many versions there are. -/
import Derived.Test.YtghnechjgchajaaHarmF
namespace Go.Proofs.Ytghnechjgchajaa
open Go.Eng
set_option linter.unusedVariables false
set_option linter.unusedSimpArgs false
theorem xQz(l:List SeeT)(hl:l.length≤1000000000):zJ7 l=some ((wrL l).length:Int):=by
 unfold zJ7;refine zQx (fun(s:Int×Int)=>∃i:Nat,i≤l.length∧s=(((wrL (l.take i)).length:Int),(i:Int))) (fun s=>l.length-s.2.toNat) ?_ ⟨0,Jd _,rfl⟩ (zZ3 _ _ (by omega))
 rintro s k ⟨i,hi,rfl⟩ hk;dsimp only;by_cases h:i<l.length
 ·have dec:l.length-((i+1:Nat):Int).toNat<l.length-((i:Int)).toNat:=by omega
  have hs:=wZk l h;have hle:=wYw l i;refine zQl (decide_eq_true (by simp only[Z.ofN,Z.len];omega)) ?_
  refine zQa (ixND h) (zQc (zXf l h _) ?_);by_cases h2:l[i].1=2
  ·rw[if_pos h2]at hs
   refine zQl (decide_eq_true h2) (zQc (zWx (by omega)) (zQc (zWx (by omega)) ?_))
   exact hk _ ⟨i+1,h,by rw[hs,Q5,List.length_singleton]⟩ dec
  ·rw[if_neg h2]at hs
   refine zQg (decide_eq_false h2) (zQc (zWx (by omega)) ?_)
   exact hk _ ⟨i+1,h,by rw[hs]⟩ dec
 ·refine zQg (decide_eq_false (by simp only[Z.ofN,Z.len];omega)) ?_
  rw[Qg (by omega)]
def vsum(l:List SeeT)(i:Int):Nat→Nat
 |0=>0
 |k+1=>vsum l i k+(vers l i ((k+1:Nat):Int)).length
def vtot(l:List SeeT)(D:Nat→Nat):Nat→Nat
 |0=>0
 |i+1=>vtot l D i+vsum l (i:Int) (D i)
theorem wY7(x:SeeT)(l:List SeeT)(i k:Int):(vers (x::l) i k).length=(vers l i k).length+if x.1=2∧x.2.1=i∧x.2.2.1=k then 1 else 0:=by
 unfold vers;by_cases h:wXg i k x=true
 ·rw[List.filter_cons_of_pos h,if_pos (zK3.1 h)];simp
 ·rw[List.filter_cons_of_neg h,if_neg fun hh=>h (zK3.2 hh)];simp
theorem xQj(x:SeeT)(l:List SeeT)(i:Int):∀k:Nat,vsum (x::l) i k=vsum l i k+if x.1=2∧x.2.1=i∧1≤x.2.2.1∧x.2.2.1≤k then 1 else 0
 |0=>by
  rw[if_neg fun h=>by have:=h.2.2;omega];rfl
 | k+1=>by
  show vsum (x::l) i k+_=vsum l i k+_+_;rw[xQj x l i k,wY7];by_cases h1:x.1=2∧x.2.1=i
  ·by_cases h2:x.2.2.1=((k+1:Nat):Int)
   ·rw[if_neg fun h=>by have:=h.2.2;omega,if_pos ⟨h1.1,h1.2,h2⟩,if_pos ⟨h1.1,h1.2,by omega,by omega⟩];omega
   ·rw[if_neg (c:=x.1=2∧x.2.1=i∧x.2.2.1=((k+1:Nat):Int)) fun h=>h2 h.2.2]
    by_cases h3:1≤x.2.2.1∧x.2.2.1≤(k:Int)
    ·rw[if_pos ⟨h1.1,h1.2,h3⟩,if_pos ⟨h1.1,h1.2,by omega,by omega⟩];omega
    ·rw[if_neg fun h=>h3 h.2.2,if_neg fun h=>h3 ⟨h.2.2.1,by have:=h.2.2.2;omega⟩];omega
  ·rw[if_neg fun h=>h1 ⟨h.1,h.2.1⟩,if_neg fun h=>h1 ⟨h.1,h.2.1⟩,if_neg fun h=>h1 ⟨h.1,h.2.1⟩];omega
theorem xQi(x:SeeT)(l:List SeeT)(D:Nat→Nat):∀i:Nat,vtot (x::l) D i=vtot l D i+if x.1=2∧(0≤x.2.1∧x.2.1<i)∧1≤x.2.2.1∧x.2.2.1≤D x.2.1.toNat then 1 else 0
 |0=>by
  rw[if_neg fun h=>by have:=h.2.1;omega];rfl
 | i+1=>by
  show vtot (x::l) D i+vsum (x::l) (i:Int) (D i)=vtot l D i+vsum l (i:Int) (D i)+_;rw[xQi x l D i,xQj];by_cases h1:x.1=2
  ·by_cases h2:x.2.1=(i:Int)
   ·have e:x.2.1.toNat=i:=by omega
    rw[e];by_cases h3:1≤x.2.2.1∧x.2.2.1≤(D i:Int)
    ·rw[if_neg fun h=>by have:=h.2.1;omega,if_pos ⟨h1,h2,h3⟩,if_pos ⟨h1,⟨by omega,by omega⟩,h3⟩];omega
    ·rw[if_neg fun h=>h3 h.2.2,if_neg fun h=>h3 h.2.2,if_neg fun h=>h3 h.2.2];omega
   ·rw[if_neg (c:=x.1=2∧x.2.1=(i:Int)∧1≤x.2.2.1∧x.2.2.1≤(D i:Int)) fun h=>h2 h.2.1]
    by_cases h3:(0≤x.2.1∧x.2.1<(i:Int))∧1≤x.2.2.1∧x.2.2.1≤(D x.2.1.toNat:Int)
    ·rw[if_pos ⟨h1,h3⟩,if_pos ⟨h1,⟨h3.1.1,by omega⟩,h3.2⟩];omega
    ·rw[if_neg fun h=>h3 h.2,if_neg fun h=>h3 ⟨⟨h.2.1.1,by have:=h.2.1.2;omega⟩,h.2.2⟩];omega
  ·rw[if_neg fun h=>h1 h.1,if_neg fun h=>h1 h.1,if_neg fun h=>h1 h.1];omega
theorem wY3(l:List SeeT)(i:Int)(k:Nat):vsum l i k≤l.length:=by
 induction l with
 | nil=>
  have:∀k,vsum [] i k=0:=fun k=>by
   induction k with
   |zero=>rfl
   |succ k ih=>show vsum [] i k+0=0;rw[ih]
  rw[this];exact Jd _
 |cons x l ih=>
  rw[xQj,Jp];split<;>omega
theorem xKk(D:Nat→Nat):∀i,vtot [] D i=0
 |0=>rfl
 |i+1=>by
  show vtot [] D i+vsum [] (i:Int) (D i)=0;have:=wY3 [] (i:Int) (D i);rw[xKk D i];simpa using this
theorem uQf(l:List SeeT)(D:Nat→Nat)(i:Nat):vtot l D i≤l.length:=by
 induction l with
 |nil=>rw[xKk];exact Jd _
 |cons x l ih=>
  rw[xQi,Jp];split<;>omega
theorem vKh{d:List Lev}(D:Nat→Nat)(hD:∀(i:Nat) (h:i<d.length),D i=d[i].length)(l:List SeeT)(hall:∀x∈l,zXc d x):vtot l D d.length=(wrL l).length:=by
 induction l with
 |nil=>rw[xKk];rfl
 | cons x l ih=>
  rw[xQi,ih fun y hy=>hall y (Qz _ hy)]
  obtain⟨i,hi,k,hk,e1,e2,e3⟩:=wZ3 (hall x (Ji ..));have hDi:=hD i hi;unfold wrL;by_cases h2:x.1=2
  ·rw[List.filter_cons_of_pos (by simpa using h2),Jp,if_pos]
   refine⟨h2,⟨by omega,by omega⟩,by omega, ?_⟩
   rw[e1,e2,show((i:Int)).toNat=i from rfl,hDi];omega
  ·rw[List.filter_cons_of_neg (by simpa using h2),if_neg fun h=>h2 h.1];omega
theorem uX8(d:List Lev)(l:List SeeT):reps d (wrL l)=reps d l:=by
 unfold reps wrL;induction l generalizing d with
 |nil=>rfl
 |cons x l ih=>
  by_cases h:x.1=2
  ·rw[List.filter_cons_of_pos (by simpa using h),List.foldl_cons,List.foldl_cons,ih]
  ·rw[List.filter_cons_of_neg (by simpa using h),List.foldl_cons,if_neg h,ih]
theorem wZ4{d:List Lev}{l:List SeeT}(hall:∀x∈l,zXc d x){i k:Nat}(hi:i<d.length)(hk:k<d[i].length):∀q:Nat,q≤l.length→bkt (reps d (l.take q)) (i:Int) ((k+1:Nat):Int)=bkt d (i:Int) ((k+1:Nat):Int)∨bkt (reps d (l.take q)) (i:Int) ((k+1:Nat):Int)∈vers l (i:Int) ((k+1:Nat):Int)
 |0,_=>.inl rfl
 | q+1,hq=>by
  have ih:=wZ4 hall hi hk q (by omega)
  have hlt:q<l.length:=hq;rw[xY1 d hlt];split
  ·rename_i h2
   obtain⟨j,hj,x,hx,e1,e2,e3⟩:=wZ3 (hall _ (Qo hlt));have hd:=yWb hall q (by omega)
   have hj':j<(reps d (l.take q)).length:=by have:=zKg hd;omega
   have hx':x<(reps d (l.take q))[j].length:=by have:=zYm (zZg hd hj hj');omega
   rw[e1,e2,vZq hj' hx' _ (by omega) (by omega)]
   split
   ·rename_i h3
    right;refine Q8.2 ⟨l[q],J7.2 ⟨Qo hlt,zK3.2 ⟨h2,by rw[e1];exact h3.1.symm,by rw[e2];exact h3.2.symm⟩⟩,rfl⟩
   ·exact ih
  ·exact ih
theorem vKi{l:List SeeT}{i k:Int}{v:Byt}{n:Nat}(h:v∈vers ((wrL l).take n) i k):v∈vers l i k:=by
 obtain⟨x,hx,rfl⟩:=Q8.1 h;obtain⟨h1,h2⟩:=J7.1 hx;exact Q8.2 ⟨x,J7.2 ⟨xKi (J1 h1),h2⟩,rfl⟩
theorem nw_bkt(c:CfgT){i k:Nat}(hi:i<(nwS c).length)(hk:k<(nwS c)[i].length):(nwS c)[i][k]=List.replicate (nwS c)[i][k].length 0:=by
 have:∀L∈nwS c,∀b∈L,b=List.replicate b.length 0:=by
  intro L hL b hb;unfold nwS at hL;obtain⟨s,_,rfl⟩:=Q8.1 hL;rw[(List.mem_replicate.1 hb).2,List.length_replicate]
 exact this _ (Qo hi) _ (Qo hk)
theorem vX0{c:CfgT}{d:List Lev}{l:List SeeT}(hok:zZl c d)(hall:∀x∈l,zXc d x)(n:Nat){y:List Lev}(hy:y=reps (nwS c) ((wrL l).take n)):
  dims d=dims y∧∀(i k:Nat) (hi:i<y.length) (hk:k<y[i].length),y[i][k]=List.replicate y[i][k].length 0∨y[i][k]∈vers l (i:Int) ((k+1:Nat):Int):=by
 obtain⟨k1,k2⟩:=xQa hok hall;have hd0:=xK6 hok k1;have hall2:∀x∈(wrL l).take n,zXc (nwS c) x:=fun x hx=>k2 x (xKi (J1 hx))
 have hr:=yWb hall2 _ (Qf _);rw[Q7,←hy]at hr;refine⟨hd0.trans hr,fun i k hi hk=>?_⟩
 have hi0:i<(nwS c).length:=by have:=zKg hr;omega
 have hL:=zZg hr hi0 hi;have hk0:k<(nwS c)[i].length:=by have:=zYm hL;omega
 have hb:=wZ4 hall2 hi0 hk0 _ (Qf _);rw[Q7,←hy,zY6 hi hk,zY6 hi0 hk0]at hb;rcases hb with h|h
 ·left
  rw[h];exact nw_bkt c hi0 hk0
 ·exact .inr (vKi h)
end Go.Proofs.Ytghnechjgchajaa
