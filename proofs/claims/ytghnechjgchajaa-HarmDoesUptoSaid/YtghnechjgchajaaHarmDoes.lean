/- HarmDoes answers true. -/
import Derived.Test.YtghnechjgchajaaHarmI
import Derived.Test.YtghnechjgchajaaM6
namespace Go.Proofs.Ytghnechjgchajaa
open Go.Eng
set_option linter.unusedVariables false
set_option linter.unusedSimpArgs false
theorem wXt(c:CfgT)(d:List Lev)(l:List SeeT)(h:xZ9)(hb:∀x∈l,x.2.2.2.1.length≤2000000):zK0 (c,((d,()),(l,h)))=some true:=by
  unfold zK0;dsimp only;refine wY7 (fun j=>j=true∨(j=false∧yZ0 d=false∧l.length≤2000)) (fun j hj=>?_) (fun k hk=>?_)
  · rcases hj with rfl|⟨rfl,gd,hl⟩
    ·exact zQe rfl rfl
    refine zQd rfl ?_;have hB:=uJk gd;obtain⟨g1,g2⟩:=vQe gd;have i1:d.length≤1000000000:=by omega
    have i2:∀L∈d,L.length≤100000000:=fun L hL=>by have:=(g2 L hL).1;omega
    have i3:∀L∈d,L.length≤1000000000:=fun L hL=>by have:=(g2 L hL).1;omega
    refine zQm (twinG d hB) ?_;refine zQm (wZu l (by omega) hb) ?_
    obtain⟨x7,hx7⟩:∃x7,zKc (c,((d,()),(l,h)))=some x7:=by
      rcases doR c d l h i1 i2 (by omega)with⟨b,d',_,_,_,_,_,e⟩|⟨e,_,e2⟩
      ·exact⟨_,e⟩
      ·exact⟨_,e2⟩
    have hV:=versR l h.2.1 h.2.2.1 (by omega) hb
    have hV2:=yQy l h.2.1 h.2.2.1 (by omega) hb
    have hvb:(vers l h.2.1 h.2.2.1).length≤1000000:=by
      have:=yZ4 l h.2.1 h.2.2.1 l.length;rw[Q2]at this;omega
    have hvl:∀b∈vers l h.2.1 h.2.2.1,b.length≤2000000:=fun b hbm=>by
      obtain⟨x,hx,rfl⟩:=Ja.1 hbm;exact hb x (Kf.1 hx).1
    have last:∀j22:Bool,j22=true→Z.join (σ:=Bool) (fun k148=>
 (bif j22 then Z.bind (zJs ((d,()),(d,()))) fun(x149:Bool)=>
 (bif (Z.zQi true x149 false)then Z.bind (zZo (l,l)) fun(x150:Bool)=>
 k148 (Z.zQi true x150 false)
 else k148 false)
 else k148 false)) (fun(j151:Bool)=>
 some j151)=some true:=fun j22 hj=>by
      subst hj;refine wY7 (fun j=>j=true) (fun j hj=>by rw[hj]) (fun k hk=>?_)
      refine zQe rfl ?_;refine zQm (yQ2 d d i1 i3) ?_;rw[decide_eq_true rfl];refine zQe rfl ?_;exact zQm (xYo l (by omega)) (hk _ rfl)
    rcases doR c d l h i1 i2 (by omega)with⟨b,d',hh,hok,hall,hd,hBb,e⟩|⟨er,e1,e2⟩
    · refine zQm e ?_
      have e3:hrmD c d l h=((d',()),0):=by unfold hrmD;rw[if_pos hok,if_pos hall,hh];rfl
      refine zQm ((vJd c d l h i1 i3 (by omega)).trans (by rw[e3])) ?_
      refine zQm hV ?_;have hokb:zZs c d':=(uJh (wQo hok hall hh) hok hall).1;obtain⟨c1,c2⟩:=zK1 hokb;unfold ansR;dsimp only;generalize vers l h.2.1 h.2.2.1=V at *
      refine wY7 (fun j=>j=true) (fun j hj=>?_) (fun k hk=>?_)
      ·exact vQ6 hBb d' hd (xK4 V hvb hvl (last j hj))
      · obtain⟨v1,v2⟩:=uWe hd
        refine zQa v1 (zQm v2 ?_);refine zQm (yQ2 _ _ (by omega) (fun L hL=>by have:=(c2 L hL).1;omega)) ?_
        rw[decide_eq_true rfl];refine zQe rfl (zQe rfl ?_);refine zQm hV2 ?_;obtain⟨w1,w2⟩:=wJ0 V;refine zQa w1 (zQm w2 ?_);refine zQm (zJc _ _ (by omega)) ?_
        rw[decide_eq_true rfl];exact hk _ rfl
    · refine zQm e2 ?_
      refine zQm ((vJd c d l h i1 i3 (by omega)).trans (by rw[e1])) ?_
      refine zQm hV ?_;unfold badR;dsimp only;generalize vers l h.2.1 h.2.2.1=V at *;refine wY7 (fun j=>j=true) (fun j hj=>?_) (fun k hk=>?_)
      · refine zQn (fun(s:Int×List Byt)=>s.1=0) (fun s=>0) ?_ rfl (by omega)
        rintro s k hs hk;refine zQd (by rw[hs];rfl) ?_
        exact xK4 V hvb hvl (last j hj)
      · refine zQa (by simp[Z.XOk,MixE.xok]) (zQm (y:=[]) rfl ?_)
        refine zQm (yQ2 [] [] (by simp) (by simp)) ?_
        rw[decide_eq_true rfl];refine zQe rfl (zQe (by simp[Z.zQi,Z.ieq]) ?_)
        refine zQm hV2 ?_;obtain⟨w1,w2⟩:=wJ0 V;refine zQa w1 (zQm w2 ?_);refine zQm (zJc _ _ (by omega)) ?_
        rw[decide_eq_true rfl];exact hk _ rfl
  · refine zQm (xKd d) ?_
    cases gd:yZ0 d with
    |true=>exact zQe rfl (hk _ (.inl rfl))
    | false=>
      refine zQd rfl ?_;obtain⟨g,hg,hg2⟩:=vY2 l;refine zQm hg ?_;cases g with
      |true=>exact hk _ (.inl rfl)
      |false=>exact hk _ (.inr ⟨rfl,gd,hg2 rfl⟩)
theorem vY0{l:List Nat}{n:Nat}(h:n∈l):n≤l.sum:=by
 induction l with
 |nil=>cases h
 |cons x l ih=>
  rcases Jh.1 h with rfl|h
  ·simp
  ·have:=ih h;simp only[List.sum_cons];omega
theorem sizB(d:List Int):siz (.list (.int .u8)) d=d.length+1:=by
 have key:∀d:List Int,(List.map (siz (.int .u8)) d).sum=d.length:=by
  intro d;induction d with
  |nil=>rfl
  |cons x d ih=>
   rw[Qj,List.sum_cons,ih,Jk];show 1+d.length=d.length+1;omega
 show(List.map (siz (.int .u8)) d).sum+1=d.length+1;rw[key]
abbrev cSee:C:=.pair (.int .u8) (.pair (.int .i64) (.pair (.int .i64) (.pair (.list (.int .u8)) .unit)))
theorem sizSee(x:SeeT):x.2.2.2.1.length+3≤siz cSee x:=by
 have:=sizB x.2.2.2.1;simp only[siz]at this⊢;omega
theorem uZ9{l:List SeeT}{n:Nat}(h:siz (.list cSee) l≤n):∀x∈l,x.2.2.2.1.length≤n:=by
 have h3:siz (.list cSee) l=(l.map (siz cSee)).sum+1:=by simp only[siz]
 intro x hx;have h1:=sizSee x;have h2:=vY0 (List.mem_map_of_mem (f:=siz cSee) hx);omega
theorem yKh(d:Els zXi.args)(hf:Fits zXi.args d)(hz:sizs zXi.args d≤1048576):zK0 d=some true:=by
 obtain⟨c,⟨d,_⟩,l,h⟩:=d;have h1:siz (.list cSee) l≤1048576:=by
  simp only[sizs,zXi]at hz;unfold cSee;omega
 exact wXt c d l h fun x hx=>by have:=uZ9 h1 x hx;omega
end Go.Proofs.Ytghnechjgchajaa
