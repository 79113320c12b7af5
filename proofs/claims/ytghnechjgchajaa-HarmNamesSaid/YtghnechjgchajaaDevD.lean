/- Devices: written, and replayed. -/
import Derived.Test.YtghnechjgchajaaDevC
namespace Go.Proofs.Ytghnechjgchajaa
open Go.Eng
set_option linter.unusedVariables false
set_option linter.unusedSimpArgs false
def wrB(d:List Lev)(level x:Int)(b:Byt):List Lev:=d.set level.toNat ((d.getD level.toNat []).set (x-1).toNat b)
def wrs(d:List Lev)(level:Int)(at_:List Int)(all:List Byt):List Lev:=(List.zip at_ all).foldl (fun d p=>wrB d level p.1 p.2) d
theorem xZq(d:List Lev)(level:Int){at_:List Int}{all:List Byt}{q:Nat}(h1:q<at_.length)(h2:q<all.length):wrs d level (at_.take (q+1)) (all.take (q+1))=wrB (wrs d level (at_.take q) (all.take q)) level at_[q] all[q]:=by
 unfold wrs;rw[Q6 h1,Q6 h2,List.zip_append (by simp;omega),List.foldl_append]
 rfl
theorem wXm{d:List Lev}{i k:Nat}(hi:i<d.length)(b:Byt):wrB d (i:Int) ((k+1:Nat):Int) b=d.set i (d[i].set k b):=by
 unfold wrB;have e1:(((k+1:Nat):Int)-1).toNat=k:=by omega
 have e2:d.getD (i:Int).toNat []=d[i]:=by simp[List.getD,hi]
 rw[e1,e2];rfl
def wrOk(d:List Lev)(level:Int)(at_:List Int)(all:List Byt):Prop:=plD d level at_∧all.length=at_.length∧∀(q:Nat) (h:q<at_.length) (h':q<all.length),all[q].length=(bkt d level at_[q]).length
open Classical in
noncomputable def wrD(c:CfgT)(d:List Lev)(level:Int)(at_:List Int)(all:List Byt):(List Lev×Unit)×(List SeeT×Int):=
 if zK0 c d then(if wrOk d level at_ all then((wrs d level at_ all,()),(xJ4 2 level at_ all,0))else(([],()),([],2)))else(([],()),([],8))
theorem yYe{d d':List Lev}(hd:dims d=dims d'){i k:Nat}(hi:i<d.length)(hk:k<d[i].length)(b:Byt)(hb:b.length=d[i][k].length)(hpos:0<b.length):
  Z.XW (qD d') (bkD i d[i] k)∧Z.xput (qD d') (bkD i d[i] k) (Z.take (Z.minN (Z.len b) (Z.xlen (bkD i d[i] k))) b)=qD (wrB d' (i:Int) ((k+1:Nat):Int) b)∧dims d=dims (wrB d' (i:Int) ((k+1:Nat):Int) b):=by
 have hn:=zJg hd;have hi':i<d'.length:=by omega
 have hL:=zKc hd hi hi';have hk':k<d'[i].length:=by have:=yWn hL;omega
 have he:=yKd hL hk hk';obtain⟨w1,w2,w3⟩:=vK8 hd hi hi' hk hk' b hb hpos;refine⟨w1, ?_, ?_⟩
 ·rw[w2,wXm hi',←w3]
  show Z.xput _ _ (List.take (min b.length b.length) b)=_;rw[Nat.min_self,Ja]
 ·rw[wXm hi']
  exact yYr hd hi' hk' b (by omega)
theorem xXb(c:CfgT)(d:List Lev)(level:Int)(at_:List Int)(all:List Byt)(hl:d.length≤1000000000)(hL:∀L∈d,L.length≤1000000000)(ha:at_.length≤1000000)(hb:all.length≤1000000):yKf (c,((d,()),(level,(at_,all))))=some (wrD c d level at_ all):=by
 unfold yKf;dsimp only;refine zQs (yXt c d hl hL) ?_;unfold wrD;rcases vW9 c d with⟨h0,hok⟩|⟨h8,hno⟩
 ·rw [h0,if_pos hok]
  refine zQo rfl ?_;refine zQs (yWp d level at_ hl (by omega)) ?_
  by_cases hp:plD d level at_
  ·rw [uW1 hp]
   refine zQo rfl ?_;by_cases hlen:all.length=at_.length
   ·refine zQo (by simp[Z.zQh,Z.ine,Z.ofN,Z.len,hlen]) ?_
    obtain⟨i,hi,rfl,hat⟩:=yW6 hp;obtain⟨b1,b2⟩:=yKg hok;have b3:=b2 _ (Qt hi);refine zWd (fun(s:Int)=>∃q:Nat,s=(q:Int)∧q≤at_.length∧∀(j:Nat) (h:j<at_.length) (h':j<all.length),j<q→all[j].length=(bkt d (i:Int) at_[j]).length) (fun s=>at_.length-s.toNat) ?_ ⟨0,rfl,Jm _,fun _ _ _ h=>absurd h (Nat.not_lt_zero _)⟩ (zJy _ _ (by omega))
    rintro s k ⟨q,rfl,hq,hqq⟩ hk;by_cases hlt:q<at_.length
    ·have hlt':q<all.length:=by omega
     obtain⟨x,hx,hxe⟩:=hat q hlt;have hbk:bkt d (i:Int) at_[q]=d[i][x]:=by rw[hxe,yWw hi hx]
     refine zQt (decide_eq_true (by simp only[Z.ofN,Z.len];omega)) ?_
     refine zQa (ixND hlt) (zQd ((zKb at_ hlt _).trans hxe) ?_);refine zQa (ixND hlt') (zQd (zKb all hlt' _) ?_);refine zQa (ixND hi) (zQd (zKb d hi _) ?_);refine zQd (sub1 (by omega)) ?_
     refine zQa (ixND hx) (zQd (zKb d[i] hx _) ?_);by_cases he:all[q].length=d[i][x].length
     ·refine zQo (by simp[Z.ine,Z.ofN,Z.len,he]) ?_
      refine zQd (zX6 (by omega)) ?_
      refine hk _ ⟨q+1,rfl,hlt,fun j hj hj' hji=>?_⟩ (by show at_.length-((q+1:Nat):Int).toNat<at_.length-((q:Int)).toNat;omega)
      by_cases e:j=q
      ·subst e;rw[hbk];exact he
      ·exact hqq j hj hj' (by omega)
     ·refine zQt (by simp only[Z.ine,Z.ofN,Z.len,bne_iff_ne,ne_eq];omega) ?_
      rw[if_neg fun h=>he (by rw[←hbk];exact h.2.2 q hlt hlt')]
    ·refine zQo (decide_eq_false (by simp only[Z.ofN,Z.len];omega)) ?_
     have hw:wrOk d (i:Int) at_ all:=⟨hp,hlen,fun j h h'=>hqq j h h' (by omega)⟩
     rw[if_pos hw];clear hk hqq;refine zQs (zJt d (wW4 hok)) ?_;refine zQa rfl ?_;refine zWd (fun(s:Int×(List SeeT×List Byt))=>∃q:Nat,q≤at_.length∧s=((q:Int),(xJ4 2 (i:Int) (at_.take q) (all.take q),qD (wrs d (i:Int) (at_.take q) (all.take q))))∧dims d=dims (wrs d (i:Int) (at_.take q) (all.take q))) (fun s=>at_.length-s.1.toNat) ?_ ⟨0,Jm _,rfl,rfl⟩ (zJy _ _ (by omega))
     rintro s k ⟨q,hq,rfl,hd⟩ hk;dsimp only;by_cases hlt:q<at_.length
     ·have hlt':q<all.length:=by omega
      obtain⟨x,hx,hxe⟩:=hat q hlt;have hbk:bkt d (i:Int) at_[q]=d[i][x]:=by rw[hxe,yWw hi hx]
      have hlq:=hw.2.2 q hlt hlt';rw[hbk]at hlq;have hbl:=b3.2 _ (Qt hx);refine zQt (decide_eq_true (by simp only[Z.ofN,Z.len];omega)) ?_
      refine zQa (ixND hlt) (zQd ((zKb at_ hlt _).trans hxe) ?_);refine zQa (ixND hlt') (zQd (zKb all hlt' _) ?_);obtain⟨p1,p2,p3⟩:=vQ6 hi;refine zQa p1 (zQa p2 (zQa p2 (zQd p3 ?_)))
      refine zQd (sub1 (by omega)) ?_
      obtain⟨q1,q2,q3⟩:=xJl hi hx;refine zQa q1 (zQa q2 (zQa q2 (zQd q3 ?_)));obtain⟨w1,w2,w3⟩:=yYe hd hi hx all[q] (by omega) (by omega)
      refine zQa w1 (zQd w2 ?_);refine zQs (yJm _ (by omega)) ?_
      refine zQa (Qf _) ?_;have t2:(xJ4 2 (i:Int) (at_.take q) (all.take q)).length=q:=by simp[xJ4];omega
      refine zKa (bigD (by simp only[Z.len];omega) (by show 1≤2000000;omega) (by omega)) ?_
      refine zQa rfl ?_;have hs:=xZq d (i:Int) hlt hlt';rw[hxe]at hs;refine zQd (y:=xJ4 2 (i:Int) (at_.take (q+1)) (all.take (q+1))) ?_ ?_
      ·show _++[(2,((i:Int),(((x+1:Nat):Int),(all[q],()))))]=_
       rw[wY0 hlt hlt',hxe]
      refine zQd (zX6 (by omega)) ?_
      refine zQa rfl ?_;rw[←hs];exact hk _ ⟨q+1,hlt,rfl,by rw[hs];exact w3⟩ (by show at_.length-((q+1:Nat):Int).toNat<at_.length-((q:Int)).toNat;omega)
     ·refine zQo (decide_eq_false (by simp only[Z.ofN,Z.len];omega)) ?_
      rw[Qm (by omega),Qm (by omega)]at hd⊢
      obtain⟨v1,v2⟩:=wZ4 hd;exact zQa v1 (zQs v2 rfl)
   ·refine zQt (by simp only[Z.zQh,Z.ine,Z.ofN,Z.len];simp;omega) ?_
    rw[if_neg fun h=>hlen h.2.1]
  ·rw[vQe hp,if_neg fun h=>hp h.1]
   exact zQt rfl rfl
 ·rw[h8,if_neg hno]
  exact zQt rfl rfl
def zZj(d:List Lev)(x:SeeT):Prop:=(x.1=1∨x.1=2)∧plD d x.2.1 [x.2.2.1]∧x.2.2.2.1.length=(bkt d x.2.1 x.2.2.1).length
open Classical in
noncomputable def yK4(d:List Lev)(x:SeeT):Bool:=decide (zZj d x)
open Classical in
theorem wZn{d:List Lev}{x:SeeT}(h:zZj d x):yK4 d x=true:=by unfold yK4;exact decide_eq_true h
open Classical in
theorem yYm{d:List Lev}{x:SeeT}(h:¬zZj d x):yK4 d x=false:=by unfold yK4;exact decide_eq_false h
theorem xJc(d:List Lev)(x:SeeT)(hl:d.length≤1000000000)(hL:∀L∈d,L.length≤100000000):yYs ((d,()),x)=some (yK4 d x):=by
  unfold yYs;have rest:(x.1=1∨x.1=2)→(if(Z.Le (Z.addN 0 1) (Z.len (x.2.2.1::([]:List (Int)))))then Z.bind (zKo ((d,()),(x.2.1,(Z.seg (x.2.2.1::([]:List (Int))) 0 1)))) fun(x3:Bool)=>
 (bif (Z.zQh false true (Z.bnot x3))then some false
 else if(Z.Ix x.2.1 (Z.len d))then Z.bnd (Z.get d (Z.toN x.2.1) ([]:List (List (Int)))) fun(x6:List (List (Int)))=>
 Z.bnd (Z.wrap .i64 (Z.sub x.2.2.1 1)) fun(x7:Int)=>
 if(Z.Ix x7 (Z.len x6))then Z.bnd (Z.get x6 (Z.toN x7) ([]:List (Int))) fun(x10:List (Int))=>
 some (Z.ieq (Z.ofN (Z.len x.2.2.2.1)) (Z.ofN (Z.len x10)))
 else none
 else none)
 else none)=some (yK4 d x):=fun hk=>by
    refine zQa (Qf _) ?_;refine zQs (yWp d x.2.1 [x.2.2.1] hl (by simp)) ?_
    by_cases hp:plD d x.2.1 [x.2.2.1]
    · rw[uW1 hp]
      refine zQo rfl ?_;obtain⟨i,hi,hie,hat⟩:=yW6 hp;obtain⟨k,hk2,hke⟩:=hat 0 (by simp)
      replace hke:x.2.2.1=((k+1:Nat):Int):=hke;have hLi:=hL _ (Qt hi);have hbk:bkt d x.2.1 x.2.2.1=d[i][k]:=by rw[hie,hke,yWw hi hk2]
      rw[hie,hke];refine zQa (ixND hi) (zQd (zKb d hi _) ?_);refine zQd (sub1 (by omega)) ?_
      refine zQa (ixND hk2) (zQd (zKb d[i] hk2 _) ?_);by_cases he:x.2.2.2.1.length=d[i][k].length
      · rw[wZn ⟨hk,hp,by rw[hbk];exact he⟩]
        simp[Z.ieq,Z.ofN,Z.len,he]
      · rw[yYm fun h=>he (by rw[←hbk];exact h.2.2)]
        simp only[Z.ieq,Z.ofN,Z.len];simp;omega
    · rw[vQe hp,yYm fun h=>hp h.2.1]
      exact zQt rfl rfl
  by_cases h1:x.1=1
  · refine zQo (by simp[Z.ine,h1]) ?_
    exact rest (.inl h1)
  · refine zQt (by simp[Z.ine,h1]) ?_
    by_cases h2:x.1=2
    · refine zQo (by simp[Z.zQh,Z.ine,h2]) ?_
      exact rest (.inr h2)
    · refine zQt (by simp[Z.zQh,Z.ine,h2]) ?_
      rw[yYm fun h=>by rcases h.1 with h|h<;>contradiction]
def reps(d:List Lev)(l:List SeeT):List Lev:=l.foldl (fun d x=>if x.1=2 then wrB d x.2.1 x.2.2.1 x.2.2.2.1 else d) d
open Classical in
noncomputable def repD(c:CfgT)(d:List Lev)(l:List SeeT):(List Lev×Unit)×Int:=
 if zK0 c d then(if∀x∈l,zZj d x then((reps d l,()),0)else(([],()),2))else(([],()),8)
theorem yWq(c:CfgT)(d:List Lev)(l:List SeeT)(hl:d.length≤1000000000)(hL:∀L∈d,L.length≤100000000)(ha:l.length≤1000000):zZe (c,((d,()),l))=some (repD c d l):=by
 unfold zZe;dsimp only;refine zQs (yXt c d hl fun L h=>by have:=hL L h;omega) ?_
 unfold repD;rcases vW9 c d with⟨h0,hok⟩|⟨h8,hno⟩
 ·rw [h0,if_pos hok]
  refine zQo rfl ?_;refine zWd (fun(s:Int)=>∃q:Nat,s=(q:Int)∧q≤l.length∧∀(j:Nat) (h:j<l.length),j<q→zZj d l[j]) (fun s=>l.length-s.toNat) ?_ ⟨0,rfl,Jm _,fun _ _ h=>absurd h (Nat.not_lt_zero _)⟩ (zJy _ _ (by omega))
  rintro s k ⟨q,rfl,hq,hqq⟩ hk;by_cases hlt:q<l.length
  ·refine zQt (decide_eq_true (by simp only[Z.ofN,Z.len];omega)) ?_
   refine zQa (ixND hlt) (zQd (zKb l hlt _) ?_);refine zQs (xJc d l[q] hl hL) ?_;by_cases hm:zZj d l[q]
   ·rw[wZn hm]
    refine zQo rfl (zQd (zX6 (by omega)) ?_)
    refine hk _ ⟨q+1,rfl,hlt,fun j hj hji=>?_⟩ (by show l.length-((q+1:Nat):Int).toNat<l.length-((q:Int)).toNat;omega)
    by_cases e:j=q
    ·subst e;exact hm
    ·exact hqq j hj (by omega)
   ·rw[yYm hm,if_neg fun h=>hm (h _ (Qt hlt))]
    exact zQt rfl rfl
  ·refine zQo (decide_eq_false (by simp only[Z.ofN,Z.len];omega)) ?_
   have hall:∀x∈l,zZj d x:=fun x hx=>by
    obtain⟨j,hj,rfl⟩:=List.getElem_of_mem hx;exact hqq j hj (by omega)
   rw[if_pos hall];clear hk hqq;obtain⟨b1,b2⟩:=yKg hok;refine zQs (zJt d (wW4 hok)) ?_;refine zWd (fun(s:Int×List Byt)=>∃q:Nat,q≤l.length∧s=((q:Int),qD (reps d (l.take q)))∧dims d=dims (reps d (l.take q))) (fun s=>l.length-s.1.toNat) ?_ ⟨0,Jm _,rfl,rfl⟩ (zJy _ _ (by omega))
   rintro s k ⟨q,hq,rfl,hd⟩ hk;dsimp only;by_cases hlt:q<l.length
   ·refine zQt (decide_eq_true (by simp only[Z.ofN,Z.len];omega)) ?_
    refine zQa (ixND hlt) (zQd (zKb l hlt _) ?_);have hm:=hall _ (Qt hlt);have hs:reps d (l.take (q+1))=if l[q].1=2 then wrB (reps d (l.take q)) l[q].2.1 l[q].2.2.1 l[q].2.2.2.1 else reps d (l.take q):=by
     unfold reps;rw[Q6 hlt,List.foldl_append];rfl
    have next:∀st,st=reps d (l.take (q+1))→dims d=dims st→k (((q+1:Nat):Int),qD st)=some ((reps d l,()),0):=fun st h1 h2=>by
     subst h1;exact hk _ ⟨q+1,hlt,rfl,h2⟩ (by show l.length-((q+1:Nat):Int).toNat<l.length-((q:Int)).toNat;omega)
    by_cases h2:l[q].1=2
    ·refine zQt (by simp[Z.ieq,h2]) ?_
     obtain⟨i,hi,hie,hat⟩:=yW6 hm.2.1;obtain⟨x,hx,hxe⟩:=hat 0 (by simp)
     replace hxe:l[q].2.2.1=((x+1:Nat):Int):=hxe;have b3:=b2 _ (Qt hi);have hbl:=b3.2 _ (Qt hx);have hlq:=hm.2.2;rw[hie,hxe,yWw hi hx]at hlq;rw[if_pos h2,hie,hxe]at hs
     obtain⟨p1,p2,p3⟩:=vQ6 hi;rw[hie,hxe];refine zQa p1 (zQa p2 (zQa p2 (zQd p3 ?_)));refine zQd (sub1 (by omega)) ?_
     obtain⟨q1,q2,q3⟩:=xJl hi hx;refine zQa q1 (zQa q2 (zQa q2 (zQd q3 ?_)));obtain⟨w1,w2,w3⟩:=yYe hd hi hx l[q].2.2.2.1 (by omega) (by omega)
     refine zQa w1 (zQd w2 ?_);refine zQd (zX6 (by omega)) ?_
     exact next _ hs.symm w3
    ·refine zQo (by simp[Z.ieq,h2]) ?_
     rw[if_neg h2]at hs;refine zQd (zX6 (by omega)) ?_
     exact next _ hs.symm hd
   ·refine zQo (decide_eq_false (by simp only[Z.ofN,Z.len];omega)) ?_
    rw[Qm (by omega)]at hd⊢
    obtain⟨v1,v2⟩:=wZ4 hd;exact zQa v1 (zQs v2 rfl)
 ·rw[h8,if_neg hno]
  exact zQt rfl rfl
end Go.Proofs.Ytghnechjgchajaa
