/- HarmTwice answers true. -/
import Derived.Test.YtghnechjgchajaaHarmF
namespace Go.Proofs.Ytghnechjgchajaa
open Go.Eng
set_option linter.unusedVariables false
set_option linter.unusedSimpArgs false
theorem uXz{d d':List Lev}{i k:Nat}(hi:i<d.length)(hi':i<d'.length)(hk:k<d[i].length)(hk':k<d'[i].length)(hb:k<9000000000000000000)(he:d'[i][k]=d[i][k]){K:Int→Option Bool}{r:Bool}(hK:K ((k+1:Nat):Int)=some r):
    (if(Z.Ix (i:Int) (Z.len d'))then Z.bnd (Z.get d' (Z.toN (i:Int)) ([]:List (List (Int)))) fun(x170:List (List (Int)))=>
 if(Z.Ix (k:Int) (Z.len x170))then Z.bnd (Z.get x170 (Z.toN (k:Int)) ([]:List (Int))) fun(x173:List (Int))=>
 if(Z.Ix (i:Int) (Z.len d))then Z.bnd (Z.get d (Z.toN (i:Int)) ([]:List (List (Int)))) fun(x176:List (List (Int)))=>
 if(Z.Ix (k:Int) (Z.len x176))then Z.bnd (Z.get x176 (Z.toN (k:Int)) ([]:List (Int))) fun(x179:List (Int))=>
 Z.bind (zWf (x173,x179)) fun(x180:Bool)=>
 (bif (Z.zQn true (Z.bnot x180) false)then some false
 else Z.bnd (Z.wrap .i64 (Z.add (k:Int) 1)) fun(x181:Int)=>
 K x181)
 else none
 else none
 else none
 else none)=some r:=by
  refine zQa (ixND hi') (zQc (zXk d' hi' _) ?_);refine zQa (ixND hk') (zQc (zXk d'[i] hk' _) ?_);refine zQa (ixND hi) (zQc (zXk d hi _) ?_);refine zQa (ixND hk) (zQc (zXk d[i] hk _) ?_)
  refine zQu (zY9 _ _) ?_;refine zQg (by rw[he,decide_eq_true rfl];rfl) ?_
  exact zQc (zW7 (by omega)) hK
theorem vKi{d d':List Lev}(hd:dims d=dims d'){kind lv A B:Int}(h5:kind≠5)(hb:d.length≤1000000000)(hbL:∀L∈d,L.length≤1000000000)
    (hst:∀(i k:Nat) (hi:i<d.length) (hi':i<d'.length) (hk:k<d[i].length) (hk':k<d'[i].length),¬((i:Int)=lv∧(((k+1:Nat):Int)=A∨(kind=2∧((k+1:Nat):Int)=B)))→d'[i][k]=d[i][k]):
    Z.loop (fun(s126:Int) k127=>
 (bif (Z.ilt s126 (Z.ofN (Z.len d)))then(bif (Z.zQn true (Z.ine kind 5) false)then Z.loop (fun(s128:Int) k129=>
 if(Z.Ix s126 (Z.len d))then Z.bnd (Z.get d (Z.toN s126) ([]:List (List (Int)))) fun(x132:List (List (Int)))=>
 (bif (Z.ilt s128 (Z.ofN (Z.len x132)))then if(Z.Ix s126 (Z.len d'))then Z.bnd (Z.get d' (Z.toN s126) ([]:List (List (Int)))) fun(x135:List (List (Int)))=>
 (bif (Z.zQn true (Z.ilt s128 (Z.ofN (Z.len x135))) false)then(bif (Z.ieq s126 lv)then Z.bnd (Z.wrap .i64 (Z.add s128 1)) fun(x136:Int)=>
 (bif (Z.ieq x136 A)then Z.bnd (Z.wrap .i64 (Z.add s128 1)) fun(x137:Int)=>
 k129 x137
 else(bif (Z.ieq kind 2)then Z.bnd (Z.wrap .i64 (Z.add s128 1)) fun(x138:Int)=>
 (bif (Z.bnot (Z.zQn true (Z.zQn false true (Z.zQn true (Z.ieq x138 B) false)) false))then if(Z.Ix s126 (Z.len d'))then Z.bnd (Z.get d' (Z.toN s126) ([]:List (List (Int)))) fun(x141:List (List (Int)))=>
 if(Z.Ix s128 (Z.len x141))then Z.bnd (Z.get x141 (Z.toN s128) ([]:List (Int))) fun(x144:List (Int))=>
 if(Z.Ix s126 (Z.len d))then Z.bnd (Z.get d (Z.toN s126) ([]:List (List (Int)))) fun(x147:List (List (Int)))=>
 if(Z.Ix s128 (Z.len x147))then Z.bnd (Z.get x147 (Z.toN s128) ([]:List (Int))) fun(x150:List (Int))=>
 Z.bind (zWf (x144,x150)) fun(x151:Bool)=>
 (bif (Z.zQn true (Z.bnot x151) false)then some false
 else Z.bnd (Z.wrap .i64 (Z.add s128 1)) fun(x152:Int)=>
 k129 x152)
 else none
 else none
 else none
 else none
 else Z.bnd (Z.wrap .i64 (Z.add s128 1)) fun(x153:Int)=>
 k129 x153)
 else if(Z.Ix s126 (Z.len d'))then Z.bnd (Z.get d' (Z.toN s126) ([]:List (List (Int)))) fun(x156:List (List (Int)))=>
 if(Z.Ix s128 (Z.len x156))then Z.bnd (Z.get x156 (Z.toN s128) ([]:List (Int))) fun(x159:List (Int))=>
 if(Z.Ix s126 (Z.len d))then Z.bnd (Z.get d (Z.toN s126) ([]:List (List (Int)))) fun(x162:List (List (Int)))=>
 if(Z.Ix s128 (Z.len x162))then Z.bnd (Z.get x162 (Z.toN s128) ([]:List (Int))) fun(x165:List (Int))=>
 Z.bind (zWf (x159,x165)) fun(x166:Bool)=>
 (bif (Z.zQn true (Z.bnot x166) false)then some false
 else Z.bnd (Z.wrap .i64 (Z.add s128 1)) fun(x167:Int)=>
 k129 x167)
 else none
 else none
 else none
 else none))
 else if(Z.Ix s126 (Z.len d'))then Z.bnd (Z.get d' (Z.toN s126) ([]:List (List (Int)))) fun(x170:List (List (Int)))=>
 if(Z.Ix s128 (Z.len x170))then Z.bnd (Z.get x170 (Z.toN s128) ([]:List (Int))) fun(x173:List (Int))=>
 if(Z.Ix s126 (Z.len d))then Z.bnd (Z.get d (Z.toN s126) ([]:List (List (Int)))) fun(x176:List (List (Int)))=>
 if(Z.Ix s128 (Z.len x176))then Z.bnd (Z.get x176 (Z.toN s128) ([]:List (Int))) fun(x179:List (Int))=>
 Z.bind (zWf (x173,x179)) fun(x180:Bool)=>
 (bif (Z.zQn true (Z.bnot x180) false)then some false
 else Z.bnd (Z.wrap .i64 (Z.add s128 1)) fun(x181:Int)=>
 k129 x181)
 else none
 else none
 else none
 else none)
 else Z.bnd (Z.wrap .i64 (Z.add s126 1)) fun(x182:Int)=>
 k127 x182)
 else none
 else Z.bnd (Z.wrap .i64 (Z.add s126 1)) fun(x183:Int)=>
 k127 x183)
 else none) 0
 else some true)
 else some true)) 0=some true:=by
  have hn:=zZe hd;refine zQz (fun(s:Int)=>∃i:Nat,i≤d.length∧s=(i:Int)) (fun s=>d.length-s.toNat) ?_ ⟨0,Jh _,rfl⟩ (zKj _ _ (by omega))
  rintro s k ⟨i,hil,rfl⟩ hk;by_cases hi:i<d.length
  rotate_left
  ·exact zQg (decide_eq_false (by simp only[Z.ofN,Z.len];omega)) rfl
  have hi':i<d'.length:=by omega
  have hL:=zKs (zXx hd hi hi');have hbi:=hbL _ (Qn hi);have next:(Z.bnd (Z.wrap .i64 (Z.add (i:Int) 1)) fun(x183:Int)=>k x183)=some true:=zQc (zW7 (by omega)) (hk _ ⟨i+1,hi,rfl⟩ (by show d.length-((i+1:Nat):Int).toNat<d.length-((i:Int)).toNat;omega))
  refine zQj (decide_eq_true (by simp only[Z.ofN,Z.len];omega)) (zQj (by simp[Z.zQn,Z.ine,h5]) ?_)
  refine zQz (fun(s:Int)=>∃q:Nat,q≤d[i].length∧s=(q:Int)) (fun s=>d[i].length-s.toNat) ?_ ⟨0,Jh _,rfl⟩ (zKj _ _ (by omega))
  rintro s k2 ⟨q,hql,rfl⟩ hk2;refine zQa (ixND hi) (zQc (zXk d hi _) ?_);by_cases hq:q<d[i].length
  rotate_left
  ·exact zQg (decide_eq_false (by simp only[Z.ofN,Z.len];omega)) next
  have hq':q<d'[i].length:=by omega
  have hK:k2 ((q+1:Nat):Int)=some true:=hk2 _ ⟨q+1,hq,rfl⟩ (by show d[i].length-((q+1:Nat):Int).toNat<d[i].length-((q:Int)).toNat;omega)
  have go:(Z.bnd (Z.wrap .i64 (Z.add (q:Int) 1)) fun(x137:Int)=>k2 x137)=some true:=zQc (zW7 (by omega)) hK
  have cmp:=fun hn=>uXz hi hi' hq hq' (by omega) (hst i q hi hi' hq hq' hn) hK
  refine zQj (decide_eq_true (by simp only[Z.ofN,Z.len];omega)) ?_
  refine zQa (ixND hi') (zQc (zXk d' hi' _) ?_);refine zQj (by simp only[Z.zQn,Z.ilt,Z.ofN,Z.len];simpa using hq') ?_
  by_cases e1:(i:Int)=lv
  · refine zQj (decide_eq_true e1) (zQc (zW7 (by omega)) ?_)
    by_cases e2:((q+1:Nat):Int)=A
    ·exact zQj (decide_eq_true e2) go
    refine zQg (decide_eq_false e2) ?_;by_cases e3:kind=2
    · refine zQj (decide_eq_true e3) (zQc (zW7 (by omega)) ?_)
      by_cases e4:((q+1:Nat):Int)=B
      ·exact zQg (by rw[show Z.ieq ((q+1:Nat):Int) B=true from decide_eq_true e4];rfl) go
      ·exact zQj (by rw[show Z.ieq ((q+1:Nat):Int) B=false from decide_eq_false e4];rfl) (cmp fun hh=>hh.2.elim e2 fun h=>e4 h.2)
    ·exact zQg (decide_eq_false e3) (cmp fun hh=>hh.2.elim e2 fun h=>e3 h.1)
  ·exact zQg (decide_eq_false e1) (cmp fun hh=>e1 hh.1)
theorem vJh{d:List Lev}(h:yKd d=false):d.length≤1000000∧∀L∈d,L.length≤1000000:=by
 obtain⟨h1,h2⟩:=vJg h;exact⟨by omega,fun L hL=>by have:=h2 L hL;omega⟩
theorem wY5(c:CfgT)(d:List Lev)(l:List SeeT)(h:xXc)(hB:∀L∈d,∀b∈L,∀v∈b,0≤v∧v<256):zKc (c,((d,()),(l,h)))=some true:=by
 obtain⟨kind,lv,A,B,At,mask,u⟩:=h;unfold zKc;dsimp only;refine zQu uKy (zQu (xXh d) ?_);cases gd:yKd d with
 |true=>exact zQj rfl rfl
 |false=>
 obtain⟨i1,i2⟩:=vJh gd;obtain⟨g,eg,hg⟩:=vKk l;refine zQg rfl (zQu eg ?_);cases g with
 |true=>exact zQj rfl rfl
 |false=>
 have hl:=hg rfl;refine zQg rfl (zQg rfl ?_);refine zQu (yJl c d l (kind,(lv,(A,(B,(At,(mask,())))))) (by omega) (fun L hL=>by have:=i2 L hL;omega) (by omega)) ?_
 unfold hrmD;by_cases hok:zZu c d
 rotate_left
 ·rw[if_neg hok];exact zQj rfl (zQj rfl rfl)
 rw[if_pos hok];by_cases hall:∀x∈l,zXm d x
 rotate_left
 ·rw[if_neg hall];exact zQj rfl (zQj rfl rfl)
 rw[if_pos hall];cases hh:hrm c d l (kind,(lv,(A,(B,(At,(mask,()))))))with
 |none=>exact zQj rfl (zQj rfl rfl)
 |some d'=>
 have hd:=xJk hok hall hh;obtain⟨hok',hall'⟩:=uZ0 hd hok hall;have hn:=zZe hd;have hL':∀L∈d',L.length≤1000000:=fun L hL=>by
  obtain⟨i,hi,rfl⟩:=List.getElem_of_mem hL;have hi0:i<d.length:=by omega
  have:=zKs (zXx hd hi0 hi);have:=i2 _ (Qn hi0);omega
 refine zQg rfl ?_;refine zQu (zYj c d' (by omega) fun L hL=>by have:=hL' L hL;omega) ?_
 rw[vX4 hok'];refine zQg rfl ?_;refine zQg (by simp only[Z.zQn,Z.ine,Z.ofN,Z.len,hrmA,hn];simp) ?_
 have loopG:kind≠5→_:=fun h5=>vKi (d:=d) (d':=d') hd (kind:=kind) (lv:=lv) (A:=A) (B:=B) h5 (by omega) (fun L hL=>by have:=i2 L hL;omega) fun i k hi hi' hk hk' hn=>vXb hok hall h5 hh hi hi' hk hk' hn
 have again:kind=1∨kind=2→yWq (c,((d',()),(l,(kind,(lv,(A,(B,(At,(mask,())))))))))=some ((d,()),0):=fun hk=>by
  refine(yJl c d' l _ (by omega) (fun L hL=>by have:=hL' L hL;omega) (by omega)).trans ?_
  unfold hrmD;rw[if_pos hok',if_pos hall',vXa hok hall hk hB hh];rfl
 have sm:zJm ((d,()),(d,()))=some true:=(xKp d d (by omega) fun L hL=>by have:=i2 L hL;omega).trans (by rw[decide_eq_true rfl])
 by_cases k1:kind=1
 ·refine zQj (by simp[Z.ieq,k1]) ?_
  refine zQu (again (.inl k1)) (zQg rfl (zQu sm (zQg rfl ?_)));exact loopG (by omega)
 refine zQg (by simp[Z.ieq,k1]) ?_
 by_cases k2:kind=2
 ·refine zQj (by simp[Z.zQn,Z.ieq,k2]) ?_
  refine zQu (again (.inr k2)) (zQg rfl (zQu sm (zQg rfl ?_)));exact loopG (by omega)
 refine zQg (by simp[Z.zQn,Z.ieq,k2]) ?_
 by_cases k5:kind=5
 ·refine zQz (fun(s:Int)=>s=0) (fun s=>0) (fun s k hs hk=> ?_) rfl (by omega)
  by_cases hi:s<d.length
  ·exact zQj (decide_eq_true (by simp only[Z.ofN,Z.len];omega)) (zQg (by simp[Z.zQn,Z.ine,k5]) rfl)
  ·exact zQg (decide_eq_false (by simp only[Z.ofN,Z.len];omega)) rfl
 ·exact loopG k5
theorem yXs(d:Els zZb.args)(hf:Fits zZb.args d):zKc d=some true:=by
 obtain⟨c,⟨d,_⟩,l,h⟩:=d;refine wY5 c d l h fun L hL b hb v hv=>?_
 have h1:=hf.2.1.1.2 L hL;have h2:=(h1.2 b hb).2 v hv;have h3:(0:Int)≤v∧v≤255:=h2;omega
end Go.Proofs.Ytghnechjgchajaa
