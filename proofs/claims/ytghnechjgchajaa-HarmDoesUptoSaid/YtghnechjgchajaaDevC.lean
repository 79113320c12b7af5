/- Devices: shapes, which may be, what is read and written. -/
import Derived.Test.YtghnechjgchajaaDevB
import Derived.Test.YtghnechjgchajaaConftells
namespace Go.Proofs.Ytghnechjgchajaa
open Go.Eng
set_option linter.unusedVariables false
set_option linter.unusedSimpArgs false
abbrev ShT:=Int×(Int×Unit)
abbrev SeeT:=Int×(Int×(Int×(Byt×Unit)))
def shp(l:LvlT):ShT:=(2*2^l.2.2.1.toNat-1,(8+l.2.2.2.1,()))
noncomputable def shS(c:CfgT):List ShT:=(allS c).map shp
theorem lv_in{c:CfgT}(N:Nums c):∀(k:Nat) (n z:Int),n.toNat≤k→1≤n→n≤64→0≤z→z≤32→∀p∈LV c n z,(1≤p.1∧p.1≤64)∧0≤p.2∧p.2≤32
 |0,n,z,hk,h1,_,_,_=>by omega
 | k+1,n,z,hk,h1,h64,z0,z32=>by
  intro p hp;have f1:=N.f1;have f2:=N.f2;have hLV:=uWz N h1 h64 (s:=z);rw[hLV]at hp;rcases Jh.1 hp with rfl|hp
  ·exact⟨⟨h1,h64⟩,z0,z32⟩
  ·by_cases ht:n≤c.2.2.2.2.2.2.2.2.1
   ·rw[if_pos ht]at hp;simp at hp
   ·rw[if_neg ht]at hp
    have t1:=N.t1;obtain⟨a,b⟩:=wYx f1 f2 (show 2≤n by omega)
    exact lv_in N k (nxt c.2.2.1 n) (4*c.2.2.1) (by omega) a (by omega) (by omega) (by omega) p hp
theorem vWw(n:Int):may (wK3 n)=true:=by
 rw[yYl];unfold wK3;(repeat' split)<;>omega
theorem xZa{h:Int}(hm:may h=true):(2:Int)≤2^h.toNat∧(2:Int)^h.toNat≤64:=by
 rcases yJi hm with rfl|rfl|rfl|rfl|rfl|rfl<;>decide
theorem wZh{c:CfgT}(N:Nums c):∀l∈allS c,may l.2.2.1=true∧72≤l.2.2.2.1∧l.2.2.2.1≤224:=by
 intro l hl;obtain⟨p,hp,rfl⟩:=Ja.1 hl;obtain⟨_,h1,h2⟩:=lv_in N c.1.toNat c.1 c.2.1 (Qg _) N.p1 N.p2 (by have:=N.s1;omega) N.s2 p hp
 obtain⟨m1,m2⟩:=mul_b N.l1 N.l2 (show 8≤8+p.2 by omega) (by omega)
 refine⟨vWw _, ?_, ?_⟩
 ·show 72≤c.2.2.2.1*(8+p.2)+64;omega
 ·show c.2.2.2.1*(8+p.2)+64≤224;omega
theorem uKa{c:CfgT}(N:Nums c):∀s∈shS c,3≤s.1∧s.1≤127∧80≤s.2.1∧s.2.1≤232:=by
 intro s hs;obtain⟨l,hl,rfl⟩:=Ja.1 hs;obtain⟨h1,h2,h3⟩:=wZh N l hl;obtain⟨q1,q2⟩:=xZa h1;show 3≤2*2^l.2.2.1.toNat-1∧2*2^l.2.2.1.toNat-1≤127∧80≤8+l.2.2.2.1∧8+l.2.2.2.1≤232
 generalize (2:Int)^l.2.2.1.toNat=q at *;omega
theorem yZ6(c:CfgT):(shS c).length=(allS c).length:=by simp[shS]
theorem wYh{α:Type}(l:List α){i:Nat}(h:i<l.length)(z:α):(l.take i++List.replicate (l.length-i) z).set i l[i]=l.take (i+1)++List.replicate (l.length-(i+1)) z:=by
 have l1:(l.take i).length=i:=by rw[J1];omega
 rw[List.set_append_right _ _ (by omega),l1,Nat.sub_self,Qr h,Jq]
 congr 1;obtain⟨m,hm⟩:∃m,l.length-i=m+1:=⟨l.length-i-1,by omega⟩
 have hm2:l.length-(i+1)=m:=by omega
 rw[hm,hm2,J7];rfl
theorem yXy(c:CfgT):yQp c=some (if mayB c then(shS c,0)else([],8)):=by
 unfold yQp;refine zQm (xQv c) ?_;cases hm:mayB c with
 |false=>exact zQe rfl rfl
 | true=>
  obtain⟨N,_⟩:=zJ6 hm;have hal:=zYw c;simp only[if_true];refine zQd rfl ?_;refine zQa (Z.zKh.2 ⟨by simp only[Z.ofN,Z.len];omega,Int.le_refl _,by simp only[Z.ofN,Z.len];omega,by simp only[Z.ofN,Z.len];omega⟩) ?_
  refine zQn (fun(s:Int×List ShT)=>∃i:Nat,i≤(allS c).length∧s=((i:Int),(shS c).take i++List.replicate ((shS c).length-i) (0,(0,())))) (fun s=>(allS c).length-s.1.toNat) ?_ ⟨0,Qw _,by rw[yZ6];rfl⟩ (zXd _ _ (by omega))
  rintro s k ⟨i,hi,rfl⟩ hk;dsimp only;have hsl:=yZ6 c;by_cases h:i<(allS c).length
  ·refine zQe (decide_eq_true (by simp only[Z.ofN,Z.len];omega)) ?_
   refine zQa (ixND h) (zQb (zWg (allS c) h _) ?_);obtain⟨h1,h2,h3⟩:=wZh N _ (Qh h);have hg:(shS c)[i]'(by omega)=shp (allS c)[i]:=by simp[shS]
   refine zQm ((xQu _).trans (by rw[if_pos h1])) ?_
   refine zQd rfl ?_;refine zQb (y:=8+(allS c)[i].2.2.2.1) (zY1 (by simp only[Z.add];omega)) ?_
   refine zQa ⟨by omega,by show(i:Int)<(((allS c).length:Int).toNat:Int);omega⟩ ?_
   refine zQa (by show 0+i<_;simp;omega) ?_
   refine zQb (y:=(shS c).take (i+1)++List.replicate ((shS c).length-(i+1)) (0,(0,()))) ?_ ?_
   ·show List.set _ (0+i) (shp (allS c)[i])=_
    rw[Jc,←hg];exact wYh (shS c) (by omega) _
   refine zQb (zQ1 (by omega)) ?_
   exact hk _ ⟨i+1,h,rfl⟩ (by show(allS c).length-((i+1:Nat):Int).toNat<(allS c).length-((i:Int)).toNat;omega)
  ·refine zQd (decide_eq_false (by simp only[Z.ofN,Z.len];omega)) ?_
   have hi2:i=(shS c).length:=by omega
   subst hi2;rw[Q2,Nat.sub_self,List.replicate_zero,Jl];refine zQa (by show 0+((allS c).length:Int).toNat≤(shS c).length;omega) ?_
   congr 2;show((shS c).drop 0).take (((allS c).length:Int).toNat)=_;rw[Jb,Qf (by omega)]
def zZs(c:CfgT)(d:List Lev):Prop:=mayB c=true∧d.length=(shS c).length∧∀(i:Nat) (h:i<d.length) (h':i<(shS c).length),(d[i].length:Int)=(shS c)[i].1∧∀b∈d[i],(b.length:Int)=(shS c)[i].2.1
open Classical in
noncomputable def ckD(c:CfgT)(d:List Lev):Int:=if zZs c d then 0 else 8
theorem vJu{c:CfgT}{d:List Lev}(h:zZs c d):ckD c d=0:=if_pos h
theorem yJy{c:CfgT}{d:List Lev}(h:¬zZs c d):ckD c d=8:=if_neg h
theorem vJt(c:CfgT)(d:List Lev):(ckD c d=0∧zZs c d)∨(ckD c d=8∧¬zZs c d):=by
 by_cases h:zZs c d
 ·exact .inl ⟨vJu h,h⟩
 ·exact .inr ⟨yJy h,h⟩
theorem xKr(c:CfgT)(d:List Lev)(hl:d.length≤1000000000)(hL:∀L∈d,L.length≤1000000000):yJu (c,(d,()))=some (ckD c d):=by
 unfold yJu;dsimp only;refine zQm (yXy c) ?_;cases hm:mayB c with
 |false=>
  refine zQe rfl ?_;rw[yJy fun h=>by rw[h.1]at hm;cases hm]
  rfl
 | true=>
  have hal:=zYw c;have hsl:=yZ6 c;simp only[if_true];refine zQd rfl ?_;by_cases hlen:d.length=(shS c).length
  ·refine zQd (by simp only[Z.ine,Z.ofN,Z.len,hlen];simp) ?_
   refine zQn (fun(s:Int)=>∃i:Nat,s=(i:Int)∧i≤d.length∧∀(j:Nat) (h:j<d.length) (h':j<(shS c).length),j<i→(d[j].length:Int)=(shS c)[j].1) (fun s=>d.length-s.toNat) ?_ ⟨0,rfl,Qw _,fun _ _ _ h=>absurd h (Nat.not_lt_zero _)⟩ (zXd _ _ (by omega))
   rintro s k ⟨i,rfl,hi,hq⟩ hk;by_cases h:i<d.length
   ·have h':i<(shS c).length:=by omega
    refine zQe (decide_eq_true (by simp only[Z.ofN,Z.len];omega)) ?_
    refine zQa (ixND h') (zQb (zWg (shS c) h' _) ?_);refine zQa (ixND h) (zQb (zWg d h _) ?_);by_cases he:(d[i].length:Int)=(shS c)[i].1
    ·refine zQd (by simp only[Z.ine,Z.ofN,Z.len,he];simp) ?_
     refine zQb (zQ1 (by omega)) ?_
     refine hk _ ⟨i+1,rfl,h,fun j hj hj' hji=>?_⟩ (by show d.length-((i+1:Nat):Int).toNat<d.length-((i:Int)).toNat;omega)
     by_cases e:j=i
     ·subst e;exact he
     ·exact hq j hj hj' (by omega)
    ·refine zQe (by simpa only[Z.ine,Z.ofN,Z.len,bne_iff_ne,ne_eq]using he) ?_
     rw[yJy fun hh=>he (hh.2.2 i h h').1]
   ·refine zQd (decide_eq_false (by simp only[Z.ofN,Z.len];omega)) ?_
    have hq1:∀(j:Nat) (h:j<d.length) (h':j<(shS c).length),(d[j].length:Int)=(shS c)[j].1:=fun j h h'=>hq j h h' (by omega)
    clear hk hq;refine zQn (fun(s:Int)=>∃i:Nat,s=(i:Int)∧i≤d.length∧∀(j:Nat) (h:j<d.length) (h':j<(shS c).length),j<i→∀b∈d[j],(b.length:Int)=(shS c)[j].2.1) (fun s=>d.length-s.toNat) ?_ ⟨0,rfl,Qw _,fun _ _ _ h=>absurd h (Nat.not_lt_zero _)⟩ (zXd _ _ (by omega))
    rintro s k ⟨i,rfl,hi,hq⟩ hk;by_cases h:i<d.length
    ·have h':i<(shS c).length:=by omega
     refine zQe (decide_eq_true (by simp only[Z.ofN,Z.len];omega)) ?_
     refine zQa (ixND h) (zQb (zWg d h _) ?_);have hLi:=hL _ (Qh h);refine zQn (fun(s:Int)=>∃q:Nat,s=(q:Int)∧q≤d[i].length∧∀(j:Nat) (hj:j<d[i].length),j<q→(d[i][j].length:Int)=(shS c)[i].2.1) (fun s=>d[i].length-s.toNat) ?_ ⟨0,rfl,Qw _,fun _ _ h=>absurd h (Nat.not_lt_zero _)⟩ (zXd _ _ (by omega))
     rintro s k2 ⟨q,rfl,hqi,hqq⟩ hk2;by_cases hlt:q<d[i].length
     ·refine zQe (decide_eq_true (by simp only[Z.ofN,Z.len];omega)) ?_
      refine zQa (ixND hlt) (zQb (zWg d[i] hlt _) ?_);refine zQa (ixND h') (zQb (zWg (shS c) h' _) ?_);by_cases he:(d[i][q].length:Int)=(shS c)[i].2.1
      ·refine zQd (by simp only[Z.bnot,Z.ieq,Z.ofN,Z.len,he];simp) ?_
       refine zQb (zQ1 (by omega)) ?_
       refine hk2 _ ⟨q+1,rfl,hlt,fun j hj hji=>?_⟩ (by show d[i].length-((q+1:Nat):Int).toNat<d[i].length-((q:Int)).toNat;omega)
       by_cases e:j=q
       ·subst e;exact he
       ·exact hqq j hj (by omega)
      ·refine zQe (by simp only[Z.bnot,Z.ieq,Z.ofN,Z.len];simpa using he) ?_
       rw[yJy fun hh=>he ((hh.2.2 i h h').2 _ (Qh hlt))]
     ·refine zQd (decide_eq_false (by simp only[Z.ofN,Z.len];omega)) ?_
      refine zQb (zQ1 (by omega)) ?_
      refine hk _ ⟨i+1,rfl,h,fun j hj hj' hji=>?_⟩ (by show d.length-((i+1:Nat):Int).toNat<d.length-((i:Int)).toNat;omega)
      by_cases e:j=i
      ·subst e
       intro b hb;obtain⟨x,hx,rfl⟩:=List.getElem_of_mem hb;exact hqq x hx (by omega)
      ·exact hq j hj hj' (by omega)
    ·refine zQd (decide_eq_false (by simp only[Z.ofN,Z.len];omega)) ?_
     rw[vJu ⟨hm,hlen,fun i h h'=>⟨hq1 i h h',hq i h h' (by omega)⟩⟩]
  ·refine zQe (by simp only[Z.ine,Z.ofN,Z.len,bne_iff_ne,ne_eq];omega) ?_
   rw[yJy fun h=>hlen h.2.1]
def plD(d:List Lev)(level:Int)(at_:List Int):Prop:=(0≤level∧level<d.length)∧∀x∈at_,1≤x∧x≤(d.getD level.toNat []).length
open Classical in
noncomputable def plB(d:List Lev)(level:Int)(at_:List Int):Bool:=decide (plD d level at_)
open Classical in
theorem wKd{d:List Lev}{level:Int}{at_:List Int}(h:plD d level at_):plB d level at_=true:=by unfold plB;exact decide_eq_true h
open Classical in
theorem yK3{d:List Lev}{level:Int}{at_:List Int}(h:¬plD d level at_):plB d level at_=false:=by unfold plB;exact decide_eq_false h
theorem xZj(d:List Lev)(level:Int)(at_:List Int)(hl:d.length≤1000000000)(ha:at_.length≤1000000000):zJu ((d,()),(level,at_))=some (plB d level at_):=by
 unfold zJu;dsimp only;by_cases h0:level<0
 ·refine zQe (decide_eq_true h0) ?_
  rw[yK3 fun h=>by have:=h.1.1;omega]
 refine zQd (decide_eq_false h0) ?_;by_cases h1:(d.length:Int)≤level
 ·refine zQe (by simp only[Z.zQi,Z.ige,Z.ofN,Z.len];simpa using h1) ?_
  rw[yK3 fun h=>by have:=h.1.2;omega]
 refine zQd (by simp only[Z.zQi,Z.ige,Z.ofN,Z.len];simpa using h1) ?_
 obtain⟨i,rfl⟩:∃i:Nat,level=(i:Int):=⟨level.toNat,by omega⟩
 have hi:i<d.length:=by omega
 have hget:d.getD (i:Int).toNat []=d[i]:=by simp[List.getD,hi]
 refine zQn (fun(s:Int)=>s=0∨(s=1∧∀x∈at_,1≤x∧x≤d[i].length)) (fun s=>2-s.toNat) ?_ (.inl rfl) (zXd _ _ (by omega))
 rintro s k hs hk;rcases hs with rfl|⟨rfl,hall⟩
 ·refine zQe rfl ?_
  refine zQa ⟨by omega,by omega⟩ (zQa (by show 0+0<1;omega) ?_)
  refine zQb (y:=at_) rfl ?_;refine zQn (fun(s:Int)=>∃q:Nat,s=(q:Int)∧q≤at_.length∧∀(j:Nat) (h:j<at_.length),j<q→1≤at_[j]∧at_[j]≤d[i].length) (fun s=>at_.length-s.toNat) ?_ ⟨0,rfl,Qw _,fun _ _ h=>absurd h (Nat.not_lt_zero _)⟩ (zXd _ _ (by omega))
  rintro s k2 ⟨q,rfl,hq,hqq⟩ hk2;by_cases hlt:q<at_.length
  ·refine zQe (decide_eq_true (by simp only[Z.ofN,Z.len];omega)) ?_
   refine zQa (ixND hlt) (zQb (zWg at_ hlt _) ?_);have no:¬(1≤at_[q]∧at_[q]≤d[i].length)→plB d (i:Int) at_=false:=fun hn=>yK3 fun h=>hn (by have:=h.2 _ (Qh hlt);rw[hget]at this;exact this)
   by_cases hge:1≤at_[q]
   ·refine zQe (decide_eq_true hge) ?_
    refine zQa (ixND hi) (zQb (zWg d hi _) ?_);by_cases hle:at_[q]≤d[i].length
    ·refine zQd (by simp only[Z.bnot,Z.zQi,Z.ile,Z.ofN,Z.len];simpa using hle) ?_
     refine zQb (zQ1 (by omega)) ?_
     refine hk2 _ ⟨q+1,rfl,hlt,fun j hj hji=>?_⟩ (by show at_.length-((q+1:Nat):Int).toNat<at_.length-((q:Int)).toNat;omega)
     by_cases e:j=q
     ·subst e;exact⟨hge,hle⟩
     ·exact hqq j hj (by omega)
    ·refine zQe (by simp only[Z.bnot,Z.zQi,Z.ile,Z.ofN,Z.len];simpa using hle) ?_
     rw[no fun h=>hle h.2]
   ·refine zQd (decide_eq_false hge) ?_
    rw[no fun h=>hge h.1]
  ·refine zQd (decide_eq_false (by simp only[Z.ofN,Z.len];omega)) ?_
   refine zQb (y:=1) (zY1 (by simp[Z.add])) ?_
   refine hk _ (.inr ⟨rfl,fun x hx=>?_⟩) (by show 2-(1:Int).toNat<2-(0:Int).toNat;decide)
   obtain⟨j,hj,rfl⟩:=List.getElem_of_mem hx;exact hqq j hj (by omega)
 ·refine zQd rfl ?_
  rw[wKd ⟨⟨by omega,by omega⟩,fun x hx=>by rw[hget];exact hall x hx⟩]
theorem xJ6(b:Byt)(hb:b.length≤1000000):zXe b=some b:=by
  unfold zXe;refine zQa (Qg _) ?_
  first
  | (refine zWa (bigD (by show 0≤2000000;omega) (by show b.length≤2000000;omega) (by omega)) ?_
     exact zQb (y:=b) rfl rfl)
  | (by_cases h:b.length=0
     · refine iteP h (zQa (Qg _) ?_)
       rw[Qp.1 h];rfl
     · refine iteN h (zWa (bigD (by show 0≤2000000;omega) (by show b.length≤2000000;omega) (by omega)) ?_)
       refine zQb (y:=b) rfl (zQa (by show 0+b.length≤b.length;omega) ?_)
       congr 1;show(b.drop 0).take b.length=b;rw[Jb,Qf (Qg _)])
def bkt(d:List Lev)(level x:Int):Byt:=(d.getD level.toNat []).getD (x-1).toNat []
theorem zK1{c:CfgT}{d:List Lev}(h:zZs c d):d.length≤64∧∀L∈d,(3≤L.length∧L.length≤127)∧∀b∈L,80≤b.length∧b.length≤232:=by
 obtain⟨hm,hlen,hall⟩:=h;obtain⟨N,_⟩:=zJ6 hm;have hal:=zYw c;have hsl:=yZ6 c;refine⟨by omega,fun L hL=>?_⟩
 obtain⟨i,hi,rfl⟩:=List.getElem_of_mem hL;have hi':i<(shS c).length:=by omega
 obtain⟨h1,h2⟩:=hall i hi hi';obtain⟨a1,a2,a3,a4⟩:=uKa N _ (Qh hi');refine⟨by omega,fun b hb=>?_⟩
 have:=h2 b hb;omega
theorem vW0{L:Lev}{m:Nat}(h:∀b∈L,b.length≤m):L.flatten.length≤m*L.length:=by
 induction L with
 |nil=>simp
 |cons b L ih=>
  have h1:=h b (by simp)
  have h2:=ih fun x hx=>h x (by simp[hx])
  rw[Jt,Qz,Jk,Nat.mul_succ];omega
theorem xZk{c:CfgT}{d:List Lev}(h:zZs c d):DevB d:=by
 obtain⟨h1,h2⟩:=zK1 h;refine⟨by omega,fun L hL=>by have:=h2 L hL;omega,fun L hL=>?_⟩
 have hb:=vW0 (m:=232) fun b hb=>((h2 L hL).2 b hb).2
 have:=(h2 L hL).1;have:232*L.length≤232*127:=Nat.mul_le_mul_left _ this.2;omega
theorem xQ4{d:List Lev}{level:Int}{at_:List Int}(h:plD d level at_):∃(i:Nat) (hi:i<d.length),level=(i:Int)∧∀(q:Nat) (hq:q<at_.length),∃(k:Nat) (hk:k<d[i].length),at_[q]=((k+1:Nat):Int):=by
 obtain⟨⟨h0,h1⟩,h2⟩:=h;obtain⟨i,rfl⟩:∃i:Nat,level=(i:Int):=⟨level.toNat,by omega⟩
 have hi:i<d.length:=by omega
 refine⟨i,hi,rfl,fun q hq=>?_⟩
 have:=h2 _ (Qh hq);have hget:d.getD (i:Int).toNat []=d[i]:=by simp[List.getD,hi]
 rw[hget]at this;exact⟨at_[q].toNat-1,by omega,by omega⟩
theorem zYv{d:List Lev}{i k:Nat}(hi:i<d.length)(hk:k<d[i].length):bkt d (i:Int) ((k+1:Nat):Int)=d[i][k]:=by
 unfold bkt;have e1:(((k+1:Nat):Int)-1).toNat=k:=by omega
 rw[e1];simp[List.getD,hi,hk]
theorem sub1{k:Nat}(h:k<1000000000):Z.wrap .i64 (Z.sub ((k+1:Nat):Int) 1)=(k:Int):=(zY1 (by simp only[Z.sub];omega)).trans (by simp only[Z.sub];omega)
end Go.Proofs.Ytghnechjgchajaa
