/- The engine, part 5. -/
import Derived.Test.YtampmlalpifkoaaM4
import Derived.Lib.Overlaps
set_option linter.unusedSimpArgs false
/- Places that were made in a round are cut off at its end. -/
namespace Go.Eng
set_option linter.unusedVariables false
mutual
def CV.inB(n:Nat):CV→Bool
 | .ptr b _=>decide (b<n)
 | .rop v=>v.inB n
 | .slice _ xs tok _=>(match tok with
  |some k=>decide (k<n)
  |none=>true)&&CV.inBs n xs
 | .sref _ b _ _ _ _=>decide (b<n)
 | .gref _ b _ _ _ _=>decide (b<n)
 | .gptr b _ _ _=>decide (b<n)
 | .map b=>decide (b<n)
 | .func _ xs ys=>CV.inBs n xs&&CV.inBs n ys
 | .yield l=>decide (l<n)
 | .iface _ v=>v.inB n
 | .agg vs=>CV.inBs n vs
 | .tuple vs=>CV.inBs n vs
 |_=>true
def CV.inBs(n:Nat):List CV→Bool
 |[]=>true
 |v::vs=>v.inB n&&CV.inBs n vs
end
theorem yQ6(n:Nat):∀(xs ys:List CV),CV.inBs n (xs++ys)=(CV.inBs n xs&&CV.inBs n ys)
 |[],ys=>rfl
 |x::xs,ys=>by simp[CV.inBs,yQ6 n xs ys,Bool.and_assoc]
theorem yX5{n:Nat}{c:CV}(h:c.inB n=true):CV.inBs n c.flat=true:=by
 cases c<;>simp_all[CV.flat,CV.inBs,CV.inB]
theorem yYm{n:Nat}:∀{xs:List CV},CV.inBs n xs=true→CV.inBs n (xs.flatMap CV.flat)=true
 |[],_=>rfl
 |x::xs,h=>by
  simp only[CV.inBs,Qc]at h;rw[Qo,yQ6,yX5 h.1,yYm h.2];rfl
theorem xJr{n:Nat}:∀{xs:List CV} {i:Nat} {c:CV},CV.inBs n xs=true→xs[i]? =some c→c.inB n=true
 |x::xs,0,c,h,hc=>by simp at hc;subst hc;simp only[CV.inBs,Qc]at h;exact h.1
 |x::xs,i+1,c,h,hc=>by simp only[CV.inBs,Qc]at h;exact xJr h.2 (by simpa using hc)
mutual
theorem yY3(n:Nat):∀(c:CV),zWc c=true→c.inB n=true
 | .junk,_| .bool _,_| .int _ _,_| .str _,_| .nilptr,_| .nilmap,_| .nilfunc,_| .niliface,_=>rfl
 | .rop v,h=>by simp only[zWc]at h;simp only[CV.inB];exact yY3 n v h
 | .slice e xs tok f,h=>by
  simp only[zWc,Qc,Option.isNone_iff_eq_none]at h;obtain⟨rfl,h⟩:=h;simp only[CV.inB,K5];exact zYa n xs h
 | .func _ xs ys,h=>by
  simp only[zWc,Qc]at h;simp only[CV.inB,Qc];exact⟨zYa n xs h.1,zYa n ys h.2⟩
 | .iface _ v,h=>by simp only[zWc]at h;simp only[CV.inB];exact yY3 n v h
 | .agg xs,h=>by simp only[zWc]at h;simp only[CV.inB];exact zYa n xs h
 | .tuple xs,h=>by simp only[zWc]at h;simp only[CV.inB];exact zYa n xs h
 | .ptr _ _,h| .sref _ _ _ _ _ _,h| .map _,h| .yield _,h=>by simp[zWc]at h
theorem zYa(n:Nat):∀(cs:List CV),zQ2 cs=true→CV.inBs n cs=true
 |[],_=>rfl
 |c::cs,h=>by
  simp only[zQ2,Qc]at h;simp only[CV.inBs,Qc];exact⟨yY3 n c h.1,zYa n cs h.2⟩
end
theorem xQa{α:Type}{n:Nat}{f:α→CV}(h:∀x,(f x).inB n=true):∀xs:List α,CV.inBs n (xs.map f)=true
 |[]=>rfl
 |x::xs=>by simp only[Qg,CV.inBs,h x,xQa h xs,Wg]
theorem wX2{α:Type}{n:Nat}{f:α→List CV}(h:∀x,CV.inBs n (f x)=true):∀xs:List α,CV.inBs n (xs.flatMap f)=true
 |[]=>rfl
 |x::xs=>by simp only[Qo,yQ6,h x,wX2 h xs,Wg]
theorem zJv(n:Nat):∀(c:C) (d:El c),c.inB n=true→(valC c d).inB n=true
 | .bool,b,_=>rfl
 | .int k,m,_=>rfl
 | .str,s,_=>rfl
 | .list c,ds,h=>by
  simp only[valC,CV.inB,K5];exact xQa (fun d=>zJv n c d h) ds
 | .unit,_,_=>rfl
 | .pair a b,d,h=>by
  simp only[C.inB,Qc]at h;simp only[valC,CV.inB,yQ6,yX5 (zJv n a d.1 h.1),yX5 (zJv n b d.2 h.2),Wg]
 | .arr m c,ds,h=>by
  simp only[valC,CV.inB];exact wX2 (fun i=>yX5 (zJv n c _ h)) _
 | .mix b c,d,h=>by
  simp only[C.inB,Qc]at h;cases d with
  |data ds=>
   simp only[valC,mixC,CV.inB,K5];exact xQa (fun d=>zJv n c d h.2) ds
  |nil=>rfl
  |ref k off len gen=>simp only[valC,mixC,CV.inB];exact h.1
theorem wZ7{n:Nat}{c:C}(h:c.inB n=true)(ds:List (El c)):CV.inBs n (vecC c ds)=true:=
 wX2 (fun d=>yX5 (zJv n c d h)) ds
mutual
theorem VV.vYu(n:Nat):∀(v:VV),v.inB n=true→v.cv.inB n=true
 | .junk,_| .undef,_| .bool _,_| .int _ _,_| .str _,_| .nilptr,_| .nilmap,_| .nsl,_| .nilfunc,_| .niliface,_=>rfl
 | .ptr b off,h=>by simpa[VV.inB,VV.cv,CV.inB]using h
 | .ptrE b i c,h=>by simpa[VV.inB,VV.cv,CV.inB]using h
 | .ptrF b i c o,h=>by simpa[VV.inB,VV.cv,CV.inB]using h
 | .rop v,h=>by simp only[VV.inB]at h;simp only[VV.cv,CV.inB];exact VV.vYu n v h
 | .av m c ds,h=>zJv n (.arr m c) ds h
 | .mix b c d,h=>zJv n (.mix b c) d h
 | .xptr b c d i o,h=>by simpa[VV.inB,VV.cv,CV.inB]using h
 | .sl c ds tok full,h=>by
  simp only[VV.inB,Qc]at h;simp only[VV.cv,CV.inB,Qc];exact⟨h.2,xQa (fun d=>zJv n c d h.1) ds⟩
 | .sref b off len cap ex c,h=>by simpa[VV.inB,VV.cv,CV.inB]using h
 | .func f xs ys,h=>by
  simp only[VV.inB,Qc]at h;simp only[VV.cv,CV.inB,Qc];exact⟨VV.yJv n xs h.1,VV.yJv n ys h.2⟩
 | .yield l,h=>by simpa[VV.inB,VV.cv,CV.inB]using h
 | .agg vs,h=>by simp only[VV.inB]at h;simp only[VV.cv,CV.inB];exact VV.yJv n vs h
 | .tuple vs,h=>by simp only[VV.inB]at h;simp only[VV.cv,CV.inB];exact VV.yJv n vs h
 | .map b,h=>by simpa[VV.inB,VV.cv,CV.inB]using h
 | .ifc t c,h=>by simp only[VV.inB]at h;simp only[VV.cv,CV.inB];exact yY3 n c h
theorem VV.yJv(n:Nat):∀(vs:List VV),VV.inBs n vs=true→CV.inBs n (VV.cvs vs)=true
 |[],_=>rfl
 |v::vs,h=>by
  simp only[VV.inBs,Qc]at h;simp only[VV.cvs,CV.inBs,Qc];exact⟨VV.vYu n v h.1,VV.yJv n vs h.2⟩
end
def Phi.cut(φ:Phi)(n:Nat):Phi:=fun b=>if b<n then φ b else none
theorem Phi.zZr{φ:Phi}{n b:Nat}{e:Ent}(h:φ.cut n b=some e):b<n∧φ b=some e:=by
 unfold Phi.cut at h;split at h
 ·exact⟨‹_›,h⟩
 ·simp at h
theorem Phi.zJr{φ:Phi}{n b:Nat}(h:b<n):φ.cut n b=φ b:=by unfold Phi.cut;rw[Qf h]
section
variable {φ:Phi} {St:Stab} {w:World} {n:Nat}
theorem yY0.cut{tok:Option Nat}{a:Option Addr}{len esz cap:Nat}(h:yY0 φ tok a len esz cap)(ht:∀k,tok=some k→k<n):yY0 (φ.cut n) tok a len esz cap:=by
 unfold yY0 at *;cases tok with
 |none=>trivial
 |some k=>simp only[Phi.zJr (ht k rfl)];exact h
theorem VR.cut{c:CV}{v:Value}(h:VR φ St w c v):c.inB n=true→VR (φ.cut n) St w c v:=by
 refine VR.rec (motive_1:=fun c v _=>c.inB n=true→VR (φ.cut n) St w c v) (motive_2:=fun c v _=>CV.inBs n c=true→VRL (φ.cut n) St w c v) ?junk ?bool ?int ?str ?nilptr ?ptr ?ptrDead ?rop ?slice ?sref ?srefDead ?gref ?grefDead ?gptr ?gptrDead ?map ?mapDead
  ?nilmap ?func ?yield ?yieldDead ?nilfunc ?iface ?niliface ?agg ?tuple ?nil ?cons h
 case junk=>exact fun _ _=>.junk _
 case bool=>exact fun _ _=>.bool _
 case int=>exact fun _ _ _=>.int _ _
 case str=>exact fun s t h _=>.str s t h
 case nilptr=>exact fun _=>.nilptr
 case ptr=>intro b off r base size h hb;simp[CV.inB]at hb;exact .ptr _ _ _ _ _ (by rw[Phi.zJr hb];exact h)
 case ptrDead=>intro b off _ h hb;simp[CV.inB]at hb;exact .ptrDead _ _ _ (by rw[Phi.zJr hb];exact h)
 case rop=>
  intro c a vs hat _ hvs hb;simp only[CV.inB]at hb;exact .rop c a vs hat (hvs (yX5 hb))
 case slice=>
  intro esz xs tok full a cap vs hat _ hsz hcap hfull htok hvs hb;simp only[CV.inB,Qc]at hb;refine .slice esz xs tok full a cap vs hat (hvs (yYm hb.2)) hsz hcap hfull (htok.cut fun k hk=>?_)
  subst hk;simpa using hb.1
 case sref=>
  intro esz b off len cap ex r base size rcap h h1 h2 h3 h4 hb;simp[CV.inB]at hb;exact .sref _ _ _ _ _ _ _ _ _ _ (by rw[Phi.zJr hb];exact h) h1 h2 h3 h4
 case srefDead=>intro esz b off len cap ex _ _ h hb;simp[CV.inB]at hb;exact .srefDead _ _ _ _ _ _ _ _ (by rw[Phi.zJr hb];exact h)
 case gref=>intro esz b k off len gen rs a cap h hcap hrow hb;simp[CV.inB]at hb;exact .gref _ _ _ _ _ _ rs a cap (by rw[Phi.zJr hb];exact h) hcap hrow
 case grefDead=>intro esz b k off len gen a cap h hcap hb;simp[CV.inB]at hb;exact .grefDead _ _ _ _ _ _ _ _ (by rw[Phi.zJr hb];exact h) hcap
 case gptr=>intro b k off gen rs p h hk hrow hb;simp[CV.inB]at hb;exact .gptr _ _ _ _ rs p (by rw[Phi.zJr hb];exact h) hk hrow
 case gptrDead=>intro b k off gen p h hb;simp[CV.inB]at hb;exact .gptrDead _ _ _ _ _ (by rw[Phi.zJr hb];exact h)
 case map=>intro b r h hb;simp[CV.inB]at hb;exact .map _ _ (by rw[Phi.zJr hb];exact h)
 case mapDead=>intro b _ h hb;simp[CV.inB]at hb;exact .mapDead _ _ (by rw[Phi.zJr hb];exact h)
 case nilmap=>exact fun _=>.nilmap
 case func=>intro f xs ys us vs _ _ hu hv hb;simp only[CV.inB,Qc]at hb;exact .func f xs ys us vs (hu hb.1) (hv hb.2)
 case yield=>intro l r h hb;simp[CV.inB]at hb;exact .yield _ _ (by rw[Phi.zJr hb];exact h)
 case yieldDead=>intro l _ h hb;simp[CV.inB]at hb;exact .yieldDead _ _ (by rw[Phi.zJr hb];exact h)
 case nilfunc=>exact fun _=>.nilfunc
 case iface=>intro t c v _ h hb;simp only[CV.inB]at hb;exact .iface t c v (h hb)
 case niliface=>exact fun _=>.niliface
 case agg=>intro cs vs _ h hb;simp only[CV.inB]at hb;exact .agg cs vs (h hb)
 case tuple=>intro cs vs _ h hb;simp only[CV.inB]at hb;exact .tuple cs vs (h hb)
 case nil=>exact fun _=>.nil
 case cons=>intro c v cs vs _ _ h hs hb;simp only[CV.inBs,Qc]at hb;exact .cons c v cs vs (h hb.1) (hs hb.2)
theorem VRL.cut{cs:List CV}{vs:List Value}(h:VRL φ St w cs vs)(hb:CV.inBs n cs=true):VRL (φ.cut n) St w cs vs:=by
 induction cs generalizing vs with
 |nil=>cases h;exact .nil
 |cons c cs ih=>
  simp only[CV.inBs,Qc]at hb;cases h with|cons _ v _ vs h hs=>exact .cons _ _ _ _ (h.cut hb.1) (ih hs hb.2)
def HObj.inB(n:Nat):HObj→Bool
 | .cells cs=>CV.inBs n cs
 | .map es=>CV.inBs n (es.map (·.1))&&CV.inBs n (es.map (·.2))
 | .rows css=>css.all (CV.inBs n)
 | .loop _ ts _ _ _ _ _=>CV.inBs n ts
 |_=>true
theorem xJ8(n:Nat)(vs:List VV)(h:VV.inBs n vs=true):CV.inBs n (vs.map VV.cv)=true:=by rw[←VV.zQx];exact VV.yJv n vs h
theorem VObj.vYt{n:Nat}{o:VObj}(h:o.inB n=true):o.ho.inB n=true:=by
 cases o with
 |cells vs=>exact xJ8 n vs h
 |vec c ds=>
  simp only[VObj.ho,HObj.inB];exact wZ7 h ds
 |rows c dss=>
  simp only[VObj.ho,HObj.inB,List.all_map,Qq];exact fun ds _=>wZ7 h ds
 |loop f ts ps a b st pend=>exact xJ8 n ts h
 |map k1 k2 es=>
  simp only[VObj.ho,HObj.inB,Qc];constructor<;>apply zYa<;>induction es with
  |nil=>rfl
  |cons p es ih=>simp only[entC,Qg,zQ2,zWc,K5];exact ih rfl
 |_=>rfl
variable {N:Nat} {H:Heap}
theorem Rel.cut(R:Rel N φ St H w)(hH:∀b o,b<n→H[b]?=some o→o.inB n=true):Rel N (φ.cut n) St (H.take n) w:=by
 have hg:∀b,b<n→(H.take n)[b]?=H[b]?:=fun b hb=>by rw[Ko,Qf hb]
 refine⟨?_, ?_, ?_, ?_, ?_, ?_,R.stLt, ?_, ?_,R.start, ?_, ?_, ?_⟩
 ·intro b e hb
  obtain⟨h1,h2⟩:=Phi.zZr hb;have:=R.dom b e h2;simp;omega
 ·intro b hb
  obtain⟨h1,h2⟩:=Phi.zZr hb;rw[hg b h1];exact R.dead b h2
 ·intro b r base size hb
  obtain⟨h1,h2⟩:=Phi.zZr hb;obtain⟨k1,cs,arr,elem,k2,k3,k4,k5,k6⟩:=R.own b r base size h2;refine⟨k1,cs,arr,elem,by rw[hg b h1];exact k2,k3,k4,k5,fun j c hc=>?_⟩
  obtain⟨v,e1,e2⟩:=k6 j c hc;exact⟨v,e1,e2.cut (xJr (by simpa[HObj.inB]using hH b _ h1 k2) hc)⟩
 ·intro b r used u size hb
  obtain⟨h1,h2⟩:=Phi.zZr hb;rw[hg b h1];exact R.tail b r used u size h2
 ·intro b r hb
  obtain⟨h1,h2⟩:=Phi.zZr hb;obtain⟨k1,o,O,k2,k3,k4⟩:=R.obj b r h2;have hin:=hH b _ h1 k2;refine⟨k1,o,O,by rw[hg b h1];exact k2,k3, ?_⟩
  cases k4 with
  |loop f g ts tv ps a b st pend dr ht ha hb=>exact .loop f g ts tv ps a b st pend dr (ht.cut hin) ha hb
  |map es entries clock hk hv=>
   simp only[HObj.inB,Qc]at hin;exact .map es entries clock (hk.cut hin.1) (hv.cut hin.2)
 ·intro b b' e e' r hb hb' he he'
  exact R.inj b b' e e' r (Phi.zZr hb).2 (Phi.zZr hb').2 he he'
 ·intro b r base size j hb;exact R.stOwn b r base size j (Phi.zZr hb).2
 ·intro b r used u size j hb;exact R.stTail b r used u size j (Phi.zZr hb).2
 ·intro b u hb
  obtain⟨h1,h2⟩:=Phi.zZr hb;rw[hg b h1];exact R.void b u h2
 ·intro b rs hb
  obtain⟨h1,h2⟩:=Phi.zZr hb;rw[hg b h1];obtain⟨css,g1,g2,g3,g4⟩:=R.rows b rs h2;have hin:=hH b _ h1 g1;refine⟨css,g1,g2,fun k row cs hr hc=>?_,g4⟩
  obtain⟨q2,q0,g3'⟩:=g3 k row cs hr hc;refine⟨q2,q0,fun r base lim hb=>?_⟩
  obtain⟨q1,q3,⟨arr,elem,q4,q5,q6,q7⟩,q8⟩:=g3' r base lim hb;refine⟨q1,q3,⟨arr,elem,q4,q5,q6,fun j c hc'=>?_⟩,q8⟩
  obtain⟨v,e1,e2⟩:=q7 j c hc';exact⟨v,e1,e2.cut (xJr (Qq.1 (by simpa[HObj.inB]using hin) cs (Ql hc)) hc')⟩
 ·intro b css hx
  have hb:b<n:=by
   rw[Ko]at hx;split at hx
   ·assumption
   ·simp at hx
  rw[hg b hb]at hx;obtain⟨rs,hrs⟩:=R.rdom b css hx;exact⟨rs,by rw[Phi.zJr hb];exact hrs⟩
theorem Left.cut{H':Heap}{φ':Phi}{St':Stab}{w':World}(R:Rel N φ St H w)(l:Left N φ St H w H' φ' St' w')(hH:∀b o,b<H.length→H'[b]? =some o→o.inB H.length=true):
  Left N φ St H w (H'.take H.length) (φ'.cut H.length) St' w':=by
 refine⟨l.rel.cut hH, ?_, ?_⟩
 ·have f:=l.frm
  refine{ext:=?_,st:=f.st,keep:=f.keep,size:=f.size,stNew:=f.stNew,blkNew:=?_,keepBlk:=f.keepBlk,idNew:=?_,os:=f.os,output:=f.output,tape:=f.tape}
  ·intro b
   by_cases hb:b<H.length
   ·rw[Phi.zJr hb];exact f.ext b
   ·have:φ b=none:=by
     cases hx:φ b with
     |none=>rfl
     |some e=>exact absurd (R.dom b e hx) hb
    rw[this];exact .fresh _
  ·intro b e r hb he
   exact f.blkNew b e r (Phi.zZr hb).2 he
  ·intro b hb hn
   rw[Phi.zJr hb];exact f.idNew b hb hn
 ·have k:=l.keep
  refine⟨by have:=k.1;simp;omega,fun b hb hn=>?_⟩
  rw[Ko,Qf hb];exact k.2 b hb hn
theorem Marks.cut{m:Nat}{ms:List Deferred}(h:Marks m φ w ms):Marks m (φ.cut n) w ms:=
 ⟨fun d hd=>let⟨r,h1,h2,h3,h4⟩:=h.1 d hd;⟨r,h1,h2,h3,fun b e hb he=>h4 b e (Phi.zZr hb).2 he⟩,h.2⟩
end
section
variable {P:Program} {c:Cfg} {rd:Option Nat} {x:X} {T T' T'':List CV} {H H':Heap} {out:Out}
theorem zQm.cut(hx:zQm P c rd x T H .normal T' H')(hH:∀b o,b<H.length→H'[b]? =some o→o.inB H.length=true)(hT:CWs T' T'')(hB:CV.inBs H.length T''=true):
  zQm P c rd x T H .normal T'' (H'.take H.length):=by
 intro N φ St w a ro R hg hr ht;refine wpIn_mono (hx N φ St w a ro R hg hr ht) fun e a1 w1 p=>?_
 obtain⟨rfl,φ1,St1,l1,ms,hm,ht1,hd1⟩:=p.normal;exact⟨_,St1,l1.cut R hH,ms,hm.cut,(hT.vrl ht1).cut hB,hd1⟩
theorem zQj.weaken(hx:zQj P c rd x T'' H out T' H')(hT:CWs T T''):zQj P c rd x T H out T' H':=
 fun N φ St w a ro R hg hr ht=>hx N φ St w a ro R hg hr (hT.vrl ht)
theorem zQj.token{i:Nat}{esz:Nat}{xs:List CV}{cv:CV}(hi:T[i]?=some cv)(hcv:(∃e,cv=.slice e xs none true∧(xs=[]∨e=esz)))(hnil:xs=[])(hx:zQj P c rd x (T.set i (.slice esz xs (some H.length) false)) (H++[.tail xs.length]) out T' H'):zQj P c rd x T H out T' H':=by
 intro N φ St w a ro R hg hr ht;obtain⟨R1,F1⟩:=R.xQ6 xs.length (by rw[hnil];rfl)
 have l1:Left N φ St H w (H++[.tail xs.length]) (φ.push H.length (.void xs.length)) St w:=⟨R1,F1,Keep.append _ _ _⟩;obtain⟨v,hv1,hv2⟩:=ht.get i cv hi;obtain⟨e,rfl,he⟩:=hcv
 have hv3:VR (φ.push H.length (.void xs.length)) St w (.slice esz xs (some H.length) false) v:=by
  cases hv2 with|slice _ _ _ _ a cap vs hat hvs hsz hcap hfull htok=>
  have hc0:cap=xs.length:=hfull rfl;subst hc0;refine .slice _ _ _ _ _ _ vs hat (hvs.mono F1.toMono) ?_ (Qe _) (by simp) ?_
  ·rcases he with rfl|rfl
   ·simp
   ·exact hsz
  refine⟨by simp[Phi.push], ?_, ?_⟩
  ·intro u hu;simp[Phi.push]at hu;subst hu;simp
  ·intro r used u size hu;simp[Phi.push]at hu
 have ht2:VRL (φ.push H.length (.void xs.length)) St w (T.set i (.slice esz xs (some H.length) false)) a.tmps.toList:=by
  have h1:=(ht.mono F1.toMono).set i hv3;have:a.tmps.toList.set i v=a.tmps.toList:=set_self (by simpa using hv1)
  rw[this]at h1;exact h1
 have:=hx N _ St w a ro R1 (hg.mono F1.toMono) (hr.mono F1.toMono) ht2;exact Post.zK4 (ms:=[]) l1 (.nil _ _ _) rfl this
theorem Rel.yWr{N:Nat}{φ:Phi}{St:Stab}{H:Heap}{w:World}(R:Rel N φ St H w)(n:Nat):
  Rel N (φ.put H.length (.rows (List.replicate n ⟨none,0⟩))) St (H++[.rows (List.replicate n [])]) w∧Frm H.length φ St w (φ.put H.length (.rows (List.replicate n ⟨none,0⟩))) St w:=by
 have hn:=R.yJn;have m:Mono φ St w (φ.put H.length (.rows (List.replicate n ⟨none,0⟩))) St w:=by
  refine⟨fun b'=>?_,fun _ _ hs=>hs,fun _ _ _=>rfl⟩
  by_cases hb:b'=H.length
  ·subst hb;rw[hn];exact .fresh _
  ·rw[zQc _ _ _ _ hb];exact .refl _
 have hno:∀r,¬(Ent.rows (List.replicate n ⟨none,0⟩)).has r:=by
  rintro r ⟨row,hm,base,lim,hb⟩;rw[K6 hm]at hb;simp at hb
 refine⟨R.change H.length (.rows (List.replicate n ⟨none,0⟩)) (.rows (List.replicate n [])) St (H++[.rows (List.replicate n [])]) w m (Qe _) (by simp) (by simp)
  (fun b' e hne hb'=>by rw[Qb (R.dom b' e hb')]) (fun _ _ _ _ _ _=>rfl) R.stLt (fun _ _ hs=>.inl hs)
  (fun r' he=>absurd he (hno r')) ?_,{toMono:=m,size:=Qe _,stNew:=fun _ _ hs=>.inl hs,blkNew:=?_,keepBlk:=fun _ _ _=>rfl,idNew:=?_,os:=rfl,output:=rfl,tape:=rfl}⟩
 ·refine⟨_,rfl,by simp,fun k row cs hr hc=> ?_,fun k k' row row' r base lim base' lim' hne hr hr' hb=> ?_⟩
  ·have h1:=K6 (Ql hr)
   have h2:=K6 (Ql hc);subst h1;subst h2;exact⟨rfl,fun _=>rfl,fun r base lim hb=>by simp at hb⟩
  ·rw[K6 (Ql hr)]at hb;simp at hb
 ·intro b' e r' hb' he
  by_cases hbk:b'=H.length
  ·subst hbk;rw[zQg]at hb';simp at hb';subst hb';exact absurd he (hno r')
  ·rw[zQc _ _ _ _ hbk]at hb';exact .inl ⟨b',e,hb',he⟩
 ·intro b' hb' hn'
  rw[zQc _ _ _ _ (by omega)];exact hn'
theorem wWv{φ:Phi}{St:Stab}{w:World}{esz esz' b n k:Nat}{v:Value}(hφ:φ b=some (.rows (List.replicate n ⟨none,0⟩))){φ0:Phi}(hv:VR φ0 St w (.slice esz' [] none true) v):VR φ St w (.gref esz b k 0 0 0) v:=by
 generalize hcv:CV.slice esz' [] none true=cv at hv;cases hv<;>simp at hcv;rename_i a cap vs hat hvs hsz hcap hfull htok;obtain⟨rfl,rfl,rfl,rfl⟩:=hcv;have h0:cap=0:=by simpa using hfull rfl
 exact .gref _ _ _ _ _ _ _ a cap hφ (Jd _) (.inl h0)
theorem Rel.addEmpty{N:Nat}{φ:Phi}{St:Stab}{H:Heap}{w:World}{Q:Nat}{rs:List Row}{css:List (List CV)}(R:Rel N φ St H w)(hQ:φ Q=some (.rows rs))(hHQ:H[Q]? =some (.rows css)):
  Left N φ St H w (H.set Q (.rows (css++[[]]))) (φ.put Q (.rows (rs++[⟨none,0⟩]))) St w:=by
 have hQl:=R.dom _ _ hQ;have m:Mono φ St w (φ.put Q (.rows (rs++[⟨none,0⟩]))) St w:=by
  refine⟨fun b'=>?_,fun _ _ hs=>hs,fun _ _ _=>rfl⟩
  by_cases hb':b'=Q
  ·subst hb';rw[zQg,hQ]
   refine .rows _ _ fun k row hk=>⟨row, ?_, .inl rfl⟩
   rw[Qb (List.getElem?_eq_some_iff.1 hk).1];exact hk
  ·rw[zQc _ _ _ _ hb'];exact .refl _
 have hhas:∀r,(Ent.rows (rs++[(⟨none,0⟩:Row)])).has r→(Ent.rows rs).has r:=by
  rintro r ⟨row,hm,b1,l1,hb1⟩;rcases Qy.1 hm with hm|hm
  ·exact⟨row,hm,b1,l1,hb1⟩
  ·simp at hm;subst hm;simp at hb1
 have hrows:=R.rows _ _ hQ;rw[hHQ]at hrows;obtain⟨css0,g1,g2,g3,g4⟩:=hrows;simp at g1;subst g1;have hent:zKx N (φ.put Q (.rows (rs++[⟨none,0⟩]))) St w (rs++[⟨none,0⟩]) (some (.rows (css++[[]]))):=by
  refine⟨_,rfl,by simp[g2],fun k row cs1 hr hc=>?_,fun k k' row row' r1 base1 lim1 base2 lim2 hkk hr hr' hb1 hb2=>?_⟩
  ·by_cases hk:k<rs.length
   ·rw[Qb hk]at hr
    rw[Qb (by omega)]at hc
    have ho:=g3 k row cs1 hr hc;exact ho.step m fun r1 base1 lim1 hb1=>⟨zJp.same rfl,(ho.2.2 r1 base1 lim1 hb1).2.2.2⟩
   ·rw[Qj (by omega)]at hr
    rw[Qj (by omega)]at hc
    have hk0:k-rs.length=0:=by
     have:=(List.getElem?_eq_some_iff.1 hr).1;simp at this;omega
    rw[hk0]at hr;rw[g2,hk0]at hc;simp at hr hc;subst hr;subst hc;exact⟨rfl,fun _=>rfl,fun r1 base1 lim1 hb1=>by simp at hb1⟩
  ·have key:∀{i:Nat} {ro:Row} {b3 l3:Nat},(rs++[(⟨none,0⟩:Row)])[i]?=some ro→ro.blk=some (r1,b3,l3)→rs[i]?=some ro:=by
    intro i ro b3 l3 hi hbl;by_cases hk:i<rs.length
    ·rw[Qb hk]at hi;exact hi
    ·rw[Qj (by omega)]at hi
     have hk0:i-rs.length=0:=by
      have:=(List.getElem?_eq_some_iff.1 hi).1;simp at this;omega
     rw[hk0]at hi;simp at hi;subst hi;simp at hbl
   exact g4 k k' row row' r1 base1 lim1 base2 lim2 hkk (key hr hb1) (key hr' hb2) hb1 hb2
 have RR:=R.change Q (.rows (rs++[(⟨none,0⟩:Row)])) (.rows (css++[[]])) St (H.set Q (.rows (css++[[]]))) w m (Qe _) (by rw[Qk hQl]) (by simp)
  (fun b' e hne' hb'=>by rw[Qd (Jw hne')]) (fun _ _ _ _ _ _=>rfl) R.stLt (fun _ _ hs=>.inl hs) (fun r' he b' e hne' hb' hk=>hne' (R.inj b' Q _ _ r' hb' hQ hk (hhas r' he)))
  (show vZ5 N _ St w (HObj.rows (css++[[]])) (Ent.rows (rs++[(⟨none,0⟩:Row)]))from hent)
 refine⟨RR, ?_, ?_⟩
 ·refine{toMono:=m,size:=Qe _,stNew:=fun _ _ hs=> .inl hs,blkNew:= ?_,keepBlk:=fun _ _ _=>rfl,idNew:= ?_,os:=rfl,output:=rfl,tape:=rfl}
  ·intro b' e r' hb' he
   by_cases hbk:b'=Q
   ·subst hbk;rw[zQg]at hb';simp at hb';subst hb'
    exact .inl ⟨b',_,hQ,hhas r' he⟩
   ·rw[zQc _ _ _ _ hbk]at hb';exact .inl ⟨b',e,hb',he⟩
  ·intro b' hb' hn
   rw[zQc _ _ _ _ (by rintro rfl;rw[hQ]at hn;simp at hn)];exact hn
 ·refine⟨by simp,fun b' hb' hn=> ?_⟩
  rw[Qd (by rintro rfl;rw[hQ]at hn;simp at hn)]
theorem vKd{φ:Phi}{St:Stab}{w:World}{esz esz' b k:Nat}{rs:List Row}{v:Value}(hφ:φ b=some (.rows rs)){φ0:Phi}(hv:VR φ0 St w (.slice esz' [] none true) v):VR φ St w (.gref esz b k 0 0 0) v:=by
 generalize hcv:CV.slice esz' [] none true=cv at hv;cases hv<;>simp at hcv;rename_i a cap vs hat hvs hsz hcap hfull htok;obtain⟨rfl,rfl,rfl,rfl⟩:=hcv;have h0:cap=0:=by simpa using hfull rfl
 exact .gref _ _ _ _ _ _ _ a cap hφ (Jd _) (.inl h0)
theorem zQj.growIn{i esz q:Nat}{css:List (List CV)}(hi:T[i]?=some (.slice 0 [] none true))(hq:H[q]?=some (.rows css))(hx:zQj P c rd x (T.set i (.gref esz q css.length 0 0 0)) (H.set q (.rows (css++[[]]))) out T' H'):zQj P c rd x T H out T' H':=by
 intro N φ St w a ro R hg hr ht;obtain⟨rs,hrs⟩:=R.rdom q css hq;have l1:=R.addEmpty hrs hq;obtain⟨v,hv1,hv2⟩:=ht.get i _ hi;have hv3:VR (φ.put q (.rows (rs++[⟨none,0⟩]))) St w (.gref esz q css.length 0 0 0) v:=vKd (zQg _ _ _) hv2
 have ht2:VRL (φ.put q (.rows (rs++[⟨none,0⟩]))) St w (T.set i (.gref esz q css.length 0 0 0)) a.tmps.toList:=by
  have h1:=(ht.mono l1.frm.toMono).set i hv3;have:a.tmps.toList.set i v=a.tmps.toList:=set_self (by simpa using hv1)
  rw[this]at h1;exact h1
 have:=hx N _ St w a ro l1.rel (hg.mono l1.frm.toMono) (hr.mono l1.frm.toMono) ht2;exact Post.zK4 (ms:=[]) l1 (.nil _ _ _) rfl this
theorem zQj.grow{i esz:Nat}(hi:T[i]?=some (.slice 0 [] none true))(hx:zQj P c rd x (T.set i (.gref esz H.length 0 0 0 0)) (H++[.rows [[]]]) out T' H'):zQj P c rd x T H out T' H':=by
 intro N φ St w a ro R hg hr ht;obtain⟨R1,F1⟩:=R.yWr 1;have l1:Left N φ St H w (H++[.rows [[]]]) (φ.put H.length (.rows [⟨none,0⟩])) St w:=⟨R1,F1,Keep.append _ _ _⟩
 obtain⟨v,hv1,hv2⟩:=ht.get i _ hi;have hv3:VR (φ.put H.length (.rows [⟨none,0⟩])) St w (.gref esz H.length 0 0 0 0) v:=wWv (n:=1) (zQg _ _ _) hv2;have ht2:VRL (φ.put H.length (.rows [⟨none,0⟩])) St w (T.set i (.gref esz H.length 0 0 0 0)) a.tmps.toList:=by
  have h1:=(ht.mono F1.toMono).set i hv3;have:a.tmps.toList.set i v=a.tmps.toList:=set_self (by simpa using hv1)
  rw[this]at h1;exact h1
 have:=hx N _ St w a ro R1 (hg.mono F1.toMono) (hr.mono F1.toMono) ht2;exact Post.zK4 (ms:=[]) l1 (.nil _ _ _) rfl this
theorem Rel.yQx{N:Nat}{φ:Phi}{St:Stab}{w:World}{b r base size off n:Nat}{cs:List CV}(R:Rel N φ St H w)(hφ:φ b=some (.own r base size))(hb:H[b]? =some (.cells cs))(hle:off+n≤cs.length):
  Rel N ((φ.put b .dead).put H.length (.rows [⟨some (r,base+off,size-(base+off)),n⟩])) St (H.set b .dead++[.rows [(cs.drop off).take n]]) w∧Frm H.length φ St w ((φ.put b .dead).put H.length (.rows [⟨some (r,base+off,size-(base+off)),n⟩])) St w:=by
 obtain⟨R1,F1⟩:=R.kill hφ;have hlen:(H.set b HObj.dead).length=H.length:=by simp
 have hno:∀b' e',(φ.put b .dead) b'=some e'→¬e'.has r:=by
  intro b' e' hb' he;by_cases hbb:b'=b
  ·subst hbb;rw[zQg]at hb';simp at hb';subst hb';simp[Ent.has]at he
  ·rw[zQc _ _ _ _ hbb]at hb';exact hbb (R.inj b' b e' _ r hb' hφ he rfl)
 obtain⟨hN,cs0,arr,elem,hcs,hw,⟨hsz,hz⟩,hin,hvals⟩:=R.own b r base size hφ;rw[hb]at hcs;simp at hcs;subst hcs;have hn:=R1.yJn;rw[hlen]at hn;have m:Mono (φ.put b .dead) St w ((φ.put b .dead).put H.length (.rows [⟨some (r,base+off,size-(base+off)),n⟩])) St w:=by
  refine⟨fun b'=>?_,fun _ _ hs=>hs,fun _ _ _=>rfl⟩
  by_cases hb:b'=H.length
  ·subst hb;rw[hn];exact .fresh _
  ·rw[zQc _ _ _ _ hb];exact .refl _
 have hhas:∀r',(Ent.rows [⟨some (r,base+off,size-(base+off)),n⟩]).has r'→r'=r:=by
  rintro r' ⟨row,hm,b1,l1,hb1⟩;simp at hm;subst hm;simp at hb1;exact hb1.1.symm
 refine⟨R1.change H.length (.rows [⟨some (r,base+off,size-(base+off)),n⟩]) (.rows [(cs.drop off).take n]) St (H.set b .dead++[.rows [(cs.drop off).take n]]) w m (Qe _) (by simp) (by simp)
  (fun b' e hne hb'=>by rw[Qb (R1.dom b' e hb')]) (fun _ _ _ _ _ _=>rfl) R1.stLt (fun _ _ hs=>.inl hs)
  (fun r' he b' e _ hb' hk=>by rw[hhas r' he]at hk;exact hno b' e hb' hk) ?_, ?_⟩
 ·refine⟨_,rfl,rfl,fun k row cs1 hr hc=> ?_,fun k k' row row' r1 b1 l1 b2 l2 hkk hr hr'=> ?_⟩
  ·have hk:k=0:=by have:=(List.getElem?_eq_some_iff.1 hr).1;simpa using this
   subst hk;simp at hr hc;subst hr;subst hc;refine⟨by simp;omega,fun h=>by simp at h,fun r1 b1 l1 hb1=>?_⟩
   simp at hb1;obtain⟨rfl,rfl,rfl⟩:=hb1;refine⟨hN,by simp only;omega,⟨arr,elem,hw,by rw[hsz];exact hz,by omega,fun j c hc=>?_⟩,fun j=>R.stOwn _ _ _ _ j hφ⟩
   rw[Ko]at hc;split at hc
   ·rw[Jr]at hc
    obtain⟨v,e1,e2⟩:=hvals _ _ hc;exact⟨v,by rw[Jp];exact e1,e2.mono (F1.toMono.trans m)⟩
   ·simp at hc
  ·have h1:=(List.getElem?_eq_some_iff.1 hr).1
   have h2:=(List.getElem?_eq_some_iff.1 hr').1;simp at h1 h2;omega
 ·refine{toMono:=F1.toMono.trans m,size:=Qe _,stNew:=fun _ _ hs=> .inl hs,blkNew:= ?_,keepBlk:=fun _ _ _=>rfl,idNew:= ?_,os:=rfl,output:=rfl,tape:=rfl}
  ·intro b' e r' hb' he
   by_cases hbk:b'=H.length
   ·subst hbk;rw[zQg]at hb';simp at hb';subst hb';rw[hhas r' he];exact .inl ⟨b,_,hφ,rfl⟩
   ·rw[zQc _ _ _ _ hbk]at hb';exact F1.blkNew b' e r' hb' he
  ·intro b' hb' hn'
   rw[zQc _ _ _ _ (by omega)];exact F1.idNew b' hb' hn'
theorem xKa{φ φ':Phi}{St:Stab}{w:World}{b n esz off len cap r base size:Nat}{ex:Bool}{u:Value}(hφ:φ b=some (.own r base size))(hn:φ' n=some (.rows [⟨some (r,base+off,size-(base+off)),len*esz⟩]))(hu:VR φ St w (.sref esz b off len cap ex) u):
  VR φ' St w (.gref esz n 0 0 len (len*esz)) u:=by
 cases hu with
 |sref _ _ _ _ _ _ r' base' size' rcap h h1 h2 h3 h4=>
  rw[hφ]at h;simp only[Qa,Ent.own.injEq]at h;obtain⟨rfl,rfl,rfl⟩:=h;refine .gref _ _ _ _ _ _ _ _ _ hn (by omega) (.inr ⟨by simp,fun row hr=>?_⟩)
  simp at hr;subst hr;exact⟨Qe _,fun _=>⟨rfl,by omega⟩⟩
 |srefDead _ _ _ _ _ _ _ _ h=>rw[hφ]at h;simp at h
theorem zQj.uQ9(hx:zQj P c rd x T (H++[.rows []]) out T' H'):zQj P c rd x T H out T' H':=by
 intro N φ St w a ro R hg hr ht;obtain⟨R1,F1⟩:=R.yWr 0;have l1:Left N φ St H w (H++[.rows []]) (φ.put H.length (.rows [])) St w:=⟨R1,F1,Keep.append _ _ _⟩;have:=hx N _ St w a ro R1 (hg.mono F1.toMono) (hr.mono F1.toMono) (ht.mono F1.toMono)
 exact Post.zK4 (ms:=[]) l1 (.nil _ _ _) rfl this
theorem zQj.convS{i esz b off len cap:Nat}{ex:Bool}{cs:List CV}(hi:T[i]? =some (.sref esz b off len cap ex))(hb:H[b]? =some (.cells cs))(hle:off+len*esz≤cs.length)
  (hx:zQj P c rd x (T.set i (.gref esz H.length 0 0 len (len*esz))) (H.set b .dead++[.rows [(cs.drop off).take (len*esz)]]) out T' H'):zQj P c rd x T H out T' H':=by
 intro N φ St w a ro R hg hr ht;obtain⟨v,hv1,hv2⟩:=ht.get i _ hi;obtain⟨r,base,size,rcap,hφ,_⟩:=zQn R hv2 (by unfold live;rw[hb])
 obtain⟨R1,F1⟩:=R.yQx hφ hb hle;have l1:Left N φ St H w _ _ St w:=⟨R1,F1,(Keep.set (by rw[hφ];simp) _).append' _⟩
 have hv3:=xKa (φ':=(φ.put b .dead).put H.length (.rows [⟨some (r,base+off,size-(base+off)),len*esz⟩])) (n:=H.length) hφ (zQg _ _ _) hv2;have ht2:VRL ((φ.put b .dead).put H.length (.rows [⟨some (r,base+off,size-(base+off)),len*esz⟩])) St w (T.set i (.gref esz H.length 0 0 len (len*esz))) a.tmps.toList:=by
  have h1:=(ht.mono F1.toMono).set i hv3;have:a.tmps.toList.set i v=a.tmps.toList:=set_self (by simpa using hv1)
  rw[this]at h1;exact h1
 have:=hx N _ St w a ro R1 (hg.mono F1.toMono) (hr.mono F1.toMono) ht2;exact Post.zK4 (ms:=[]) l1 (.nil _ _ _) rfl this
theorem Rel.xQp{N:Nat}{φ:Phi}{St:Stab}{w:World}{b r base size p:Nat}(R:Rel N φ St H w)(hφ:φ b=some (.own r base size))(hp:p≤size):
  Rel N ((φ.put b .dead).put H.length (.tail r p 0 size)) St (H.set b .dead++[.tail 0]) w∧Frm H.length φ St w ((φ.put b .dead).put H.length (.tail r p 0 size)) St w:=by
 obtain⟨R1,F1⟩:=R.kill hφ;have hlen:(H.set b HObj.dead).length=H.length:=by simp
 have hno:∀b' e',(φ.put b .dead) b'=some e'→¬e'.has r:=by
  intro b' e' hb' he;by_cases hbb:b'=b
  ·subst hbb;rw[zQg]at hb';simp at hb';subst hb';simp[Ent.has]at he
  ·rw[zQc _ _ _ _ hbb]at hb';exact hbb (R.inj b' b e' _ r hb' hφ he rfl)
 obtain⟨hN,cs,arr,elem,hcs,hw,hsz,hin,hvals⟩:=R.own b r base size hφ;have hn:=R1.yJn;rw[hlen]at hn;have m:Mono (φ.put b .dead) St w ((φ.put b .dead).put H.length (.tail r p 0 size)) St w:=by
  refine⟨fun b'=>?_,fun _ _ hs=>hs,fun _ _ _=>rfl⟩
  by_cases hb:b'=H.length
  ·subst hb;rw[hn];exact .fresh _
  ·rw[zQc _ _ _ _ hb];exact .refl _
 refine⟨R1.change H.length (.tail r p 0 size) (.tail 0) St (H.set b .dead++[.tail 0]) w m (Qe _) (by simp) (by simp)
  (fun b' e hne hb'=>by rw[Qb (R1.dom b' e hb')]) (fun _ _ _ _ _ _=>rfl) R1.stLt (fun _ _ hs=>.inl hs)
  (fun r' he b' e _ hb' hk=>by simp[Ent.has]at he;subst he;exact hno b' e hb' hk) ?_, ?_⟩
 ·exact⟨hN,rfl,hp,⟨arr,elem,hw,hsz⟩,fun j hs=>absurd hs (R.stOwn b r base size j hφ)⟩
 ·refine{toMono:=F1.toMono.trans m,size:=Qe _,stNew:=fun _ _ hs=> .inl hs,blkNew:= ?_,keepBlk:=fun _ _ _=>rfl,idNew:= ?_,os:=rfl,output:=rfl,tape:=rfl}
  ·intro b' e r' hb' he
   by_cases hbk:b'=H.length
   ·subst hbk;rw[zQg]at hb';simp at hb';subst hb';simp[Ent.has]at he;subst he;exact .inl ⟨b,_,hφ,rfl⟩
   ·rw[zQc _ _ _ _ hbk]at hb';exact F1.blkNew b' e r' hb' he
  ·intro b' hb' hn'
   rw[zQc _ _ _ _ (by omega)];exact F1.idNew b' hb' hn'
theorem zQj.tokenS{i esz b off cap:Nat}{ex:Bool}(hi:T[i]?=some (.sref esz b off 0 cap ex))(hl:live H b=true)(hx:zQj P c rd x (T.set i (.slice esz [] (some H.length) false)) (H.set b .dead++[.tail 0]) out T' H'):zQj P c rd x T H out T' H':=by
 intro N φ St w a ro R hg hr ht;obtain⟨v,hv1,hv2⟩:=ht.get i _ hi;obtain⟨r,base,size,rcap,hφ,rfl,k1,k2,k3,k4⟩:=zQn R hv2 hl;obtain⟨R1,F1⟩:=R.xQp (p:=base+off) hφ (by omega)
 have hbl:=R.dom b _ hφ;have l1:Left N φ St H w (H.set b .dead++[.tail 0]) ((φ.put b .dead).put H.length (.tail r (base+off) 0 size)) St w:=
  ⟨R1,F1,(Keep.set (by rw[hφ];simp) _).append' _⟩
 have hv3:VR ((φ.put b .dead).put H.length (.tail r (base+off) 0 size)) St w (.slice esz [] (some H.length) false) (.slice (some ⟨r,base+off,none⟩) 0 rcap):=by
  refine .slice esz [] (some H.length) false (some ⟨r,base+off,none⟩) rcap [] (.inl rfl) .nil (by simp) (Jd _) (by simp) ?_
  refine⟨by rw[zQg];simp,by rw[zQg];simp,fun r0 used0 u0 size0 he=>?_⟩
  rw[zQg]at he;simp at he;obtain⟨rfl,rfl,rfl,rfl⟩:=he;exact⟨Qe _,fun _=>⟨_,rfl,rfl,rfl,by simp,k4⟩⟩
 have ht2:VRL ((φ.put b .dead).put H.length (.tail r (base+off) 0 size)) St w (T.set i (.slice esz [] (some H.length) false)) a.tmps.toList:=by
  have h1:=(ht.mono F1.toMono).set i hv3;have:a.tmps.toList.set i (.slice (some ⟨r,base+off,none⟩) 0 rcap)=a.tmps.toList:=set_self (by simpa using hv1)
  rw[this]at h1;exact h1
 have:=hx N _ St w a ro R1 (hg.mono F1.toMono) (hr.mono F1.toMono) ht2;exact Post.zK4 (ms:=[]) l1 (.nil _ _ _) rfl this
def yK7(T:List CV)(H:Heap)(k:Nat):Prop:=
 (∃off,CV.ptr k off∈T)∨(∃f xs ys off,CV.func f xs ys∈T∧CV.ptr k off∈ys)∨∃l f ts ps a b st pend off,CV.yield l∈T∧H[l]?=some (.loop f ts ps a b st pend)∧CV.ptr k off∈ts
theorem VRL.mem{φ:Phi}{St:Stab}{w:World}{cs:List CV}{vs:List Value}(h:VRL φ St w cs vs){c:CV}(hm:c∈cs):∃v,VR φ St w c v:=by
 induction cs generalizing vs with
 |nil=>simp at hm
 |cons x cs ih=>
  cases h with|cons _ v _ vs h hs=>
  rcases Jm.1 hm with rfl|hm
  ·exact⟨v,h⟩
  ·exact ih hs hm
theorem yQ5{N:Nat}{φ:Phi}{St:Stab}{H:Heap}{w:World}(R:Rel N φ St H w){T:List CV}{us:List Value}(ht:VRL φ St w T us){k:Nat}(hk:yK7 T H k):φ k≠none:=by
 rcases hk with⟨off,h⟩|⟨f,xs,ys,off,h,h2⟩|⟨l,f,ts,ps,a,b,st,pend,off,h,h2,h3⟩
 ·obtain⟨v,hv⟩:=ht.mem h
  exact vWp hv
 ·obtain⟨v,hv⟩:=ht.mem h
  cases hv with|func _ _ _ us vs hu hv=>
  obtain⟨v,hv⟩:=hv.mem h2;exact vWp hv
 ·obtain⟨v,hv⟩:=ht.mem h
  have hobj:∃r,φ l=some (.obj r):=by
   cases hv with
   |yield _ r hr=>exact⟨r,hr⟩
   |yieldDead _ r hr=>have:=R.dead l hr;rw[h2]at this;simp at this
  obtain⟨r,hr⟩:=hobj;obtain⟨g,dr,tv,_,htv,_⟩:=yJr R h2 hr;obtain⟨v,hv⟩:=htv.mem h3;exact vWp hv
theorem zZe{N:Nat}{φ:Phi}{St:Stab}{H:Heap}{w:World}(R:Rel N φ St H w){k:Nat}{cs:List CV}(hk:H[k]?=some (.cells cs))(hn:φ k≠none):∃r base size,φ k=some (.own r base size):=by
 cases he:φ k with
 |none=>exact absurd he hn
 | some e=>
  cases e with
  |own r base size=>exact⟨r,base,size,rfl⟩
  |tail r used u size=>have:=(R.tail k r used u size he).2.1;rw[hk]at this;simp at this
  |obj r=>
   obtain⟨_,o,O,h1,_,h3⟩:=R.obj k r he;rw[hk]at h1;simp at h1;subst h1;cases h3
  |rows rs=>obtain⟨css,h1,_⟩:=R.rows k rs he;rw[hk]at h1;simp at h1
  |void u=>have:=(R.void k u he).1;rw[hk]at this;simp at this
  |dead=>have:=R.dead k he;rw[hk]at this;simp at this
theorem zQj.vKb{k j esz:Nat}{cs:List CV}(hk:H[k]? =some (.cells cs))(hj:cs[j]? =some (.slice 0 [] none true))(hkn:yK7 T H k)
  (hx:zQj P c rd x T (H.set k (HObj.cells (cs.set j (.slice esz [] none false)))) out T' H'):zQj P c rd x T H out T' H':=by
 intro N φ St w a ro R hg hr ht;obtain⟨r,base,size,hφ⟩:=zZe R hk (yQ5 R ht hkn);have R2:Rel N φ St (H.set k (HObj.cells (cs.set j (.slice esz [] none false)))) w:=by
  refine R.setCell hk hφ fun arr elem v hw hv=>?_
  obtain⟨_,cs0,arr0,elem0,h2,h3,_,_,h6⟩:=R.own k r base size hφ;rw[hk]at h2;simp at h2;subst h2;rw[hw]at h3;simp only[Qa,Obj.cells.injEq]at h3;obtain⟨rfl,_⟩:=h3
  obtain⟨v',e1,e2⟩:=h6 j _ hj;rw[hv]at e1;simp at e1;subst e1;exact CW.nsl esz _ _ _ _ e2
 have l1:Left N φ St H w (H.set k (HObj.cells (cs.set j (.slice esz [] none false)))) φ St w:=
  ⟨R2,Frm.refl _ _ _ _,by simp,fun b' hb' hn=>by rw[Qd (by rintro rfl;rw[hφ]at hn;simp at hn)]⟩
 exact Post.zK4 (ms:=[]) l1 (.nil _ _ _) rfl (hx N _ St w a ro R2 hg hr ht)
theorem zQj.vYh{k j esz:Nat}{xs cs:List CV}{cv:CV}(hk:H[k]? =some (.cells cs))(hj:cs[j]? =some cv)(hcv:∃e,cv= .slice e xs none true∧(xs=[]∨e=esz))(hnil:xs=[])(hkn:yK7 T H k)
  (hx:zQj P c rd x T ((H++[HObj.tail xs.length]).set k (HObj.cells (cs.set j (.slice esz xs (some H.length) false)))) out T' H'):zQj P c rd x T H out T' H':=by
 intro N φ St w a ro R hg hr ht;obtain⟨r,base,size,hφ⟩:=zZe R hk (yQ5 R ht hkn);have hlt:k<H.length:=(List.getElem?_eq_some_iff.1 hk).1;obtain⟨R1,F1⟩:=R.xQ6 xs.length (by rw[hnil];rfl)
 have hφ1:(φ.push H.length (.void xs.length)) k=some (.own r base size):=by
  have:k≠H.length:=by omega
  simp[Phi.push,this,hφ]
 obtain⟨e,rfl,he⟩:=hcv;have R2:Rel N (φ.push H.length (.void xs.length)) St ((H++[HObj.tail xs.length]).set k (HObj.cells (cs.set j (.slice esz xs (some H.length) false)))) w:=by
  refine R1.setCell (by rw[Qb hlt];exact hk) hφ1 fun arr elem v hw hv=>?_
  obtain⟨_,cs0,arr0,elem0,h2,h3,_,_,h6⟩:=R.own k r base size hφ;rw[hk]at h2;simp at h2;subst h2;rw[hw]at h3;simp only[Qa,Obj.cells.injEq]at h3;obtain⟨rfl,_⟩:=h3
  obtain⟨v',e1,e2⟩:=h6 j _ hj;rw[hv]at e1;simp at e1;subst e1;cases e2 with|slice _ _ _ _ a cap vs hat hvs hsz hcap hfull htok=>
  have hc0:cap=xs.length:=hfull rfl;subst hc0;refine .slice _ _ _ _ _ _ vs hat (hvs.mono F1.toMono) ?_ (Qe _) (by simp) ?_
  ·rcases he with rfl|rfl
   ·simp
   ·exact hsz
  refine⟨by simp[Phi.push], ?_, ?_⟩
  ·intro u hu;simp[Phi.push]at hu;subst hu;simp
  ·intro r used u size hu;simp[Phi.push]at hu
 have l1:Left N φ St H w ((H++[HObj.tail xs.length]).set k (HObj.cells (cs.set j (.slice esz xs (some H.length) false)))) (φ.push H.length (.void xs.length)) St w:=
  ⟨R2,F1,by simp,fun b' hb' hn=>by
   rw[Qd (by rintro rfl;rw[hφ]at hn;simp at hn),Qb hb']⟩
 have:=hx N _ St w a ro R2 (hg.mono F1.toMono) (hr.mono F1.toMono) (ht.mono F1.toMono);exact Post.zK4 (ms:=[]) l1 (.nil _ _ _) rfl this
theorem zQj.vJo{k j esz:Nat}{cs:List CV}(hk:H[k]? =some (.cells cs))(hj:cs[j]? =some (.slice 0 [] none true))(hkn:yK7 T H k)
  (hx:zQj P c rd x T ((H++[HObj.rows [[]]]).set k (HObj.cells (cs.set j (.gref esz H.length 0 0 0 0)))) out T' H'):zQj P c rd x T H out T' H':=by
 intro N φ St w a ro R hg hr ht;obtain⟨r,base,size,hφ⟩:=zZe R hk (yQ5 R ht hkn);have hlt:k<H.length:=(List.getElem?_eq_some_iff.1 hk).1;obtain⟨R1,F1⟩:=R.yWr 1
 have hφ1:(φ.put H.length (.rows [⟨none,0⟩])) k=some (.own r base size):=by
  rw[zQc _ _ _ _ (by omega)];exact hφ
 have R2:Rel N (φ.put H.length (.rows [⟨none,0⟩])) St ((H++[HObj.rows [[]]]).set k (HObj.cells (cs.set j (.gref esz H.length 0 0 0 0)))) w:=by
  refine R1.setCell (by rw[Qb hlt];exact hk) hφ1 fun arr elem v hw hv=>?_
  obtain⟨_,cs0,arr0,elem0,h2,h3,_,_,h6⟩:=R.own k r base size hφ;rw[hk]at h2;simp at h2;subst h2;rw[hw]at h3;simp only[Qa,Obj.cells.injEq]at h3;obtain⟨rfl,_⟩:=h3
  obtain⟨v',e1,e2⟩:=h6 j _ hj;rw[hv]at e1;simp at e1;subst e1;exact wWv (n:=1) (zQg _ _ _) e2
 have l1:Left N φ St H w ((H++[HObj.rows [[]]]).set k (HObj.cells (cs.set j (.gref esz H.length 0 0 0 0)))) (φ.put H.length (.rows [⟨none,0⟩])) St w:=
  ⟨R2,F1,by simp,fun b' hb' hn=>by
   rw[Qd (by rintro rfl;rw[hφ]at hn;simp at hn),Qb hb']⟩
 have:=hx N _ St w a ro R2 (hg.mono F1.toMono) (hr.mono F1.toMono) (ht.mono F1.toMono);exact Post.zK4 (ms:=[]) l1 (.nil _ _ _) rfl this
theorem zQj.convC{k j esz b off len cap:Nat}{ex:Bool}{cs bs:List CV}(hk:H[k]? =some (.cells cs))(hj:cs[j]? =some (.sref esz b off len cap ex))(hb:H[b]? =some (.cells bs))(hbk:b≠k)(hle:off+len*esz≤bs.length)(hkn:yK7 T H k)
  (hx:zQj P c rd x T ((H.set b .dead++[HObj.rows [(bs.drop off).take (len*esz)]]).set k (HObj.cells (cs.set j (.gref esz H.length 0 0 len (len*esz))))) out T' H'):zQj P c rd x T H out T' H':=by
 intro N φ St w a ro R hg hr ht;obtain⟨r,base,size,hφ⟩:=zZe R hk (yQ5 R ht hkn);have hlt:k<H.length:=(List.getElem?_eq_some_iff.1 hk).1;obtain⟨_,cs0,arr0,elem0,h2,h3,_,_,h6⟩:=R.own k r base size hφ
 rw[hk]at h2;simp at h2;subst h2;obtain⟨v',e1,e2⟩:=h6 j _ hj;obtain⟨r0,base0,size0,rcap,hφ0,_⟩:=zQn R e2 (by unfold live;rw[hb])
 obtain⟨R1,F1⟩:=R.yQx hφ0 hb hle;have hφ1:((φ.put b .dead).put H.length (.rows [⟨some (r0,base0+off,size0-(base0+off)),len*esz⟩])) k=some (.own r base size):=by
  rw[zQc _ _ _ _ (by omega),zQc _ _ _ _ (Jw hbk),hφ]
 have R2:Rel N ((φ.put b .dead).put H.length (.rows [⟨some (r0,base0+off,size0-(base0+off)),len*esz⟩])) St ((H.set b .dead++[HObj.rows [(bs.drop off).take (len*esz)]]).set k (HObj.cells (cs.set j (.gref esz H.length 0 0 len (len*esz))))) w:=by
  refine R1.setCell (by rw[Qb (by simpa using hlt),Qd hbk];exact hk) hφ1 fun arr elem v hw hv=>?_
  rw[hw]at h3;simp only[Qa,Obj.cells.injEq]at h3;obtain⟨rfl,_⟩:=h3;rw[hv]at e1;simp at e1;subst e1;exact xKa hφ0 (zQg _ _ _) e2
 have l1:Left N φ St H w _ _ St w:=
  ⟨R2,F1,by simp,fun b' hb' hn=>by
   rw[Qd (by rintro rfl;rw[hφ]at hn;simp at hn),Qb (by simpa using hb'),Qd (by rintro rfl;rw[hφ0]at hn;simp at hn)]⟩
 have:=hx N _ St w a ro R2 (hg.mono F1.toMono) (hr.mono F1.toMono) (ht.mono F1.toMono);exact Post.zK4 (ms:=[]) l1 (.nil _ _ _) rfl this
theorem zQj.uQe{k j esz b off cap:Nat}{ex:Bool}{cs:List CV}(hk:H[k]? =some (.cells cs))(hj:cs[j]? =some (.sref esz b off 0 cap ex))(hl:live H b=true)(hbk:b≠k)(hkn:yK7 T H k)
  (hx:zQj P c rd x T ((H.set b .dead++[HObj.tail 0]).set k (HObj.cells (cs.set j (.slice esz [] (some H.length) false)))) out T' H'):zQj P c rd x T H out T' H':=by
 intro N φ St w a ro R hg hr ht;obtain⟨r,base,size,hφ⟩:=zZe R hk (yQ5 R ht hkn);have hlt:k<H.length:=(List.getElem?_eq_some_iff.1 hk).1;obtain⟨_,cs0,arr0,elem0,h2,h3,_,_,h6⟩:=R.own k r base size hφ
 rw[hk]at h2;simp at h2;subst h2;obtain⟨v',e1,e2⟩:=h6 j _ hj;obtain⟨r0,base0,size0,rcap,hφ0,rfl,k1,k2,k3,k4⟩:=zQn R e2 hl;obtain⟨R1,F1⟩:=R.xQp (p:=base0+off) hφ0 (by omega)
 have hbl:=R.dom b _ hφ0;have hφ1:((φ.put b .dead).put H.length (.tail r0 (base0+off) 0 size0)) k=some (.own r base size):=by
  rw[zQc _ _ _ _ (by omega),zQc _ _ _ _ (Jw hbk),hφ]
 have R2:Rel N ((φ.put b .dead).put H.length (.tail r0 (base0+off) 0 size0)) St ((H.set b .dead++[HObj.tail 0]).set k (HObj.cells (cs.set j (.slice esz [] (some H.length) false)))) w:=by
  refine R1.setCell (by rw[Qb (by simpa using hlt),Qd hbk];exact hk) hφ1 fun arr elem v hw hv=>?_
  rw[hw]at h3;simp only[Qa,Obj.cells.injEq]at h3;obtain⟨rfl,_⟩:=h3;rw[hv]at e1;simp at e1;subst e1;refine .slice esz [] (some H.length) false (some ⟨r0,base0+off,none⟩) rcap [] (.inl rfl) .nil (by simp) (Jd _) (by simp) ?_
  refine⟨by rw[zQg];simp,by rw[zQg];simp,fun r1 used0 u0 size1 he=>?_⟩
  rw[zQg]at he;simp at he;obtain⟨rfl,rfl,rfl,rfl⟩:=he;exact⟨Qe _,fun _=>⟨_,rfl,rfl,rfl,by simp,k4⟩⟩
 have l1:Left N φ St H w ((H.set b .dead++[HObj.tail 0]).set k (HObj.cells (cs.set j (.slice esz [] (some H.length) false)))) ((φ.put b .dead).put H.length (.tail r0 (base0+off) 0 size0)) St w:=
  ⟨R2,F1,by simp,fun b' hb' hn=>by
   rw[Qd (by rintro rfl;rw[hφ]at hn;simp at hn),Qb (by simpa using hb'),Qd (by rintro rfl;rw[hφ0]at hn;simp at hn)]⟩
 have:=hx N _ St w a ro R2 (hg.mono F1.toMono) (hr.mono F1.toMono) (ht.mono F1.toMono);exact Post.zK4 (ms:=[]) l1 (.nil _ _ _) rfl this
theorem Rel.yJw{N:Nat}{φ:Phi}{St:Stab}{w:World}{k j b r base size esz off len cap:Nat}{ex:Bool}{cs bs ys:List CV}(R:Rel N φ St H w)(hφ:φ k=some (.own r base size))(hk:H[k]? =some (.cells cs))
  (hj:cs[j]?=some (.sref esz b off len cap ex)) (hb:H[b]?=some (.cells bs)) (hbk:b≠k) (hle:off+len*esz≤bs.length) (hys:ys.flatMap CV.flat=(bs.drop off).take (len*esz)) (hyl:ys.length=len) (hsz:∀y∈ys,y.flat.length=esz):
  ∃φ' St',Left N φ St H w ((H.set b .dead).set k (.cells (cs.set j (.slice esz ys none false)))) φ' St' w:=by
 obtain⟨_,cs0,arr0,elem0,h2,h3,_,_,h6⟩:=R.own k r base size hφ;rw[hk]at h2;simp at h2;subst h2;obtain⟨v',e1,e2⟩:=h6 j _ hj;obtain⟨r0,base0,size0,rcap,hφ0,rfl,k1,k2,k3,k4⟩:=zQn R e2 (by simp[live,hb])
 obtain⟨vs,hvs,hvl,hcell⟩:=R.cells hφ0 hb off (len*esz) hle;have hbl:=R.dom b _ hφ0;have hlt:k<H.length:=(List.getElem?_eq_some_iff.1 hk).1;let St':Stab:=fun r1 j1=>St r1 j1∨(r1=r0∧base0+off≤j1∧j1<base0+off+len*esz)
 have m:Mono φ St w (φ.put b .dead) St' w:=by
  refine⟨fun b'=>?_,fun _ _ hs=>.inl hs,fun _ _ _=>rfl⟩
  by_cases hb':b'=b
  ·subst hb';rw[zQg,hφ0];exact .die _
  ·rw[zQc _ _ _ _ hb'];exact .refl _
 have R1:Rel N (φ.put b .dead) St' (H.set b .dead) w:=by
  refine R.change b .dead .dead St' (H.set b .dead) w m (Qe _) (by rw[Qk hbl]) (by simp) (fun b' e hne _=>by rw[Qd (Jw hne)])
   (fun _ _ _ _ _ _=>rfl) ?_ ?_ (fun r hr=>by simp[Ent.has]at hr) rfl
  ·rintro r1 j1 (hs|⟨rfl,_,_⟩)
   ·exact R.stLt _ _ hs
   ·exact(R.lt hφ0 rfl).2
  ·rintro r1 j1 (hs|⟨rfl,_,_⟩)
   ·exact .inl hs
   ·exact .inr fun b' e hne hb' he=>hne (R.inj b' b e _ _ hb' hφ0 he rfl)
 have F1:Frm H.length φ St w (φ.put b .dead) St' w:=by
  refine{toMono:=m,size:=Qe _,stNew:=?_,blkNew:=?_,keepBlk:=fun _ _ _=>rfl,idNew:=?_,os:=rfl,output:=rfl,tape:=rfl}
  ·rintro r1 j1 (hs|⟨rfl,_,_⟩)
   ·exact .inl hs
   ·exact .inr (.inr ⟨b,_,hφ0,rfl⟩)
  ·intro b' e r' hb' he
   by_cases hbb:b'=b
   ·subst hbb;rw[zQg]at hb';simp at hb';subst hb';simp[Ent.has]at he
   ·rw[zQc _ _ _ _ hbb]at hb';exact .inl ⟨b',e,hb',he⟩
  ·intro b' hb' hn
   by_cases hbb:b'=b
   ·subst hbb;rw[hφ0]at hn;simp at hn
   ·rw[zQc _ _ _ _ hbb];exact hn
 have hφ1:(φ.put b .dead) k=some (.own r base size):=by rw[zQc _ _ _ _ (Jw hbk),hφ]
 refine⟨φ.put b .dead,St', ?_,F1,by simp,fun b' hb' hn=>by
  rw[Qd (by rintro rfl;rw[hφ]at hn;simp at hn),Qd (by rintro rfl;rw[hφ0]at hn;simp at hn)]⟩
 refine R1.setCell (by rw[Qd hbk];exact hk) hφ1 fun arr elem v hw hv=>?_
 rw[hw]at h3;simp only[Qa,Obj.cells.injEq]at h3;obtain⟨rfl,_⟩:=h3;rw[hv]at e1;simp at e1;subst e1;have:=VR.slice (φ:=φ.put b .dead) (St:=St') (w:=w) esz ys none false (some ⟨r0,base0+off,none⟩) rcap vs (.inr ⟨_,rfl,rfl,fun k' u hu=>⟨.inr ⟨rfl,by simp, ?_⟩,hcell k' u hu⟩⟩) (by rw[hys];exact hvs.mono m) hsz (by rw[hyl];omega) (by simp) trivial
 ·rw[hyl]at this;exact this
 ·have h1:=(List.getElem?_eq_some_iff.1 hu).1
  simp only;omega
theorem zQj.yJw{k j b esz off len cap:Nat}{ex:Bool}{cs bs ys:List CV}(hkn:yK7 T H k)(hk:H[k]? =some (.cells cs))
  (hj:cs[j]?=some (.sref esz b off len cap ex)) (hb:H[b]?=some (.cells bs)) (hbk:b≠k) (hle:off+len*esz≤bs.length) (hys:ys.flatMap CV.flat=(bs.drop off).take (len*esz)) (hyl:ys.length=len) (hsz:∀y∈ys,y.flat.length=esz)
  (hx:zQj P c rd x T ((H.set b .dead).set k (.cells (cs.set j (.slice esz ys none false)))) out T' H'):zQj P c rd x T H out T' H':=by
 intro N φ St w a ro R hg hr ht;obtain⟨r,base,size,hφ⟩:=zZe R hk (yQ5 R ht hkn);obtain⟨φ2,St2,l2⟩:=R.yJw hφ hk hj hb hbk hle hys hyl hsz;have:=hx N φ2 St2 w a ro l2.rel (hg.mono l2.frm.toMono) (hr.mono l2.frm.toMono) (ht.mono l2.frm.toMono)
 exact Post.zK4 (ms:=[]) l2 (.nil _ _ _) rfl this
theorem zQm.yJw{k j b esz off len cap:Nat}{ex:Bool}{cs bs ys:List CV}{out:Out}(ho:out= .normal∨out= .ret)(hx:zQm P c rd x T H out T' H')(hkn:yK7 T' H' k)(hk:H'[k]? =some (.cells cs))
  (hj:cs[j]?=some (.sref esz b off len cap ex)) (hb:H'[b]?=some (.cells bs)) (hbk:b≠k) (hle:off+len*esz≤bs.length) (hys:ys.flatMap CV.flat=(bs.drop off).take (len*esz)) (hyl:ys.length=len) (hsz:∀y∈ys,y.flat.length=esz):
  zQm P c rd x T H out T' ((H'.set b .dead).set k (.cells (cs.set j (.slice esz ys none false)))):=by
 intro N φ St w a ro R hg hr ht;refine wpIn_mono (hx N φ St w a ro R hg hr ht) fun e a1 w1 p=>?_
 obtain⟨φ1,St1,l1,ms,hm,o⟩:=p;have key:VRL φ1 St1 w1 T' a1.tmps.toList→∃φ2 St2,Left N φ1 St1 H' w1 ((H'.set b .dead).set k (.cells (cs.set j (.slice esz ys none false)))) φ2 St2 w1:=by
  intro ht1;obtain⟨r,base,size,hφ⟩:=zZe l1.rel hk (yQ5 l1.rel ht1 hkn);exact l1.rel.yJw hφ hk hj hb hbk hle hys hyl hsz
 rcases ho with rfl|rfl<;>cases e<;>simp only[yZf]at o
 all_goals
  obtain⟨ht1,hd1⟩:=o;obtain⟨φ2,St2,l2⟩:=key ht1;exact⟨φ2,St2,l1.trans l2,ms,hm.step l2.frm,ht1.mono l2.frm.toMono,hd1⟩
end
end Go.Eng
/- A loop's head: what is laid there. -/
namespace Go.Eng
set_option linter.unusedVariables false
theorem xJk(x:Item)(d:x.D)(p:List VV×zQa):(x.put d p).1.length=p.1.length∧(x.put d p).2.length=p.2.length:=by
 cases x<;>simp[Item.put]
theorem xWn:∀(xs:List Item) (d:Items xs) (p:List VV×zQa),(Items.put xs d p).1.length=p.1.length∧(Items.put xs d p).2.length=p.2.length
 |[],_,p=>⟨rfl,rfl⟩
 |[x],d,p=>xJk x d p
 |x::y::xs,d,p=>by
  have h1:=xJk x d.1 p;have h2:=xWn (y::xs) d.2 (x.put d.1 p);simp only[Items.put];omega
theorem xWo(x:Item)(d:x.D)(p:List VV×zQa){i:Nat}(h:i∉x.slots):(x.put d p).1[i]?=p.1[i]?:=by
 cases x<;>simp only[Item.put];rename_i j s;simp[Item.slots]at h;exact Qd (Jw h)
theorem xZv:∀(xs:List Item) (d:Items xs) (p:List VV×zQa) {i:Nat},i∉xs.flatMap Item.slots→(Items.put xs d p).1[i]? =p.1[i]?
 |[],_,p,i,h=>rfl
 |[x],d,p,i,h=>xWo x d p (by simpa using h)
 |x::y::xs,d,p,i,h=>by
  simp only[Qo,Qy,not_or]at h;simp only[Items.put];rw[xZv (y::xs) d.2 _ (by simp only[Qo,Qy,not_or];exact h.2),xWo x d.1 p h.1]
theorem xJl(x:Item)(d:x.D)(p:List VV×zQa){b:Nat}(h:b∉x.blks):(x.put d p).2[b]?=p.2[b]?:=by
 cases x<;>simp only[Item.put]<;>simp[Item.blks]at h<;>exact Qd (Jw h)
theorem wQy:∀(xs:List Item) (d:Items xs) (p:List VV×zQa) {b:Nat},b∉xs.flatMap Item.blks→(Items.put xs d p).2[b]? =p.2[b]?
 |[],_,p,i,h=>rfl
 |[x],d,p,i,h=>xJl x d p (by simpa using h)
 |x::y::xs,d,p,i,h=>by
  simp only[Qo,Qy,not_or]at h;simp only[Items.put];rw[wQy (y::xs) d.2 _ (by simp only[Qo,Qy,not_or];exact h.2),xJl x d.1 p h.1]
theorem zJ0:∀(l:List Nat) (t:List VV),(zZ2 l t).length=t.length
 |[],t=>rfl
 |i::l,t=>by simp only[zZ2];rw[zJ0 l];simp
theorem zKt:∀(l:List Nat) (t:List VV) {i:Nat},i∉l→(zZ2 l t)[i]? =t[i]?
 |[],t,i,h=>rfl
 |j::l,t,i,h=>by
  simp only[Jm,not_or]at h;simp only[zZ2];rw[zKt l _ h.2,Qd (Jw h.1)]
theorem xWm:∀(l:List Nat) (t:List VV) {i:Nat} {v:VV},i∈l→(zZ2 l t)[i]? =some v→v= .junk
 | j::l,t,i,v,h,hv=>by
  simp only[zZ2]at hv;by_cases hl:i∈l
  ·exact xWm l _ hl hv
  ·rcases Jm.1 h with rfl|h
   ·rw[zKt l _ hl]at hv
    by_cases hi:i<t.length
    ·rw[Qk hi]at hv;simpa using hv.symm
    ·rw[J2 (by simp;omega)]at hv;simp at hv
   ·exact absurd h hl
theorem xQn:∀(l:List (Nat×Nat)) (t:List VV) (g h:zQa),(zJb l t g h).length=h.length
 |[],t,g,h=>rfl
 |(b,i)::l,t,g,h=>by
  simp only[zJb];split
  ·rw[xQn l];simp
  ·exact xQn l t g h
theorem xQo:∀(l:List (Nat×Nat)) (t:List VV) (g h:zQa) {b:Nat},b∉l.map (·.1)→(zJb l t g h)[b]? =h[b]?
 |[],t,g,h,b,hb=>rfl
 |(b',i)::l,t,g,h,b,hb=>by
  simp only[Qg,Jm,not_or]at hb;simp only[zJb];split
  ·rw[xQo l t g _ hb.2,Qd (Jw hb.1)]
  ·exact xQo l t g h hb.2
def xXg(t' T:List VV)(S:List Nat):Prop:=∀(i:Nat) (v v':VV),i∉S→t'[i]?=some v→T[i]?=some v'→CW v.cv v'.cv
def yZ4(n:Nat)(h' H:zQa)(B:List Nat):Prop:=∀b,b<n→b∉B→(h'[b]?).map VObj.ho=(H[b]?).map VObj.ho
theorem wQz{x:Item}{t':List VV}{h':zQa}{d:x.D}(hg:x.get t' h'=some d){p:List VV×zQa}{S:List Nat}(hw:xXg t' p.1 (x.slots++S)):xXg t' (x.put d p).1 S:=by
 intro i v v' hi hv hv';by_cases hx:i∈x.slots
 ·cases x<;>simp[Item.slots]at hx
  subst hx;rename_i s;simp only[Item.get,hv]at hg;simp only[Item.put]at hv';have hl:i<p.1.length:=by
   have:=(List.getElem?_eq_some_iff.1 hv').1;simpa using this
  rw[Qk hl]at hv';simp at hv';subst hv';exact SK.get_cw hg
 ·rw[xWo x d p hx]at hv'
  exact hw i v v' (by simp[hx,hi]) hv hv'
theorem xZu:∀(xs:List Item) {t':List VV} {h':zQa} {d:Items xs} (hg:Items.get xs t' h'=some d) {p:List VV×zQa} {S:List Nat},xXg t' p.1 (xs.flatMap Item.slots++S)→xXg t' (Items.put xs d p).1 S
 |[],t',h',d,hg,p,S,hw=>by simp only[Items.put];simpa using hw
 |[x],t',h',d,hg,p,S,hw=>wQz hg (by simpa using hw)
 |x::y::xs,t',h',d,hg,p,S,hw=>by
  simp only[Items.get]at hg;split at hg<;>simp at hg;rename_i d1 d2 h1 h2;subst hg;simp only[Items.put];refine xZu (y::xs) h2 (wQz h1 ?_);simpa[Qo,Jn]using hw
theorem wQ0{n:Nat}{x:Item}{t':List VV}{h':zQa}{d:x.D}(hg:x.get t' h'=some d){p:List VV×zQa}(hn:n≤p.2.length){B:List Nat}(hw:yZ4 n h' p.2 (x.blks++B)):yZ4 n h' (x.put d p).2 B:=by
 intro b hbn hb;by_cases hx:b∈x.blks
 ·cases x<;>simp[Item.blks]at hx
  ·subst hx
   rename_i l;simp only[Item.get]at hg;split at hg<;>(try (simp at hg;done))
   rename_i vs hvs;simp only[Item.put];rw[Qk (by omega),hvs]
   simp only[Ju,VObj.ho,SKs.xWu hg]
  ·subst hx
   rename_i c;simp only[Item.get]at hg;split at hg<;>(try (simp at hg;done))
   rename_i c' ds hvs;split at hg<;>simp at hg;rename_i hk;subst hk;subst hg;simp only[Item.put];rw[Qk (by omega),hvs]
  ·subst hx
   rename_i c;simp only[Item.get]at hg;split at hg<;>(try (simp at hg;done))
   rename_i c' ds hvs;split at hg<;>simp at hg;rename_i hk;subst hk;subst hg;simp only[Item.put];rw[Qk (by omega),hvs]
  ·subst hx
   rename_i k1 k2;simp only[Item.get]at hg;split at hg<;>(try (simp at hg;done))
   rename_i j1 j2 es hvs;split at hg<;>simp at hg;rename_i hk;obtain⟨rfl,rfl⟩:=hk;subst hg;simp only[Item.put];rw[Qk (by omega),hvs]
 ·rw[xJl x d p hx]
  exact hw b hbn (by simp[hx,hb])
theorem xZw{n:Nat}:∀(xs:List Item) {t':List VV} {h':zQa} {d:Items xs} (hg:Items.get xs t' h'=some d) {p:List VV×zQa} (hn:n≤p.2.length) {B:List Nat},yZ4 n h' p.2 (xs.flatMap Item.blks++B)→yZ4 n h' (Items.put xs d p).2 B
 |[],t',h',d,hg,p,hn,S,hw=>by simp only[Items.put];simpa using hw
 |[x],t',h',d,hg,p,hn,S,hw=>wQ0 hg hn (by simpa using hw)
 |x::y::xs,t',h',d,hg,p,hn,S,hw=>by
  simp only[Items.get]at hg;split at hg<;>simp at hg;rename_i d1 d2 h1 h2;subst hg;simp only[Items.put];refine xZw (y::xs) h2 (by rw[(xJk x _ p).2];exact hn) (wQ0 h1 hn ?_)
  simpa[Qo,Jn]using hw
theorem xX8{β:Type}{n:Nat}{r:β}:∀(l:List (Nat×Nat)) {t:List VV} {g h' H:zQa} {B:List Nat} {K:Option β},yWl l t g h' K=some r→n≤H.length→yZ4 n h' H (l.map (·.1)++B)→K=some r∧yZ4 n h' (zJb l t g H) B
 |[],t,g,h',H,B,K,hk,hn,hw=>⟨hk,by simp only[zJb];simpa using hw⟩
 | (b,i)::l,t,g,h',H,B,K,hk,hn,hw=>by
  simp only[yWl]at hk;split at hk<;>(try (simp at hk;done))
  rename_i c ds tok full u hti hhb;split at hk<;>(try (simp at hk;done))
  rename_i hu;replace hu:u=ds.length:=hu;simp only[zJb,hti];refine xX8 l hk (by simpa using hn) ?_
  intro b' hbn hb';by_cases hbb:b'=b
  ·subst hbb
   rw[Qk (by omega),hhb,hu]
  ·rw[Qd (Jw hbb)]
   exact hw b' hbn (by simp only[Qg,List.cons_append,Jm,not_or];exact⟨hbb,hb'⟩)
section
variable {s:LSpec} {t1:List VV} {h1:zQa}
theorem xJv(d:Items s.items):(s.head t1 h1 d).1.length=t1.length∧(s.head t1 h1 d).2.length=h1.length:=by
 simp only[LSpec.head,LSpec.pre];have h:=xWn s.items d (zZ2 s.junk t1,h1);rw[xQn];exact⟨by rw[h.1];exact zJ0 _ _,h.2⟩
theorem wQ5(d:Items s.items){i:Nat}(hi:i∉s.slots):(s.head t1 h1 d).1[i]?=t1[i]?:=by
 simp only[LSpec.slots,Qy,not_or]at hi;simp only[LSpec.head,LSpec.pre];rw[xZv _ _ _ hi.1];exact zKt _ _ hi.2
theorem wJe(d:Items s.items){b:Nat}(hb:b∉s.blks):(s.head t1 h1 d).2[b]?=h1[b]?:=by
 simp only[LSpec.blks,Qy,not_or]at hb;simp only[LSpec.head,LSpec.pre];rw[xQo _ _ _ _ hb.2,wQy _ _ _ hb.1]
theorem wX4{β:Type}{r:β}{t':List VV}{h':zQa}{d:Items s.items}(hg:Items.get s.items t' h'=some d){K:Option β}(hk:yWl s.tails (s.pre t1 h1 d).1 (s.pre t1 h1 d).2 h' K=some r)
  (hl:t'.length=t1.length) (hs:∀i,i∉s.slots→t'[i]?=t1[i]?) (hn:h1.length≤h'.length) (hb:∀b,b<h1.length→b∉s.blks→h'[b]?=h1[b]?):
  K=some r∧CWs (t'.map VV.cv) ((s.head t1 h1 d).1.map VV.cv)∧hc (s.head t1 h1 d).2=(hc h').take h1.length:=by
 have hlen:=xJv (s:=s) (t1:=t1) (h1:=h1) d;have hw:xXg t' (s.head t1 h1 d).1 []:=by
  refine xZu s.items hg ?_;intro i v v' hi hv hv';simp only[Jq]at hi;by_cases hj:i∈s.junk
  ·rw[xWm _ _ hj hv'];exact CW.junk _
  ·have e:=hs i (by simp[LSpec.slots,hi,hj])
   change (zZ2 s.junk t1)[i]?=some v' at hv';rw[zKt _ _ hj,←e,hv]at hv';simp at hv';subst hv';exact CW.refl _
 have hsame:K=some r∧yZ4 h1.length h' (s.head t1 h1 d).2 []:=by
  refine xX8 s.tails hk (by simp only[LSpec.pre];rw[(xWn _ _ _).2];exact Qe _) ?_
  refine xZw (p:=(zZ2 s.junk t1,h1)) s.items hg (Qe _) ?_;intro b hbn hbb;have hbb':b∉s.blks:=by simpa[LSpec.blks]using hbb
  rw[hb b hbn hbb']
 refine⟨hsame.1,⟨by simp[hl,hlen.1], ?_⟩, ?_⟩
 ·intro i c c' hc hc'
  simp only[Qt,J8]at hc hc';obtain⟨v,hv,rfl⟩:=hc;obtain⟨v',hv',rfl⟩:=hc';exact hw i v v' (by simp) hv hv'
 ·apply Jy
  intro b;by_cases hbn:b<h1.length
  ·rw[Ko,Qf hbn,zQ6,zQ6]
   exact(hsame.2 b hbn (by simp)).symm
  ·rw[Ko,Qi hbn,zQ6,J2 (by rw[hlen.2];omega)];rfl
end
theorem yW8{t:List VV}{h:zQa}{k:Nat}(hk:xZt t h k=true):yK7 (t.map VV.cv) (hc h) k:=by
 have ptr:∀{ys:List VV},ys.any (VV.ptrTo k)=true→∃off,CV.ptr k off∈ys.map VV.cv:=by
  intro ys hy;obtain⟨y,hym,hp⟩:=List.any_eq_true.1 hy;unfold VV.ptrTo at hp;split at hp<;>(try (simp at hp;done))
  rename_i b off;simp at hp;subst hp;exact⟨off,Ji.2 ⟨VV.ptr b off,hym,rfl⟩⟩
 unfold xZt at hk;obtain⟨v,hv,hp⟩:=List.any_eq_true.1 hk;split at hp<;>(try (simp at hp;done))
 ·rename_i b off
  simp at hp;subst hp;exact .inl ⟨off,Ji.2 ⟨VV.ptr b off,hv,rfl⟩⟩
 ·rename_i f xs ys
  obtain⟨off,ho⟩:=ptr hp;exact .inr (.inl ⟨f,VV.cvs xs,VV.cvs ys,off,Ji.2 ⟨VV.func f xs ys,hv,rfl⟩,by rw[VV.zQx];exact ho⟩)
 ·rename_i l
  split at hp<;>(try (simp at hp;done))
  rename_i f ts ps a b st pend hl;obtain⟨off,ho⟩:=ptr hp;exact .inr (.inr ⟨l,f,ts.map VV.cv,ps,a.x,b.x,st,pend,off,Ji.2 ⟨VV.yield l,hv,rfl⟩,by rw[zQ6,hl];rfl,ho⟩)
theorem uQg{P:Program}{c:Cfg}{rd:Option Nat}{x:X}{β:Type}{r:β}{k j:Nat}{c':C}{t:List VV}{h:zQa}{m:List Nat}{K:zQa→List Nat→Option β}{i:Nat}{t':List VV}{h':zQa}{m':List Nat}(he:tokC k j c' t h m K (Z.zZ7 i t' h' m')=some r):
  ∃h1 m1,K h1 m1=some r∧(∀out T' H',zQj P c rd x (t.map VV.cv) (hc h1) out T' H'→zQj P c rd x (t.map VV.cv) (hc h) out T' H')∧zQe m1 h h1∧∀y∈m,y∈m1:=by
 unfold tokC at he;split at he<;>(try (simp at he;done))
 rename_i vs hk;split at he<;>(try (simp at he;done))
 rename_i hkn;have hkn:=yW8 hkn;split at he<;>(try (simp at he;done))
 ·rename_i hv
  refine⟨_,_,he,fun out T' H' hx=>?_, ?_,fun y hy=>Qp _ hy⟩
  ·refine zQj.vYh (k:=k) (j:=j) (esz:=c'.cells) (xs:=[]) (cv:=VV.nsl.cv) (zWm hk) (by simp[hv]) ⟨0,rfl, .inl rfl⟩ rfl hkn ?_
   rw[zQy,zWb]at hx;simpa[VV.cv,zW8,hc,VObj.ho,Jb]using hx
  ·exact((zQe.refl _ _).push _).trans (zQe.set (Jg ..) _) (fun _ h=>h)
 ·rename_i c'' ds hv
  split at he<;>(try (simp at he;done))
  rename_i hz0;refine⟨_,_,he,fun out T' H' hx=>?_, ?_,fun y hy=>Qp _ hy⟩
  ·refine zQj.vYh (k:=k) (j:=j) (esz:=c''.cells) (xs:=ds.map (valC c'')) (cv:=(VV.sl c'' ds none true).cv) (zWm hk) (by simp[hv]) ⟨c''.cells,rfl, .inr rfl⟩ (zZf.2 (Qr.1 hz0)) hkn ?_
   rw[zQy,zWb]at hx;simpa[VV.cv,zW8,hc,VObj.ho,Jb]using hx
  ·exact((zQe.refl _ _).push _).trans (zQe.set (Jg ..) _) (fun _ h=>h)
 ·exact⟨_,_,he,fun _ _ _ hx=>hx,zQe.refl _ _,fun _ h=>h⟩
 ·rename_i b off len cap ex c'' hv
  split at he<;>(try (simp at he;done))
  rename_i hl;simp only[Qc,bne_iff_ne,ne_eq]at hl;split at he<;>(try (simp at he;done))
  rename_i hz;replace hz:len=0:=hz;subst hz;refine⟨_,_,he,fun out T' H' hx=>?_, ?_,fun y hy=>Qp _ (Qp _ hy)⟩
  ·refine zQj.uQe (k:=k) (j:=j) (esz:=c''.cells) (b:=b) (off:=off*c''.cells) (cap:=cap) (ex:=ex) (zWm hk) (by simp[hv,VV.cv]) (by rw[zWf];exact hl.1) hl.2 hkn ?_
   rw[zQy,zWb,zQy]at hx;simpa[VV.cv,zW8,hc,VObj.ho,Jb]using hx
  ·exact((zQe.set (Qp _ (Jg ..)) _).push _).trans (zQe.set (Jg ..) _) (fun _ h=>h)
theorem vJq{P:Program}{c:Cfg}{rd:Option Nat}{x:X}{β:Type}{r:β}{k j:Nat}{t:List VV}{h:zQa}{m:List Nat}{K:zQa→List Nat→Option β}(he:frzC k j t h m K=some r):
  ∃h1 m1,K h1 m1=some r∧(∀out T' H',zQj P c rd x (t.map VV.cv) (hc h1) out T' H'→zQj P c rd x (t.map VV.cv) (hc h) out T' H')∧zQe m1 h h1∧∀y∈m,y∈m1:=by
 have same:K h m=some r→∃h1 m1,K h1 m1=some r∧(∀out T' H',zQj P c rd x (t.map VV.cv) (hc h1) out T' H'→zQj P c rd x (t.map VV.cv) (hc h) out T' H')∧zQe m1 h h1∧∀y∈m,y∈m1:=
  fun hk=>⟨h,m,hk,fun _ _ _ h=>h,zQe.refl _ _,fun _ h=>h⟩
 unfold frzC at he;split at he
 ·rename_i vs hk
  split at he
  ·rename_i hkn
   have hkn:=yW8 hkn;split at he
   ·rename_i b off len cap ex c' hv
    split at he
    ·rename_i hbk
     split at he
     ·rename_i c'' ds hb
      split at he<;>(try (simp at he;done))
      rename_i hcc;subst hcc;split at he<;>(try (simp at he;done))
      rename_i hl;replace hl:off+len≤ds.length:=hl;refine⟨_,_,he,fun out T' H' hx=>?_,(zQe.refl _ _).trans ((zQe.set (m:=k::b::m) (b:=b) (by simp) .dead).trans (zQe.set (m:=k::b::m) (b:=k) (by simp) _) (fun _ h=>h)) (fun _ h=>h),fun y hy=>Qp _ (Qp _ hy)⟩
      have hseg:((vecC c'' ds).drop (off*c''.cells)).take (len*c''.cells)=vecC c'' ((ds.drop off).take len):=by rw[zWh,zWp]
      have hle:off*c''.cells+len*c''.cells≤(vecC c'' ds).length:=by rw[zQp,←Qz];exact Qn _ hl
      refine zQj.yJw (k:=k) (j:=j) (b:=b) (esz:=c''.cells) (off:=off*c''.cells) (len:=len) (cap:=cap) (ex:=ex) (ys:=((ds.drop off).take len).map (valC c'')) hkn (zWm hk) (by rw[Qt,hv];rfl) (zWr hb) hbk hle
       (by rw[hseg,Q6];rfl) (by simp;omega) (fun y hy=>by obtain⟨d,_,rfl⟩:=Ji.1 hy;exact zQt _ _) ?_
      rw[zQy,zQy]at hx;simpa[VV.cv,VObj.ho,Jb]using hx
     ·exact same he
    ·exact same he
   ·exact same he
  ·exact same he
 ·exact same he
theorem vXi:∀(c c2:C) {d:El c} {x:El c2},injO c c2 d=some x→valC c2 x=valC c d:=by
 have plain:∀{c c2:C} {d:El c} {x:El c2},(if h:c=c2 then some (h▸d)else none)=some x→valC c2 x=valC c d:=by
  intro c c2 d x he;split at he<;>(try (simp at he;done))
  rename_i h;subst h;simp at he;subst he;rfl
 intro c;induction c with
 |bool=>intro c2 d x he;exact plain he
 |int k=>intro c2 d x he;exact plain he
 |str=>intro c2 d x he;exact plain he
 |unit=>intro c2 d x he;exact plain he
 |arr n c _=>intro c2 d x he;exact plain he
 |mix b c _=>intro c2 d x he;exact plain he
 |pair a b iha ihb=>
  intro c2 d x he;simp only[injO]at he;split at he<;>(try (simp at he;done))
  split at he<;>(try (simp at he;done))
  rename_i y z h1 h2;simp at he;subst he;simp only[valC,iha _ h1,ihb _ h2]
 | list a _=>
  intro c2 d x he;simp only[injO]at he;split at he
  ·split at he<;>(try (simp at he;done))
   rename_i h;subst h;simp at he;subst he;rfl
  ·split at he<;>(try (simp at he;done))
   rename_i h;subst h;simp at he;subst he;rfl
  ·simp at he
theorem vX7{β:Type}{r:β}{c c2:C}{ds:List (El c)}{K:List (El c2)→Option β}(he:xJ9 c c2 ds K=some r):∃zs,K zs=some r∧zs.map (valC c2)=ds.map (valC c):=by
 unfold xJ9 at he;split at he
 ·rename_i h _
  subst h;exact⟨ds,he,rfl⟩
 ·cases hm:Z.mapO (fun e=>injO c c2 e) ds with
  |none=>rw[hm]at he;simp[Z.bind]at he
  | some zs=>
   rw[hm]at he;simp only[Z.bind,Kc]at he;refine⟨zs,he, ?_⟩;have hm':ds.mapM (fun e=>injO c c2 e)=some zs:=hm
   clear hm he;induction ds generalizing zs with
   |nil=>simp at hm';subst hm';rfl
   |cons d ds ih=>
    simp only[K7,Wq,Kw,Option.pure_def,Qa]at hm';obtain⟨y,h1,ys,h2,rfl⟩:=hm';simp only[Qg,ih ys h2,vXi _ _ h1]
theorem xQe{β:Type}{r:β}{c c2:C}{ds:List (El c)}{K:List (El c2)→Option β}(he:xJ9 c c2 ds K=some r):∃zs,K zs=some r∧vecC c2 zs=vecC c ds∧zs.length=ds.length:=by
 unfold xJ9 at he;split at he
 ·rename_i h _
  subst h;exact⟨ds,he,rfl,rfl⟩
 ·cases hm:Z.mapO (fun e=>injO c c2 e) ds with
  |none=>rw[hm]at he;simp[Z.bind]at he
  | some zs=>
   rw[hm]at he;simp only[Z.bind,Kc]at he;refine⟨zs,he, ?_⟩;have hm':ds.mapM (fun e=>injO c c2 e)=some zs:=hm
   clear hm he;induction ds generalizing zs with
   |nil=>simp at hm';subst hm';exact⟨rfl,rfl⟩
   |cons d ds ih=>
    simp only[K7,Wq,Kw,Option.pure_def,Qa]at hm';obtain⟨y,h1,ys,h2,rfl⟩:=hm';obtain⟨g1,g2⟩:=ih ys h2;refine⟨?_,by simp[g2]⟩
    simp only[vecC,Qo]at g1⊢;rw[g1,vXi _ _ h1]
theorem uQ4{b:Nat}{c2:C}(v:VV):(recV b c2 v).cv=v.cv:=by
 unfold recV;split
 ·split
  ·rename_i h;simp only[VV.cv,h.2]
  ·rfl
 ·rfl
theorem vWh{b:Nat}{c2:C}(o:VObj):(recO b c2 o).ho=o.ho:=by
 unfold recO;split
 ·simp only[VObj.ho,J5]
  congr 1;exact J4 fun v _=>uQ4 v
 ·rfl
theorem vWg{b:Nat}{c2:C}{v:VV}(h:yZw b v=false):recV b c2 v=v:=by
 unfold recV;split
 ·rename_i b' _ _ _ _ _
  have:¬b'=b:=by simpa[yZw]using h
  rw[Qi (fun h=>this h.1)]
 ·rfl
theorem uQ5{P:Program}{c:Cfg}{rd:Option Nat}{x:X}{β:Type}{r:β}{i0:Nat}{c':C}{t:List VV}{h:zQa}{m:List Nat}{K:zQa→List Nat→Option β}{i:Nat}{t':List VV}{h':zQa}{m':List Nat}(he:recS i0 c' t h m K (Z.zZ7 i t' h' m')=some r):
  ∃h1 m1,K h1 m1=some r∧(∀out T' H',zQj P c rd x (t.map VV.cv) (hc h1) out T' H'→zQj P c rd x (t.map VV.cv) (hc h) out T' H')∧zQe m1 h h1∧∀y∈m,y∈m1:=by
 unfold recS at he;split at he<;>(try (simp at he;done))
 ·rename_i b _ _ _ _ _ hv
  rw[yQk]at he;split at he<;>(try (simp at he;done))
  rename_i c'' ds hb;split at he
  ·exact⟨_,_,he,fun _ _ _ hx=>hx,zQe.refl _ _,fun _ h=>h⟩
  split at he<;>(try (simp at he;done))
  obtain⟨zs,he,hz1,_⟩:=xQe he;refine⟨_,_,he,fun out T' H' hx=>?_,⟨by simp,fun k hk hn=>?_⟩,fun y hy=>by simp[hy]⟩
  ·have e:hc ((h.map (recO b (zWo t h c'))).set b (.vec (zWo t h c') zs))=hc h:=by
    apply Jy;intro k;rw[zQ6,zQ6];by_cases hkb:k=b
    ·subst hkb
     have hlt:k<h.length:=(List.getElem?_eq_some_iff.1 hb).1;rw[Qk (by simpa using hlt),hb]
     simp only[Ju,VObj.ho,hz1]
    ·rw[Qd (Jw hkb),Qt]
     cases h[k]? with
     |none=>rfl
     |some o=>simp only[Ju,vWh]
   rw[e]at hx;exact hx
  ·simp only[Jm,Qy,not_or]at hn
   rw[Qd (Jw hn.1),Qt];have hh:k∉wQ3 b h:=hn.2.1;cases ho:h[k]? with
   |none=>rfl
   | some o=>
    simp only[Ju,Qa];cases o with
    | cells vs=>
     simp only[recO];congr 1;have hany:vs.any (yZw b)=false:=by
      cases hq:vs.any (yZw b)with
      |false=>rfl
      |true=>exact absurd (K1.2 ⟨Wm.2 (by simpa using hk),by rw[ho];exact hq⟩) hh
     have:∀v∈vs,recV b (zWo t h c') v=v:=fun v hv=>vWg (by
      have:=Kx.1 hany v hv;simpa using this)
     rw[J4 this];simp
    |_=>rfl
 ·exact⟨_,_,he,fun _ _ _ hx=>hx,zQe.refl _ _,fun _ h=>h⟩
theorem uQf{P:Program}{c:Cfg}{rd:Option Nat}{x:X}{β:Type}{r:β}{i0:Nat}{c':C}{t:List VV}{h:zQa}{m:List Nat}{K:zQa→List Nat→Option β}{i:Nat}{t':List VV}{h':zQa}{m':List Nat}(he:tokW i0 c' t h m K (Z.zZ7 i t' h' m')=some r):
  ∃h1 m1,K h1 m1=some r∧(∀out T' H',zQj P c rd x (t.map VV.cv) (hc h1) out T' H'→zQj P c rd x (t.map VV.cv) (hc h) out T' H')∧zQe m1 h h1∧∀y∈m,y∈m1:=by
 unfold tokW at he;split at he
 ·unfold vJo at he
  split at he<;>(try (simp at he;done))
  rename_i vs hk;split at he<;>(try (simp at he;done))
  rename_i hkn;have hkn:=yW8 hkn;split at he<;>(try (simp at he;done))
  ·rename_i hv
   refine⟨_,_,he,fun out T' H' hx=>?_,((zQe.refl _ _).push _).trans (zQe.set (Jg ..) _) (fun _ h=>h),fun y hy=>Qp _ hy⟩
   refine zQj.vJo (esz:=(zWo t h c').cells) (zWm hk) (by rw[Qt,hv];rfl) hkn ?_
   rw[zQy,zWb]at hx;simpa[VV.cv,valC,mixC,Z.xnew,zW8,hc,VObj.ho,Jb,vecC]using hx
  ·exact⟨_,_,he,fun _ _ _ hx=>hx,zQe.refl _ _,fun _ h=>h⟩
  ·rename_i c1 ds hv
   split at he<;>(try (simp at he;done))
   rename_i hcl;obtain⟨zs,he,hz⟩:=vX7 he;refine⟨_,_,he,fun out T' H' hx=>zQj.uQ9 ?_,((zQe.refl _ _).push _).trans (zQe.set (Jg ..) _) (fun _ h=>h),fun y hy=>Qp _ hy⟩
   rw[zQy,zWb]at hx;have hkl:=(List.getElem?_eq_some_iff.1 hk).1;have e1:(VV.mix h.length (zWo t h c') (Z.zJt zs)).cv=(VV.sl c1 ds none false).cv:=by
    simp only[VV.cv,valC,mixC,hz,hcl]
   have e2:VObj.ho (.cells (vs.set ((i0-7000000) % 1000) (.mix h.length (zWo t h c') (Z.zJt zs))))=HObj.cells (vs.map VV.cv):=by
    simp only[VObj.ho,Jb,e1];rw[←Jb,set_self hv]
   rw[e2]at hx;have e3:(hc h++hc [VObj.rows (zWo t h c') []]).set ((i0-7000000)/1000) (HObj.cells (vs.map VV.cv))=hc h++[HObj.rows []]:=by
    have hk2:(hc h++hc [VObj.rows (zWo t h c') []])[(i0-7000000)/1000]?=some (HObj.cells (vs.map VV.cv)):=by
     rw[Qb (by rw[zW8];exact hkl)];exact zWm hk
    rw[set_self hk2];simp[hc,VObj.ho]
   rw[e3]at hx;exact hx
  ·rename_i b off len cap ex c1 hv
   split at he<;>(try (simp at he;done))
   rename_i hbk;split at he<;>(try (simp at he;done))
   rename_i c'' ds hb;split at he<;>(try (simp at he;done))
   rename_i hcc;obtain⟨rfl,hcl⟩:=hcc;split at he<;>(try (simp at he;done))
   rename_i hl;replace hl:off+len≤ds.length:=hl;obtain⟨zs,he,hz1,hz2⟩:=xQe he;refine⟨_,_,he,fun out T' H' hx=>?_,((zQe.set (Qp _ (Jg ..)) .dead).push _).trans (zQe.set (Jg ..) _) (fun _ h=>h),fun y hy=>Qp _ (Qp _ hy)⟩
   have hseg:((vecC c'' ds).drop (off*c''.cells)).take (len*c''.cells)=vecC c'' (Z.seg ds off len):=by rw[zWh,zWp]
   refine zQj.convC (esz:=c''.cells) (b:=b) (off:=off*c''.cells) (len:=len) (cap:=cap) (ex:=ex) (zWm hk) (by rw[Qt,hv];rfl) (zWr hb) hbk (by rw[zQp,←Qz];exact Qn _ hl) hkn ?_
   rw[hseg,←hz1];rw[zQy,zWb,zQy]at hx;simpa[VV.cv,valC,mixC,Z.xnew,zW8,hc,VObj.ho,Jb,hcl]using hx
 split at he
 ·exact vJq he
 split at he
 ·exact uQ5 he
 split at he
 ·unfold vKb at he
  split at he<;>(try (simp at he;done))
  rename_i vs hk;split at he<;>(try (simp at he;done))
  rename_i hkn;have hkn:=yW8 hkn;split at he<;>(try (simp at he;done))
  ·rename_i hv
   refine⟨_,_,he,fun out T' H' hx=>?_,(zQe.refl _ _).trans (zQe.set (Jg ..) _) (fun _ h=>h),fun y hy=>Qp _ hy⟩
   refine zQj.vKb (esz:=c'.cells) (zWm hk) (by rw[Qt,hv];rfl) hkn ?_
   rw[zQy]at hx;simpa[VV.cv,VObj.ho,Jb]using hx
  ·exact⟨_,_,he,fun _ _ _ hx=>hx,zQe.refl _ _,fun _ h=>h⟩
 ·exact uQg he
theorem rec_hc{h:zQa}{b:Nat}{c2 c'':C}{ds:List (El c'')}{zs:List (El c2)}(hb:h[b]? =some (.vec c'' ds))(hz1:vecC c2 zs=vecC c'' ds):
  hc ((h.map (recO b c2)).set b (.vec c2 zs))=hc h:=by
 apply Jy;intro k;rw[zQ6,zQ6];by_cases hkb:k=b
 ·subst hkb
  have hlt:k<h.length:=(List.getElem?_eq_some_iff.1 hb).1;rw[Qk (by simpa using hlt),hb]
  simp only[Ju,VObj.ho,hz1]
 ·rw[Qd (Jw hkb),Qt]
  cases h[k]? with
  |none=>rfl
  |some o=>simp only[Ju,vWh]
theorem vWf{h:zQa}{b:Nat}{c2:C}{zs:List (El c2)}{m:List Nat}:zQe (b::(wQ3 b h++m)) h ((h.map (recO b c2)).set b (.vec c2 zs)):=by
 refine⟨by simp,fun k hk hn=>?_⟩
 simp only[Jm,Qy,not_or]at hn;rw[Qd (Jw hn.1),Qt];have hh:k∉wQ3 b h:=hn.2.1;cases ho:h[k]? with
 |none=>rfl
 | some o=>
  simp only[Ju,Qa];cases o with
  | cells vs=>
   simp only[recO];congr 1;have hany:vs.any (yZw b)=false:=by
    cases hq:vs.any (yZw b)with
    |false=>rfl
    |true=>exact absurd (K1.2 ⟨Wm.2 (by simpa using hk),by rw[ho];exact hq⟩) hh
   have:∀v∈vs,recV b c2 v=v:=fun v hv=>vWg (by
    have:=Kx.1 hany v hv;simpa using this)
   rw[J4 this];simp
  |_=>rfl
theorem yQv{P:Program}{c:Cfg}{rd:Option Nat}{x:X}{β:Type}{r:β}{id:Nat}:∀(l:List (Nat×C)) {t:List VV} {h:zQa} {m:List Nat} {K:List VV→zQa→List Nat→Option β},zXp id l t h m K=some r→
  ∃t1 h1 m1,K t1 h1 m1=some r∧(∀out T' H',zQj P c rd x (t1.map VV.cv) (hc h1) out T' H'→zQj P c rd x (t.map VV.cv) (hc h) out T' H')∧t1.length=t.length∧zQe m1 h h1∧(∀y∈m,y∈m1)∧∀i,i∉(l.filter fun p=>decide (p.1<2000000)||(decide (8000000≤p.1)&&decide (p.1<9000000))).map (fun p=>if 8000000≤p.1 then p.1-8000000 else p.1)→t1[i]?=t[i]?
 |[],t,h,m,K,he=>⟨t,h,m,he,fun _ _ _ h=>h,rfl,zQe.refl _ _,fun _ h=>h,fun _ _=>rfl⟩
 | (i,c')::l,t,h,m,K,he=>by
  simp only[zXp]at he;have comb:∀(i2:Nat) (v':VV) (h2:zQa) (m2:List Nat),(decide (i<2000000)||(decide (8000000≤i)&&decide (i<9000000)))=true→i2=(if 8000000≤i then i-8000000 else i)→
    (∀out T' H',zQj P c rd x ((t.set i2 v').map VV.cv) (hc h2) out T' H'→zQj P c rd x (t.map VV.cv) (hc h) out T' H')→zQe m2 h h2→(∀y∈m,y∈m2)→
    zXp id l (t.set i2 v') h2 m2 K=some r→
    ∃t1 h1 m1,K t1 h1 m1=some r∧(∀out T' H',zQj P c rd x (t1.map VV.cv) (hc h1) out T' H'→zQj P c rd x (t.map VV.cv) (hc h) out T' H')∧t1.length=t.length∧zQe m1 h h1∧(∀y∈m,y∈m1)∧∀j,j∉(((i,c')::l).filter fun p=>decide (p.1<2000000)||(decide (8000000≤p.1)&&decide (p.1<9000000))).map (fun p=>if 8000000≤p.1 then p.1-8000000 else p.1)→t1[j]?=t[j]?:=by
   intro i2 v' h2 m2 hi3 hi4 hstep hst hm he;obtain⟨t1,h1,m1,k0,k1,k2,k3,k4,k5⟩:=yQv (P:=P) (c:=c) (rd:=rd) (x:=x) l he;refine⟨t1,h1,m1,k0,fun out T' H' hx=>hstep _ _ _ (k1 _ _ _ hx),by rw[k2];simp,hst.trans k3 k4,fun y hy=>k4 y (hm y hy),fun j hj=>?_⟩
   rw[Kq,Qf hi3]at hj;simp only[Qg,Jm,not_or,←hi4]at hj;rw[k5 j hj.2,Qd (Jw hj.1)]
  by_cases hi9:9000000≤i
  ·rw[Qf hi9]at he
   obtain⟨t1,h1,m1,g0,g1,g2,g3,g4,g5⟩:=yQv (P:=P) (c:=c) (rd:=rd) (x:=x) l he;refine⟨t1,h1,m1,g0,fun out T' H' hx=>zQj.uQ9 ?_,g2,((zQe.refl m h).push _).trans g3 g4,g4,fun j hj=>g5 j fun hm=>hj ?_⟩
   ·have:=g1 _ _ _ hx
    rw[zWb]at this;simpa[hc,VObj.ho]using this
   ·rw[Kq]
    split
    ·exact Qp _ hm
    ·exact hm
  rw[Qi hi9]at he;by_cases hi8:8000000≤i
  ·rw[Qf hi8]at he
   split at he<;>(try (simp at he;done))
   ·rename_i hv
    split at he
    ·rename_i q c2 _
     split at he<;>(try (simp at he;done))
     rename_i c3 dss hq;split at he<;>(try (simp at he;done))
     refine comb (i-8000000) _ _ _ (by simp[hi8];omega) (by rw[Qf hi8]) (fun out T' H' hx=>?_) (zQe.set (Jg ..) _) (fun y hy=>Qp _ hy) he
     refine zQj.growIn (i:=i-8000000) (esz:=c3.cells) (q:=q) (css:=dss.map (vecC c3)) (by simp[hv,VV.cv]) (zJn hq) ?_
     rw[Jb,zQy]at hx;simpa[VV.cv,valC,mixC,Z.xnew,VObj.ho,vecC]using hx
    refine comb (i-8000000) _ _ _ (by simp[hi8];omega) (by rw[Qf hi8]) (fun out T' H' hx=>?_) ((zQe.refl _ _).push _) (fun _ h=>h) he
    refine zQj.grow (i:=i-8000000) (esz:=(zWo t h c').cells) (by simp[hv,VV.cv]) ?_
    rw[Jb,zWb]at hx;simpa[VV.cv,valC,mixC,Z.xnew,zW8,hc,VObj.ho,vecC]using hx
   ·rename_i b0 c0 d0 hv
    exact comb (i-8000000) (.mix b0 c0 d0) h m (by simp[hi8];omega) (by rw[Qf hi8]) (fun out T' H' hx=>by rw[set_self hv]at hx;exact hx) (zQe.refl _ _) (fun _ h=>h) (by rw[set_self hv];exact he)
   ·rename_i b off len cap ex c1 hv
    split at he
    ·rw[yQk]at he
     rename_i c2 _;split at he<;>(try (simp at he;done))
     rename_i c'' ds hb;split at he
     ·exact comb (i-8000000) (.sref b off len cap ex c1) h m (by simp[hi8];omega) (by rw[Qf hi8]) (fun out T' H' hx=>by rw[set_self hv]at hx;exact hx) (zQe.refl _ _) (fun _ h=>h) he
     split at he<;>(try (simp at he;done))
     rename_i hcc;obtain⟨zs,he,hz1,hz2⟩:=xQe he;refine comb (i-8000000) _ _ _ (by simp[hi8];omega) (by rw[Qf hi8]) (fun out T' H' hx=>?_) vWf (fun y hy=>by simp[hy]) he
     rw[rec_hc hb hz1]at hx;have e1:(VV.sref b off len cap ex c2).cv=(VV.sref b off len cap ex c1).cv:=by simp only[VV.cv,hcc.2]
     rw[Jb,e1,←Jb,set_self hv]at hx;exact hx
    split at he<;>(try (simp at he;done))
    rename_i c'' ds hb;split at he<;>(try (simp at he;done))
    rename_i hcc;obtain⟨rfl,hcl⟩:=hcc;split at he<;>(try (simp at he;done))
    rename_i hl;replace hl:off+len≤ds.length:=hl;obtain⟨zs,he,hz1,hz2⟩:=xQe he;refine comb (i-8000000) _ _ _ (by simp[hi8];omega) (by rw[Qf hi8]) (fun out T' H' hx=>?_) ((zQe.set (Jg ..) _).push _) (fun y hy=>Qp _ hy) he
    have hseg:((vecC c'' ds).drop (off*c''.cells)).take (len*c''.cells)=vecC c'' (Z.seg ds off len):=by rw[zWh,zWp]
    refine zQj.convS (i:=i-8000000) (esz:=c''.cells) (b:=b) (off:=off*c''.cells) (len:=len) (cap:=cap) (ex:=ex) (by simp[hv,VV.cv]) (zWr hb) (by rw[zQp,←Qz];exact Qn _ hl) ?_
    rw[hseg,←hz1];rw[Jb,zWb,zQy]at hx;simpa[VV.cv,valC,mixC,Z.xnew,zW8,hc,VObj.ho,hcl]using hx
   ·rename_i c0 ds hv
    split at he<;>(try (simp at he;done))
    refine comb (i-8000000) _ _ _ (by simp[hi8];omega) (by rw[Qf hi8]) (fun out T' H' hx=>zQj.uQ9 ?_) ((zQe.refl _ _).push _) (fun _ h=>h) he
    rw[Jb,zWb]at hx;have e1:(VV.mix h.length c0 (Z.zJt ds)).cv=(VV.sl c0 ds none false).cv:=by simp[VV.cv,valC,mixC]
    have e2:(t.map VV.cv).set (i-8000000) (VV.sl c0 ds none false).cv=t.map VV.cv:=by
     rw[←Jb,set_self hv]
    rw[e1,e2]at hx;simpa[hc,VObj.ho]using hx
  rw[Qi hi8]at he;by_cases hi2:2000000≤i
  ·rw[Qf hi2]at he
   obtain⟨h2,m2,k0,k1,k2,k3⟩:=uQf (P:=P) (c:=c) (rd:=rd) (x:=x) he;obtain⟨t1,h1,m1,g0,g1,g2,g3,g4,g5⟩:=yQv (P:=P) (c:=c) (rd:=rd) (x:=x) l k0;refine⟨t1,h1,m1,g0,fun out T' H' hx=>k1 _ _ _ (g1 _ _ _ hx),g2,k2.trans g3 g4,fun y hy=>g4 y (k3 y hy),fun j hj=>g5 j fun hm=>hj ?_⟩
   rw[Kq];split
   ·exact Qp _ hm
   ·exact hm
  rw[Qi hi2]at he;have hi3:(decide (i<2000000)||(decide (8000000≤i)&&decide (i<9000000)))=true:=by simp;omega
  have hi4:i=(if 8000000≤i then i-8000000 else i):=by rw[Qi hi8]
  split at he<;>(try (simp at he;done))
  ·rename_i hv
   refine comb i _ _ _ hi3 hi4 (fun out T' H' hx=>?_) ((zQe.refl _ _).push _) (fun _ h=>h) he
   refine zQj.token (i:=i) (esz:=c'.cells) (xs:=[]) (cv:=VV.nsl.cv) (by simp[hv]) ⟨0,rfl, .inl rfl⟩ rfl ?_
   rw[Jb,zWb]at hx;simpa[VV.cv,zW8,hc,VObj.ho]using hx
  ·rename_i c'' ds hv
   split at he<;>(try (simp at he;done))
   rename_i hz0;refine comb i _ _ _ hi3 hi4 (fun out T' H' hx=>?_) ((zQe.refl _ _).push _) (fun _ h=>h) he
   refine zQj.token (i:=i) (esz:=c''.cells) (xs:=ds.map (valC c'')) (cv:=(VV.sl c'' ds none true).cv) (by simp[hv]) ⟨c''.cells,rfl, .inr rfl⟩ (zZf.2 (Qr.1 hz0)) ?_
   rw[Jb,zWb]at hx;simpa[VV.cv,zW8,hc,VObj.ho]using hx
  ·rename_i c'' ds k hv
   have:=comb i (.sl c'' ds (some k) false) h m hi3 hi4 (fun out T' H' hx=>by rw[set_self hv]at hx;exact hx) (zQe.refl _ _) (fun _ h=>h) (by rw[set_self hv];exact he)
   exact this
  ·rename_i b off len cap ex c'' hv
   split at he<;>(try (simp at he;done))
   rename_i hl;split at he<;>(try (simp at he;done))
   rename_i hz;replace hz:len=0:=hz;subst hz;refine comb i _ _ _ hi3 hi4 (fun out T' H' hx=>?_) ((zQe.set (Jg ..) _).push _) (fun y hy=>Qp _ hy) he
   refine zQj.tokenS (i:=i) (esz:=c''.cells) (b:=b) (off:=off*c''.cells) (cap:=cap) (ex:=ex) (by simp[hv,VV.cv]) (by rw[zWf];exact hl) ?_
   rw[Jb,zWb,zQy]at hx;simpa[VV.cv,zW8,hc,VObj.ho]using hx
theorem uW7{P:Program}{c:Cfg}{rd:Option Nat}{x:X}{β:Type}{r:β}{k j:Nat}{out:Out}(ho:out= .normal∨out= .ret){t:List VV}{h:zQa}{m:List Nat}{K:zQa→List Nat→Option β}(he:frzC k j t h m K=some r):
  ∃h1 m1,K h1 m1=some r∧(∀T H,zQm P c rd x T H out (t.map VV.cv) (hc h)→zQm P c rd x T H out (t.map VV.cv) (hc h1))∧zQe m1 h h1∧∀y∈m,y∈m1:=by
 have same:K h m=some r→∃h1 m1,K h1 m1=some r∧(∀T H,zQm P c rd x T H out (t.map VV.cv) (hc h)→zQm P c rd x T H out (t.map VV.cv) (hc h1))∧zQe m1 h h1∧∀y∈m,y∈m1:=
  fun hk=>⟨h,m,hk,fun _ _ h=>h,zQe.refl _ _,fun _ h=>h⟩
 unfold frzC at he;split at he
 ·rename_i vs hk
  split at he
  ·rename_i hkn
   have hkn:=yW8 hkn;split at he
   ·rename_i b off len cap ex c' hv
    split at he
    ·rename_i hbk
     split at he
     ·rename_i c'' ds hb
      split at he<;>(try (simp at he;done))
      rename_i hcc;subst hcc;split at he<;>(try (simp at he;done))
      rename_i hl;replace hl:off+len≤ds.length:=hl;refine⟨_,_,he,fun T H hx=>?_,(zQe.refl _ _).trans ((zQe.set (m:=k::b::m) (b:=b) (by simp) .dead).trans (zQe.set (m:=k::b::m) (b:=k) (by simp) _) (fun _ h=>h)) (fun _ h=>h),fun y hy=>Qp _ (Qp _ hy)⟩
      have hseg:((vecC c'' ds).drop (off*c''.cells)).take (len*c''.cells)=vecC c'' ((ds.drop off).take len):=by rw[zWh,zWp]
      have hle:off*c''.cells+len*c''.cells≤(vecC c'' ds).length:=by rw[zQp,←Qz];exact Qn _ hl
      have:=zQm.yJw ho (k:=k) (j:=j) (b:=b) (esz:=c''.cells) (off:=off*c''.cells) (len:=len) (cap:=cap) (ex:=ex) (ys:=((ds.drop off).take len).map (valC c'')) hx hkn (zWm hk) (by rw[Qt,hv];rfl) (zWr hb) hbk hle
       (by rw[hseg,Q6];rfl) (by simp;omega) (fun y hy=>by obtain⟨d,_,rfl⟩:=Ji.1 hy;exact zQt _ _)
      rw[zQy,zQy];simpa[VV.cv,VObj.ho,Jb]using this
     ·exact same he
    ·exact same he
   ·exact same he
  ·exact same he
 ·exact same he
theorem wX9{P:Program}{c:Cfg}{rd:Option Nat}{x:X}{β:Type}{r:β}{out:Out}(ho:out= .normal∨out= .ret){t:List VV}{K:zQa→List Nat→Option β}:∀(l:List (Nat×Nat)) {h:zQa} {m:List Nat},frzL l t h m K=some r→
  ∃h1 m1,K h1 m1=some r∧(∀T H,zQm P c rd x T H out (t.map VV.cv) (hc h)→zQm P c rd x T H out (t.map VV.cv) (hc h1))∧zQe m1 h h1∧∀y∈m,y∈m1
 |[],h,m,he=>⟨h,m,he,fun _ _ h=>h,zQe.refl _ _,fun _ h=>h⟩
 |p::l,h,m,he=>by
  obtain⟨h1,m1,k0,k1,k2,k3⟩:=uW7 (P:=P) (c:=c) (rd:=rd) (x:=x) ho he;obtain⟨h2,m2,g0,g1,g2,g3⟩:=wX9 (P:=P) (c:=c) (rd:=rd) (x:=x) ho l k0;exact⟨h2,m2,g0,fun T H hx=>g1 T H (k1 T H hx),k2.trans g2 g3,fun y hy=>g3 y (k3 y hy)⟩
end Go.Eng
/- Calls of functions on plain data. -/
namespace Go.Eng
set_option linter.unusedVariables false
def HI(c:CV):Prop:=∀(φ:Phi) (St:Stab) (w:World) (φ':Phi) (St':Stab) (w':World) (u:Value),VR φ St w c u→VR φ' St' w' c u
def HIs(cs:List CV):Prop:=∀(φ:Phi) (St:Stab) (w:World) (φ':Phi) (St':Stab) (w':World) (us:List Value),VRL φ St w cs us→VRL φ' St' w' cs us
theorem HIs.nil:HIs []:=by intro _ _ _ _ _ _ us h;cases h;exact .nil
theorem HIs.cons{c:CV}{cs:List CV}(h:HI c)(k:HIs cs):HIs (c::cs):=by
 intro φ St w φ' St' w' us hu;cases hu with|cons _ v _ vs h1 h2=>exact .cons _ _ _ _ (h _ _ _ _ _ _ _ h1) (k _ _ _ _ _ _ _ h2)
theorem HIs.append{as bs:List CV}(h:HIs as)(k:HIs bs):HIs (as++bs):=by
 intro φ St w φ' St' w' us hu;have h1:=hu.take as.length;have h2:=hu.drop as.length;simp only[Kz,Ky]at h1 h2;rw[←Ja as.length us];exact(h _ _ _ _ _ _ _ h1).append (k _ _ _ _ _ _ _ h2)
theorem HI.agg{cs:List CV}(h:HIs cs):HI (.agg cs):=by
 intro φ St w φ' St' w' u hu;cases hu with|agg _ vs hv=>exact .agg _ _ (h _ _ _ _ _ _ _ hv)
theorem HI.tuple{cs:List CV}(h:HIs cs):HI (.tuple cs):=by
 intro φ St w φ' St' w' u hu;cases hu with|tuple _ vs hv=>exact .tuple _ _ (h _ _ _ _ _ _ _ hv)
theorem HI.flat{c:CV}(h:HI c)(hk:∀cs,c=.agg cs→HIs cs):HIs c.flat:=by
 cases c with
 |agg cs=>exact hk cs rfl
 |_=>exact HIs.cons h HIs.nil
theorem zWq:∀(c:C) (d:El c),c.scalar=true→HI (valC c d)∧HIs (valC c d).flat
 | .bool,d,_=>by
  have:HI (.bool d):=by intro _ _ _ _ _ _ u h;cases h;exact .bool _
  exact⟨this,HIs.cons this HIs.nil⟩
 | .int k,d,_=>by
  have:HI (.int k d):=by intro _ _ _ _ _ _ u h;cases h;exact .int _ _
  exact⟨this,HIs.cons this HIs.nil⟩
 | .str,d,_=>by
  have:HI (.str d):=by intro _ _ _ _ _ _ u h;cases h with|str _ t ht=>exact .str _ t ht
  exact⟨this,HIs.cons this HIs.nil⟩
 | .list c,d,h=>by simp[C.scalar]at h
 | .unit,d,_=>⟨HI.agg HIs.nil,HIs.nil⟩
 | .pair a b,d,h=>by
  simp only[C.scalar,Qc]at h;have:HIs ((valC a d.1).flat++(valC b d.2).flat):=(zWq a d.1 h.1).2.append (zWq b d.2 h.2).2;exact⟨HI.agg this,this⟩
 | .arr n c,d,h=>by
  simp only[C.scalar]at h;have:∀l:List Nat,HIs (l.flatMap fun i=>(valC c (d.getD i (dfl c))).flat):=by
   intro l;induction l with
   |nil=>exact HIs.nil
   |cons i l ih=>exact(zWq c _ h).2.append ih
  exact⟨HI.agg (this _),this _⟩
theorem yQb:∀(c:C) (d:El c),c.scalar=true→∀x∈(valC c d).flat,HI x
 | .bool,d,_,x,hx=>by simp[valC,CV.flat]at hx;subst hx;exact(zWq .bool d rfl).1
 | .int k,d,_,x,hx=>by simp[valC,CV.flat]at hx;subst hx;exact(zWq (.int k) d rfl).1
 | .str,d,_,x,hx=>by simp[valC,CV.flat]at hx;subst hx;exact(zWq .str d rfl).1
 | .list c,d,h,x,hx=>by simp[C.scalar]at h
 | .unit,d,_,x,hx=>by simp[valC,CV.flat]at hx
 | .pair a b,d,h,x,hx=>by
  simp only[C.scalar,Qc]at h;simp only[valC,flat_agg,Qy]at hx;rcases hx with hx|hx
  ·exact yQb a d.1 h.1 x hx
  ·exact yQb b d.2 h.2 x hx
 | .arr n c,d,h,x,hx=>by
  simp only[C.scalar]at h;simp only[valC,flat_agg,J0]at hx;obtain⟨i,_,hx⟩:=hx;exact yQb c _ h x hx
theorem yJd:∀(cs:List C) (d:Els cs),cs.all C.scalar=true→HIs ((zQ5 cs d).map VV.cv)
 |[],d,_=>HIs.nil
 |[c],d,h=>by
  simp at h;simp only[zQ5,Qg,Q8,zQv];exact HIs.cons (zWq c d h).1 HIs.nil
 |c::e::cs,d,h=>by
  simp only[J7,Qc]at h;simp only[zQ5,Qg,zQv];exact HIs.cons (zWq c d.1 h.1).1 (yJd (e::cs) d.2 (by simpa using h.2))
theorem zXa(vs:List VV):(oneV vs).cv=oneOf (vs.map VV.cv):=by
 match vs with
 |[]=>rfl
 |[v]=>rfl
 |v::u::vs=>simp[oneV,oneOf,VV.cv,VV.zQx]
theorem HI.oneOf{cs:List CV}(h:HIs cs):HI (oneOf cs):=by
 match cs with
 |[]=>exact HI.tuple HIs.nil
 |[c]=>
  intro φ St w φ' St' w' u hu;have:=h φ St w φ' St' w' [u] (.cons _ _ _ _ hu .nil);cases this with|cons _ _ _ _ h1 _=>exact h1
 |c::d::cs=>exact HI.tuple h
theorem zY4:∀(cs:List C) (d:Els cs),cs.all C.pl=true→zQ2 ((zQ5 cs d).map VV.cv)=true
 |[],d,_=>rfl
 |[c],d,h=>by
  simp only[J7,List.all_nil,Bool.and_true]at h;simp[zQ5,zQ2,zQv,zQ8 c d h]
 |c::e::cs,d,h=>by
  rw[J7,Qc]at h;have:=zY4 (e::cs) d.2 h.2;simp only[zQ5,Qg,zQ2,zQv,zQ8 c d.1 h.1,K5]at this⊢;exact this
theorem xZk{cs:List CV}(h:zQ2 cs=true):zWc (oneOf cs)=true:=by
 match cs with
 |[]=>rfl
 |[c]=>simpa[zQ2,oneOf]using h
 |c::d::cs=>simpa[oneOf,zWc]using h
def FR(H:Heap)(c c':CV):Prop:=∀N φ St w u,Rel N φ St H w→VR φ St w c u→VR Phi0 (Froz φ St H) w c' u
def FRs(H:Heap)(cs cs':List CV):Prop:=∀N φ St w us,Rel N φ St H w→VRL φ St w cs us→VRL Phi0 (Froz φ St H) w cs' us
theorem FRs.nil(H:Heap):FRs H [] []:=by intro _ _ _ _ us _ h;cases h;exact .nil
theorem FRs.cons{H:Heap}{c c':CV}{cs cs':List CV}(h:FR H c c')(k:FRs H cs cs'):FRs H (c::cs) (c'::cs'):=by
 intro N φ St w us R hu;cases hu with|cons _ v _ vs h1 h2=>exact .cons _ _ _ _ (h _ _ _ _ _ R h1) (k _ _ _ _ _ R h2)
theorem FR.of_cw{H:Heap}{c c':CV}(h:CW c c')(hp:zWc c'=true):FR H c c':=fun N φ St w u R hu=>(h _ _ _ _ hu).pure Froz.of hp
theorem C.xWp{c:C}(h:c.isL=true):c.cells=1:=by cases c<;>simp[C.isL]at h;rfl
theorem C.vJk{c:C}(h:c.isL=true)(d:El c):(valC c d).flat=[valC c d]:=by cases c<;>simp[C.isL]at h;rfl
theorem xJ3{c:C}:∀{vs:List VV} {ds:List (El c)},deWl c vs=some ds→ds.length=vs.length
 |[],ds,h=>by simp[deWl]at h;subst h;rfl
 |v::vs,ds,h=>by
  simp only[deWl]at h;split at h<;>simp at h;rename_i d ds' h1 h2;subst h;simp[xJ3 h2]
theorem wZh{c:C}:∀{vs:List VV} {ds:List (El c)},deWl c vs=some ds→VW (vs.map VV.cv) (ds.map (valC c))
 |[],ds,h=>by simp[deWl]at h;subst h;exact VW.refl _
 |v::vs,ds,h=>by
  simp only[deWl]at h;split at h<;>simp at h;rename_i d ds' h1 h2;subst h;exact VW.append (as:=[v.cv]) (as':=[valC c d]) (VW.one (yYo h1)) (wZh h2)
theorem xJm{c:C}(h:c.isL=true)(ds:List (El c)):(ds.map (valC c)).flatMap CV.flat=ds.map (valC c):=by
 induction ds with
 |nil=>rfl
 |cons d ds ih=>simp only[Qg,Qo,C.vJk h,ih];rfl
theorem wZ4{c:C}(hp:c.pl=true)(ds:List (El c)):zQ2 (ds.map (valC c))=true:=by
 induction ds with
 |nil=>rfl
 |cons d ds ih=>simp[zQ2,zQ8 c d hp,ih]
theorem zZx{c:C}(hp:c.pl=true)(ds:List (El c)):zQ2 (vecC c ds)=true:=by
 induction ds with
 |nil=>rfl
 |cons d l ih=>simp only[vecC,Qo,zKm,zXf (zQ8 c d hp),K5];exact ih
theorem vW2{h:zQa}{b:Nat}{c c':C}{dss:List (List (El c))}{d:MixE (El c)}{ys:List (El c')}(hb:h[b]? =some (.rows c dss))(hx:d.xok dss=true)(hl:ys.length=(Z.xget dss d).length)(hcl:c.cells=c'.cells)
    (hE:∀N φ St w us,Rel N φ St (hc h) w→VRL φ St w (vecC c (Z.xget dss d)) us→VRL Phi0 (Froz φ St (hc h)) w (vecC c' ys) us):FR (hc h) (VV.mix b c d).cv (valC (.list c') ys):=by
  have hsz:∀y∈ys.map (valC c'),y.flat.length=c'.cells:=by intro x hx;obtain⟨d,_,rfl⟩:=Ji.1 hx;exact zQt c' d
  have hfm:(ys.map (valC c')).flatMap CV.flat=vecC c' ys:=by rw[Q6];rfl
  cases d with
  | data l=>
    intro N φ St w u R hu;have hu':VR φ St w (.slice c.cells (l.map (valC c)) none false) u:=hu;replace hl:ys.length=l.length:=hl;cases hu' with|slice _ _ _ _ a cap vs hat hvs hsz' hcap hfull htok=>
    have hvs':VRL φ St w (vecC c l) vs:=by rw[Q6]at hvs;exact hvs
    have:=VR.slice (φ:=Phi0) (St:=Froz φ St (hc h)) (w:=w) c'.cells (ys.map (valC c')) none false a cap vs
      (hat.imp (fun h => by have:l=[]:=by simpa using h
                            subst this;simpa using hl) fun⟨a',e,h⟩=>⟨a',e,h.more Froz.of⟩) (by rw[hfm];exact hE _ _ _ _ _ R hvs') hsz (by rw[Qh,hl];simpa using hcap) (by simp) trivial
    rw[Qh]at this⊢;rw[←hl];exact this
  | nil=>
    intro N φ St w u R hu;have hy:ys=[]:=Qr.1 hl;subst hy;exact(CW.nsl c'.cells _ _ _ _ hu).pure Froz.of rfl
  | ref k off n gen=>
    simp only[MixE.xok,Qc,decide_eq_true_eq,beq_iff_eq]at hx;obtain⟨q1,q2,q3⟩:=hx;intro N φ St w u R hu;have hG:=zJg hb q1 q2;obtain⟨rs,row,a,cap,hφ,hr,rfl,hcap,ho,hu',hg⟩:=zW9 R hu hG
    obtain⟨css,hb',hk,hcl'⟩:=zJf hG;show VR Phi0 (Froz φ St (hc h)) w (.slice c'.cells (ys.map (valC c')) none false) (.slice a n cap);change ys.length=(((dss.getD k []).drop off).take n).length at hl
    change∀N φ St w us,Rel N φ St (hc h) w→VRL φ St w (vecC c (((dss.getD k []).drop off).take n)) us→VRL Phi0 (Froz φ St (hc h)) w (vecC c' ys) us at hE;generalize hrow:dss.getD k []=ds at *
    have hl2:((ds.drop off).take n).length=n:=by simp;omega
    have hyl:ys.length=n:=by rw[hl,hl2]
    by_cases h0:n=0
    · subst h0
      have hy:ys=[]:=Qr.1 hyl;subst hy;have:=VR.slice (φ:=Phi0) (St:=Froz φ St (hc h)) (w:=w) c'.cells [] none false a cap [] (.inl rfl) .nil (by simp) (Jd _) (by simp) trivial
      simpa using this
    · have hg:GOk row a c.cells (off*c.cells) cap:=by
        rcases hg with h1|h1
        ·omega
        ·exact h1
      unfold GOk at hg;split at hg
      · rename_i rr base lim hbk
        obtain⟨rfl,_⟩:=hg;have hle:off*c.cells+n*c.cells≤(vecC c ds).length:=by rw[zQp,←Qz];exact Qn _ (by omega)
        obtain⟨vs,hvs,hlen,hcell⟩:=ho.cells hbk (off*c.cells) (n*c.cells) hle;have hseg:((vecC c ds).drop (off*c.cells)).take (n*c.cells)=vecC c ((ds.drop off).take n):=by rw[zWh,zWp]
        rw[hseg]at hvs;have hv0:VRL Phi0 (Froz φ St (hc h)) w ((ys.map (valC c')).flatMap CV.flat) vs:=by rw[hfm];exact hE _ _ _ _ _ R hvs
        have:=VR.slice (φ:=Phi0) (St:=Froz φ St (hc h)) (w:=w) c'.cells (ys.map (valC c')) none false (some ⟨rr,base+off*c.cells,none⟩) cap vs
          (.inr ⟨_,rfl,rfl,fun i u hi=>⟨.inr (.inr ⟨b,rs,css,k,row,_,base,lim,hφ,hb',hr,hk,hbk,by simp;omega, ?_⟩),hcell i u hi⟩⟩) hv0
          hsz (by rw[Qh,hyl];omega) (by simp) trivial
        ·rw[Qh,hyl]at this;exact this
        · have hi2:=(List.getElem?_eq_some_iff.1 hi).1
          simp;omega
      · have:0<cap:=by omega
        omega
theorem vYq{h:zQa}{b:Nat}{c:C}{dss:List (List (El c))}{d:MixE (El c)}(hp:c.pl=true)(hb:h[b]? =some (.rows c dss))(hx:d.xok dss=true):
  FR (hc h) (VV.mix b c d).cv (valC (.list c) (Z.xget dss d)):=
 vW2 hb hx rfl rfl fun N φ St w us R hu=>hu.pure Froz.of (zZx hp _)
theorem vK6{h:zQa}{b:Nat}{c c':C}{dss:List (List (El c))}{d:MixE (El c)}{ys:List (El c')}(hb:h[b]?=some (.rows c dss))(hx:d.xok dss=true)(hl:Z.xget dss d=[])(hy:ys=[]):FR (hc h) (VV.mix b c d).cv (valC (.list c') ys):=by
 subst hy;intro N φ St w u R hu;show VR Phi0 (Froz φ St (hc h)) w (.slice c'.cells [] none false) u;cases d with
 |data l=>
  replace hl:l=[]:=hl;subst hl;have hu':VR φ St w (.slice c.cells [] none false) u:=hu;cases hu' with|slice _ _ _ _ a cap vs hat hvs hsz' hcap hfull htok=>
  exact .slice c'.cells [] none false a cap [] (.inl rfl) .nil (by simp) (Jd _) (by simp) trivial
 |nil=>exact(CW.nsl c'.cells _ _ _ _ hu).pure Froz.of rfl
 | ref k off n gen=>
  simp only[MixE.xok,Qc,decide_eq_true_eq,beq_iff_eq]at hx;obtain⟨q1,q2,q3⟩:=hx;obtain⟨rs,row,a,cap,hφ,hr,rfl,hcap,ho,hu',hg⟩:=zW9 R hu (zJg hb q1 q2);have h0:n=0:=by
   have:(((dss.getD k []).drop off).take n).length=0:=by
    have hl':((dss.getD k []).drop off).take n=[]:=hl;rw[hl'];rfl
   rw[Jf,J6]at this;omega
  subst h0;exact .slice c'.cells [] none false a cap [] (.inl rfl) .nil (by simp) (Jd _) (by simp) trivial
theorem mapM_mem{α β:Type}{f:α→Option β}{e:α}:∀{l1 l2:List α} {ys:List β},(l1++e::l2).mapM f=some ys→∃y,f e=some y
 |[],l2,ys,h=>by
  simp only[K2,K7,Wq,Kw]at h;obtain⟨y,h1,_⟩:=h;exact⟨y,h1⟩
 |x::l1,l2,ys,h=>by
  simp only[List.cons_append,K7,Wq,Kw]at h;obtain⟨_,_,zs,h2,_⟩:=h;exact mapM_mem h2
theorem mapM_cells{c c':C}{f:El c→Option (El c')}{T:List CV→List CV→Prop}(hnil:T [] [])(happ:∀a b a' b',T a a'→T b b'→T (a++b) (a'++b'))(hf:∀e y,f e=some y→T (valC c e).flat (valC c' y).flat):
  ∀{l:List (El c)} {ys:List (El c')},l.mapM f=some ys→ys.length=l.length∧T (vecC c l) (vecC c' ys)
 |[],ys,h=>by
  simp at h;subst h;exact⟨rfl,hnil⟩
 |e::l,ys,h=>by
  simp only[K7,Wq,Kw,Option.pure_def,Qa]at h;obtain⟨y,h1,zs,h2,rfl⟩:=h;obtain⟨g1,g2⟩:=mapM_cells hnil happ hf h2;exact⟨by simp[g1],happ _ _ _ _ (hf e y h1) g2⟩
theorem xKb{h:zQa}:∀(c1:C) {c2:C} {γ:Type} {d:El c1} {K:El c2→Option γ} {r:γ},c2.pl=true→yYt h c1 c2 d K=some r→∃x,K x=some r∧c1.cells=c2.cells∧
  ∀N φ St w us,Rel N φ St (hc h) w→VRL φ St w (valC c1 d).flat us→VRL Phi0 (Froz φ St (hc h)) w (valC c2 x).flat us:=by
 have plain:∀{c1 c2:C} {γ:Type} {d:El c1} {K:El c2→Option γ} {r:γ},c2.pl=true→(if hc:c1=c2 then K (hc▸d)else none)=some r→∃x,K x=some r∧c1.cells=c2.cells∧
   ∀N φ St w us,Rel N φ St (hc h) w→VRL φ St w (valC c1 d).flat us→VRL Phi0 (Froz φ St (hc h)) w (valC c2 x).flat us:=by
  intro c1 c2 γ d K r hp he;split at he<;>(try (simp at he;done))
  rename_i hcc;subst hcc;exact⟨d,he,rfl,fun N φ St w us R hu=>hu.pure Froz.of (zXf (zQ8 _ _ hp))⟩
 intro c1;induction c1 with
 |bool=>intro c2 γ d K r hp he;exact plain hp he
 |int k=>intro c2 γ d K r hp he;exact plain hp he
 |str=>intro c2 γ d K r hp he;exact plain hp he
 |unit=>intro c2 γ d K r hp he;exact plain hp he
 |list c _=>intro c2 γ d K r hp he;exact plain hp he
 |arr n c _=>intro c2 γ d K r hp he;exact plain hp he
 |pair a b iha ihb=>
  intro c2 γ d K r hp he;simp only[yYt]at he;split at he<;>(try (simp at he;done))
  simp only[C.pl,Qc]at hp;obtain⟨x,h1,h2,h3⟩:=iha hp.1 he;obtain⟨y,k1,k2,k3⟩:=ihb hp.2 h1;refine⟨(x,y),k1,by simp only[C.cells,h2,k2],fun N φ St w us R hu=>?_⟩
  have hu':VRL φ St w ((valC a d.1).flat++(valC b d.2).flat) us:=hu;have e1:=hu'.take (valC a d.1).flat.length;have e2:=hu'.drop (valC a d.1).flat.length;simp only[Kz,Ky]at e1 e2
  have:=(h3 _ _ _ _ _ R e1).append (k3 _ _ _ _ _ R e2);rw[Ja]at this;exact this
 | mix b c ih=>
  intro c2 γ d K r hp he;simp only[yYt]at he;split at he<;>(try (simp at he;done))
  rename_i c' K;split at he<;>(try (simp at he;done))
  rename_i c'' dss hb;split at he<;>(try (simp at he;done))
  rename_i hcc;subst hcc;split at he<;>(try (simp at he;done))
  rename_i hx;have one:∀{ys:List (El c')},FR (hc h) (VV.mix b c'' d).cv (valC (.list c') ys)→∀N φ St w us,Rel N φ St (hc h) w→VRL φ St w (valC (.mix b c'') d).flat us→VRL Phi0 (Froz φ St (hc h)) w (valC (.list c') ys).flat us:=by
   intro ys hF N φ St w us R hu;rw[show(valC (.mix b c'') d).flat=[valC (.mix b c'') d]from zWd _ _ _ _]at hu
   cases hu with|cons _ u _ us a1 a2=>
   cases a2;exact .cons _ _ _ _ (hF _ _ _ _ _ R a1) .nil
  split at he
  ·rename_i hcc _
   subst hcc;exact⟨_,he,rfl,one (vYq hp hb hx)⟩
  ·cases hm:Z.mapO (fun e=>yYt h c'' c' e some) (Z.xget dss d)with
   |none=>rw[hm]at he;simp[Z.bind]at he
   | some ys=>
    rw[hm]at he;simp only[Z.bind,Kc]at he;have hm':(Z.xget dss d).mapM (fun e=>yYt h c'' c' e some)=some ys:=hm
    obtain⟨g1,g2⟩:=mapM_cells (c:=c'') (c':=c') (T:=fun cs cs'=>∀N φ St w us,Rel N φ St (hc h) w→VRL φ St w cs us→VRL Phi0 (Froz φ St (hc h)) w cs' us) (fun N φ St w us R hu=>by cases hu;exact .nil)
     (fun a b a' b' h1 h2 N φ St w us R hu=>by
      have e1:=hu.take a.length;have e2:=hu.drop a.length;simp only[Kz,Ky]at e1 e2;have:=(h1 _ _ _ _ _ R e1).append (h2 _ _ _ _ _ R e2);rw[Ja]at this;exact this)
     (fun e y hy=>by
      obtain⟨x,k1,k2,k3⟩:=ih (c2:=c') hp hy;simp only[Qa]at k1;subst k1;exact k3) hm'
    refine⟨ys,he,rfl,one ?_⟩;by_cases hne:(Z.xget dss d)=[]
    ·exact vK6 hb hx hne (by rw[hne]at g1;exact Qr.1 g1)
    ·obtain⟨e0,he0⟩:=List.exists_mem_of_ne_nil _ hne
     have hcl:c''.cells=c'.cells:=by
      obtain⟨l1,l2,hl⟩:=List.append_of_mem he0;rw[hl]at hm';obtain⟨y,hy⟩:=mapM_mem hm';obtain⟨x,_,k2,_⟩:=ih (c2:=c') hp hy;exact k2
     exact vW2 hb hx g1 hcl g2
theorem wZj{β:Type}{r:β}{h:zQa}{c:C}{v:VV}{K:El c→Option β}(hp:c.pl=true)(he:deF0 h c v K=some r):∃d,K d=some r∧FR (hc h) v.cv (valC c d)∧(zXw v=false→CW v.cv (valC c d)):=by
 unfold deF0 at he;split at he
 ·rename_i c b off len cap ex c' K
  split at he<;>(try (simp at he;done))
  ·rename_i c'' ds hb
   by_cases h1:c'=c
   rotate_left
   ·rw[Qi h1]at he
    split at he<;>(try (simp at he;done))
    split at he<;>(try (simp at he;done))
    rename_i h2;subst h2;split at he<;>(try (simp at he;done))
    rename_i hle;replace hle:off+len≤ds.length:=hle;cases hm:Z.mapO (fun e=>yYt h c'' c e some) (Z.seg ds off len)with
    |none=>rw[hm]at he;simp[Z.bind]at he
    |some zs=>
    rw[hm]at he;simp only[Z.bind,Kc]at he;have hm':((ds.drop off).take len).mapM (fun e=>yYt h c'' c e some)=some zs:=hm
    refine⟨zs,he, ?_,by simp[zXw]⟩
    obtain⟨g1,g2⟩:=mapM_cells (c:=c'') (c':=c) (T:=fun cs cs'=>∀N φ St w us,Rel N φ St (hc h) w→VRL φ St w cs us→VRL Phi0 (Froz φ St (hc h)) w cs' us) (fun N φ St w us R hu=>by cases hu;exact .nil)
     (fun a b a' b' h1 h2 N φ St w us R hu=>by
      have e1:=hu.take a.length;have e2:=hu.drop a.length;simp only[Kz,Ky]at e1 e2;have:=(h1 _ _ _ _ _ R e1).append (h2 _ _ _ _ _ R e2);rw[Ja]at this;exact this)
     (fun e y hy=>by
      obtain⟨x,k1,k2,k3⟩:=xKb c'' (c2:=c) hp hy;simp only[Qa]at k1;subst k1;exact k3) hm'
    intro N φ St w u R hu;simp only[VV.cv]at hu;obtain⟨rr,base,size,rcap,hφ,rfl,k1,k2,k3,k4⟩:=zQn R hu (by rw[zWf];simp[zKh,hb])
    have hl2:((ds.drop off).take len).length=len:=by simp;omega
    have hzl:zs.length=len:=by rw[g1,hl2]
    by_cases hne:(ds.drop off).take len=[]
    ·have hz0:zs=[]:=by rw[hne]at g1;exact Qr.1 g1
     have h0:len=0:=by rw[←hl2,hne];rfl
     subst hz0;subst h0;exact .slice c.cells [] none false _ _ [] (.inl rfl) .nil (by simp) (by omega) (by simp) trivial
    ·obtain⟨e0,he0⟩:=List.exists_mem_of_ne_nil _ hne
     have hcl:c''.cells=c.cells:=by
      obtain⟨l1,l2,hl⟩:=List.append_of_mem he0;rw[hl]at hm';obtain⟨y,hy⟩:=mapM_mem hm';obtain⟨x,_,k2,_⟩:=xKb c'' (c2:=c) hp hy;exact k2
     have hvl:=zQp c'' ds;have hle2:off*c''.cells+len*c''.cells≤(vecC c'' ds).length:=by rw[hvl,←Qz];exact Qn _ hle
     obtain⟨vs,hvs,hlen,hcell⟩:=R.cells hφ (zWr hb) (off*c''.cells) (len*c''.cells) hle2;have hseg:((vecC c'' ds).drop (off*c''.cells)).take (len*c''.cells)=vecC c'' ((ds.drop off).take len):=by rw[zWh,zWp]
     rw[hseg]at hvs;have hfm:(zs.map (valC c)).flatMap CV.flat=vecC c zs:=by rw[Q6];rfl
     have hv0:VRL Phi0 (Froz φ St (hc h)) w ((zs.map (valC c)).flatMap CV.flat) vs:=by
      rw[hfm];exact g2 _ _ _ _ _ R hvs
     have:=VR.slice (φ:=Phi0) (St:=Froz φ St (hc h)) (w:=w) c.cells (zs.map (valC c)) none false (some ⟨rr,base+off*c''.cells,none⟩) rcap vs
      (.inr ⟨_,rfl,rfl,fun k u hu=>⟨.inr (.inl ⟨b,base,size,vecC c'' ds,hφ,zWr hb,by simp;omega, ?_⟩),hcell k u hu⟩⟩) hv0
      (by intro x hx;obtain⟨d,_,rfl⟩:=Ji.1 hx;exact zQt c d) (by rw[Qh,hzl];omega) (by simp) trivial
     ·rw[Qh,hzl]at this;exact this
     ·have:=(List.getElem?_eq_some_iff.1 hu).1
      simp;omega
   rw[Qf h1]at he;subst h1;split at he<;>(try (simp at he;done))
   rename_i h2;subst h2;split at he<;>(try (simp at he;done))
   rename_i hle;replace hle:off+len≤ds.length:=hle;refine⟨_,he, ?_,by simp[zXw]⟩
   intro N φ St w u R hu;simp only[VV.cv]at hu;obtain⟨rr,base,size,rcap,hφ,rfl,k1,k2,k3,k4⟩:=zQn R hu (by rw[zWf];simp[zKh,hb])
   have hvl:=zQp c'' ds;have hle2:off*c''.cells+len*c''.cells≤(vecC c'' ds).length:=by rw[hvl,←Qz];exact Qn _ hle
   obtain⟨vs,hvs,hlen,hcell⟩:=R.cells hφ (zWr hb) (off*c''.cells) (len*c''.cells) hle2;have hseg:((vecC c'' ds).drop (off*c''.cells)).take (len*c''.cells)=vecC c'' ((ds.drop off).take len):=by rw[zWh,zWp]
   rw[hseg]at hvs;have hl2:(Z.seg ds off len).length=len:=by simp[Z.seg];omega
   have hfm:((Z.seg ds off len).map (valC c'')).flatMap CV.flat=vecC c'' ((ds.drop off).take len):=by rw[Q6];rfl
   have hv0:VRL Phi0 (Froz φ St (hc h)) w (((Z.seg ds off len).map (valC c'')).flatMap CV.flat) vs:=by
    rw[hfm];exact hvs.pure Froz.of (zZx (c:=c'') hp _)
   have:=VR.slice (φ:=Phi0) (St:=Froz φ St (hc h)) (w:=w) c''.cells ((Z.seg ds off len).map (valC c'')) none false (some ⟨rr,base+off*c''.cells,none⟩) rcap vs
    (.inr ⟨_,rfl,rfl,fun k u hu=>⟨.inr (.inl ⟨b,base,size,vecC c'' ds,hφ,zWr hb,by simp;omega, ?_⟩),hcell k u hu⟩⟩) hv0
    (by intro x hx;obtain⟨d,_,rfl⟩:=Ji.1 hx;exact zQt c'' d) (by rw[Qh,hl2];omega) (by simp) trivial
   ·rw[Qh,hl2]at this;exact this
   ·have:=(List.getElem?_eq_some_iff.1 hu).1
    simp;omega
  ·rename_i vs0 hb
   split at he<;>(try (simp at he;done))
   rename_i h1;subst h1;split at he<;>(try (simp at he;done))
   rename_i hL;split at he<;>(try (simp at he;done))
   rename_i hle;split at he<;>(try (simp at he;done))
   rename_i ds hds;refine⟨ds,he, ?_,by simp[zXw]⟩
   intro N φ St w u R hu;simp only[VV.cv,C.xWp hL,Wf]at hu;obtain⟨rr,base,size,rcap,hφ,rfl,k1,k2,k3,k4⟩:=zQn R hu (by rw[zWf];simp[zKh,hb])
   have hlen0:(vs0.map VV.cv).length=vs0.length:=by simp
   obtain⟨vs,hvs,hlen,hcell⟩:=R.cells hφ (zWm hb) off len (by rw[hlen0];exact hle)
   rw[←J9,←J1]at hvs;have hdl:ds.length=len:=by rw[xJ3 hds];simp;omega
   have hv0:VRL Phi0 (Froz φ St (hc h)) w ((ds.map (valC c')).flatMap CV.flat) vs:=by
    rw[xJm hL];exact(wZh hds _ _ _ _ hvs).pure Froz.of (wZ4 (c:=c') hp ds)
   have:=VR.slice (φ:=Phi0) (St:=Froz φ St (hc h)) (w:=w) c'.cells (ds.map (valC c')) none false (some ⟨rr,base+off,none⟩) rcap vs
    (.inr ⟨_,rfl,rfl,fun k u hu=>⟨.inr (.inl ⟨b,base,size,vs0.map VV.cv,hφ,zWm hb,by simp;omega, ?_⟩),hcell k u hu⟩⟩) hv0
    (by intro x hx;obtain⟨d,_,rfl⟩:=Ji.1 hx;exact zQt c' d) (by rw[Qh,hdl];omega) (by simp) trivial
   ·rw[Qh,hdl]at this;exact this
   ·have:=(List.getElem?_eq_some_iff.1 hu).1
    simp;omega
 ·rename_i c b c' d K
  obtain⟨x,h1,_,h3⟩:=xKb (.mix b c') (c2:=.list c) hp he;refine⟨x,h1,fun N φ St w u R hu=>?_,by simp[zXw]⟩
  have:=h3 N φ St w [u] R (by rw[show(valC (.mix b c') d).flat=[valC (.mix b c') d]from zWd _ _ _ _];exact .cons _ _ _ _ hu .nil)
  cases this with|cons _ _ _ _ a1 _=>exact a1
 ·rename_i hns
  split at he<;>(try (simp at he;done))
  rename_i d hd;exact⟨d,he,FR.of_cw (yYo hd) (zQ8 _ _ hp),fun _=>yYo hd⟩
theorem deS_fr{β:Type}{r:β}{h:zQa}:∀{c:C} {vs:List VV} {K:El c→Option β},c.pl=true→deS h c vs K=some r→∃d,K d=some r∧
  ∀N φ St w us,Rel N φ St (hc h) w→VRL φ St w (vs.map VV.cv) us→VRL Phi0 (Froz φ St (hc h)) w (valC c d).flat us:=by
 have plain:∀{c:C} {vs:List VV} {d:El c},c.pl=true→deWs c vs=some d→∀N φ St w us,Rel N φ St (hc h) w→VRL φ St w (vs.map VV.cv) us→VRL Phi0 (Froz φ St (hc h)) w (valC c d).flat us:=by
  intro c vs d hp hd N φ St w us R hu;exact(yZy hd _ _ _ _ hu).pure Froz.of (zXf (zQ8 _ _ hp))
 intro c;induction c with
 |mix b c _=>intro vs K hp;simp[C.pl]at hp
 |unit=>
  intro vs K hp he;simp only[deS]at he;split at he<;>(try (simp at he;done))
  exact⟨(),he,fun N φ St w us R hu=>by cases hu;exact .nil⟩
 |pair a b iha ihb=>
  intro vs K hp he;simp only[deS]at he;simp only[C.pl,Qc]at hp;obtain⟨x,h1,h2⟩:=iha hp.1 he;obtain⟨y,k1,k2⟩:=ihb hp.2 h1;refine⟨(x,y),k1,fun N φ St w us R hu=>?_⟩
  have e1:=h2 N φ St w _ R (by rw[J1];exact hu.take a.cells)
  have e2:=k2 N φ St w _ R (by rw[J9];exact hu.drop a.cells)
  have:=e1.append e2;rw[Ja]at this;exact this
 |list c _=>
  intro vs K hp he;simp only[deS]at he;split at he<;>(try (simp at he;done))
  obtain⟨d,h1,h2,_⟩:=wZj hp he;refine⟨d,h1,fun N φ St w us R hu=>?_⟩
  simp only[Qg,Q8]at hu;cases hu with|cons _ u _ us a b=>
  cases b;exact .cons _ _ _ _ (h2 _ _ _ _ _ R a) .nil
 |bool=>intro vs K hp he;simp only[deS]at he;split at he<;>(try (simp at he;done));rename_i d hd;exact⟨d,he,plain hp hd⟩
 |int k=>intro vs K hp he;simp only[deS]at he;split at he<;>(try (simp at he;done));rename_i d hd;exact⟨d,he,plain hp hd⟩
 |str=>intro vs K hp he;simp only[deS]at he;split at he<;>(try (simp at he;done));rename_i d hd;exact⟨d,he,plain hp hd⟩
 |arr n c _=>intro vs K hp he;simp only[deS]at he;split at he<;>(try (simp at he;done));rename_i d hd;exact⟨d,he,plain hp hd⟩
theorem xW3{β:Type}{r:β}{h:zQa}{c:C}{v:VV}{K:El c→Option β}(he:deF h c v K=some r):∃d,K d=some r∧FR (hc h) v.cv (valC c d)∧(zW1 v=false→CW v.cv (valC c d)):=by
 unfold deF at he;split at he
 ·simp at he
 rename_i hp;split at he
 ·rename_i hag
  obtain⟨d,h1,h2,h3⟩:=wZj hp he;exact⟨d,h1,h2,fun hs=>h3 (by simp[zW1,hag]at hs;exact hs)⟩
 ·rename_i hag
  split at he<;>(try (simp at he;done))
  rename_i a b vs K;obtain⟨d,h1,h2⟩:=deS_fr hp he;refine⟨d,h1,fun N φ St w u R hu=>?_,fun hs=>by simp[zW1,hag]at hs⟩
  simp only[VV.cv,VV.zQx]at hu;cases hu with|agg _ us hus=>
  exact .agg _ _ (h2 _ _ _ _ _ R hus)
theorem yZz{β:Type}{r:β}{h:zQa}:∀{cs:List C} {vs:List VV} {K:Els cs→Option β},deFs h cs vs K=some r→
  ∃d,K d=some r∧FRs (hc h) (vs.map VV.cv) ((zQ5 cs d).map VV.cv)∧((vs.all fun v=>!zW1 v)=true→VW (vs.map VV.cv) ((zQ5 cs d).map VV.cv))
 |[],vs,K,he=>by
  simp only[deFs]at he;split at he<;>(try (simp at he;done))
  exact⟨(),he,FRs.nil _,fun _=>VW.refl _⟩
 |[c],vs,K,he=>by
  simp only[deFs]at he;split at he<;>(try (simp at he;done))
  obtain⟨d,h1,h2,h3⟩:=xW3 he;refine⟨d,h1, ?_,fun hs=>?_⟩
  ·simp only[Qg,Q8,zQ5,zQv];exact FRs.cons h2 (FRs.nil _)
  ·simp only[Qg,Q8,zQ5,zQv];exact VW.one (h3 (by simpa using hs))
 | c::e::cs,vs,K,he=>by
  simp only[deFs]at he;split at he<;>(try (simp at he;done))
  obtain⟨d,h1,h2,h3⟩:=xW3 he;obtain⟨ds,k1,k2,k3⟩:=yZz (cs:=e::cs) h1;refine⟨(d,ds),k1, ?_,fun hs=>?_⟩
  ·simp only[Qg,zQ5,zQv]at k2⊢;exact FRs.cons h2 k2
  ·simp only[J7,Qc]at hs
   have:=VW.append (VW.one (h3 (by simpa using hs.1))) (k3 hs.2)
   simpa only[Qg,zQ5,zQv,List.singleton_append]using this
theorem vX3{β:Type}{r:β}{h:zQa}{c:C}(hp:c.pl=true):∀{vs:List VV} {K:List (El c)→Option β},deNl h c vs K=some r→∃ds,K ds=some r∧ds.length=vs.length∧FRs (hc h) (vs.map VV.cv) (ds.map (valC c))
 |[],K,he=>⟨[],he,rfl,FRs.nil _⟩
 |v::vs,K,he=>by
  simp only[deNl]at he;obtain⟨d,h1,h2,_⟩:=wZj hp he;obtain⟨ds,k1,k2,k3⟩:=vX3 hp h1;exact⟨d::ds,k1,by simp[k2],FRs.cons h2 k3⟩
theorem vYy{β:Type}{r:β}{h:zQa}{c:C}{v:VV}{K:El c→Option β}(he:deN h c v K=some r):∃d,K d=some r∧FR (hc h) v.cv (valC c d):=by
 unfold deN at he;split at he
 ·rename_i c b off len cap ex c' K
  split at he<;>(try (simp at he;done))
  rename_i vs0 hb;split at he<;>(try (simp at he;done))
  rename_i h1;subst h1;split at he<;>(try (simp at he;done))
  rename_i hL0;rw[Qc]at hL0;obtain⟨hL,hp⟩:=hL0;split at he<;>(try (simp at he;done))
  rename_i hle;obtain⟨ds,he,hdl0,hds⟩:=vX3 hp he;refine⟨ds,he, ?_⟩;intro N φ St w u R hu;simp only[VV.cv,C.xWp hL,Wf]at hu;obtain⟨rr,base,size,rcap,hφ,rfl,k1,k2,k3,k4⟩:=zQn R hu (by rw[zWf];simp[zKh,hb])
  have hlen0:(vs0.map VV.cv).length=vs0.length:=by simp
  obtain⟨vs,hvs,hlen,hcell⟩:=R.cells hφ (zWm hb) off len (by rw[hlen0];exact hle)
  rw[←J9,←J1]at hvs;have hdl:ds.length=len:=by rw[hdl0];simp;omega
  have hv0:VRL Phi0 (Froz φ St (hc h)) w ((ds.map (valC c')).flatMap CV.flat) vs:=by
   rw[xJm hL];exact hds _ _ _ _ _ R hvs
  have:=VR.slice (φ:=Phi0) (St:=Froz φ St (hc h)) (w:=w) c'.cells (ds.map (valC c')) none false (some ⟨rr,base+off,none⟩) rcap vs
   (.inr ⟨_,rfl,rfl,fun k u hu=>⟨.inr (.inl ⟨b,base,size,vs0.map VV.cv,hφ,zWm hb,by simp;omega, ?_⟩),hcell k u hu⟩⟩) hv0
   (by intro x hx;obtain⟨d,_,rfl⟩:=Ji.1 hx;exact zQt c' d) (by rw[Qh,hdl];omega) (by simp) trivial
  ·rw[Qh,hdl]at this;exact this
  ·have:=(List.getElem?_eq_some_iff.1 hu).1
   simp;omega
 ·simp at he
theorem xJ5{β:Type}{r:β}{h:zQa}:∀{cs:List C} {vs:List VV} {K:Els cs→Option β},wZi h cs vs K=some r→
  ∃d,K d=some r∧FRs (hc h) (vs.map VV.cv) ((zQ5 cs d).map VV.cv)
 |[],vs,K,he=>by
  simp only[wZi]at he;split at he<;>(try (simp at he;done))
  exact⟨(),he,FRs.nil _⟩
 | [c],vs,K,he=>by
  simp only[wZi]at he;split at he<;>(try (simp at he;done))
  split at he
  ·obtain⟨d,h1,h2⟩:=vYy he
   refine⟨d,h1, ?_⟩;simp only[Qg,Q8,zQ5,zQv];exact FRs.cons h2 (FRs.nil _)
  ·obtain⟨d,h1,h2,h3⟩:=xW3 he
   refine⟨d,h1, ?_⟩;simp only[Qg,Q8,zQ5,zQv];exact FRs.cons h2 (FRs.nil _)
 | c::e::cs,vs,K,he=>by
  simp only[wZi]at he;split at he<;>(try (simp at he;done))
  split at he
  ·obtain⟨d,h1,h2⟩:=vYy he
   obtain⟨ds,k1,k2⟩:=xJ5 (cs:=e::cs) h1;refine⟨(d,ds),k1, ?_⟩;simp only[Qg,zQ5,zQv]at k2⊢;exact FRs.cons h2 k2
  ·obtain⟨d,h1,h2,h3⟩:=xW3 he
   obtain⟨ds,k1,k2⟩:=xJ5 (cs:=e::cs) h1;refine⟨(d,ds),k1, ?_⟩;simp only[Qg,zQ5,zQv]at k2⊢;exact FRs.cons h2 k2
section
variable {P:Program} {c:Cfg}
def zXl(P:Program)(c:Cfg)(f:FuncId)(p:PFn):Prop:=∀d r,p.fn d=some r→zW2 P c f ((zQ5 p.args d).map VV.cv) (oneV (zQ5 p.res r)).cv
theorem zW2.callW{f:FuncId}{args args':List CV}{v:CV}(h:zW2 P c f args' v)(hg:zZa c)(ha:VW args args')(hp:zQ2 args'=true)(hv:zWc v=true)(H:Heap):zQo P c (.fn f) args H .ret [v] H:=
 let⟨h1,h2⟩:=h.call hg hp hv H
 ⟨h1,fun N φ St w us R hgr hu=>h2 N φ St w us R hgr (ha _ _ _ _ hu)⟩
theorem zW2.vZj{f:FuncId}{args args':List CV}{v:CV}{H:Heap}(h:zW2 P c f args' v)(hg:zZa c)(ha:FRs H args args')(hv:HI v):zQo P c (.fn f) args H .ret [v] H:=by
  obtain⟨hent,hC⟩:=h;refine⟨hent,fun N φ St w us R hgr hu=>(hC (Froz φ St H) w us ?_ (fun i v hi=>(hgr i v hi).pure Froz.of (hg i v hi)) (ha _ _ _ _ _ R hu)).mono ?_⟩
  · intro r j h
    rcases h with h|⟨b,base,size,cs,hb,_⟩|h
    ·exact R.stLt r j h
    ·exact(R.lt hb rfl).2
    · obtain⟨b,rs,hb,hh⟩:=h.ent
      exact(R.lt hb hh).2
  rintro e w' ⟨u,St',rfl,f,hst,hvr⟩;have hheap:∀r,r<w.heap.size→w'.heap[r]?=w.heap[r]?:=fun r hr=>f.keepBlk r hr (by simp[Phi0])
  have m:Mono φ St w φ St w':=⟨fun _=>.refl _,fun _ _ h=>h,fun r j h=>f.keep r j (.inl h)⟩
  refine⟨φ,St,⟨?_, ?_,Keep.refl _ _⟩,v,rfl,rfl,hv _ _ _ _ _ _ _ hvr⟩
  · refine⟨R.dom,R.dead, ?_, ?_, ?_,R.inj,fun r j h=>Kt (R.stLt r j h) f.size,R.stOwn,R.stTail,Kf R.start f.size,R.void,fun b rs hb=>(R.rows b rs hb).step m (fun r hr=>hheap r (R.lt hb hr).2) (fun _ _ _ h=>h),R.rdom⟩
    · intro b r base size hb
      obtain⟨h1,cs,a,e,h2,h3,h4,h5,h6⟩:=R.own b r base size hb;exact⟨h1,cs,a,e,h2,by rw[hheap r (R.lt hb rfl).2];exact h3,h4,h5,fun j c hc=>let⟨v,a,b⟩:=h6 j c hc;⟨v,a,b.mono m⟩⟩
    · intro k r used u size hb
      obtain⟨h1,h2,h3,a,e,h4,h5⟩:=R.tail k r used u size hb;exact⟨h1,h2,h3,a,e,by rw[hheap r (R.lt hb rfl).2];exact h4,h5⟩
    · intro b r hb
      obtain⟨h1,o,O,h2,h3,h4⟩:=R.obj b r hb;exact⟨h1,o,O,h2,by rw[hheap r (R.lt hb rfl).2];exact h3,h4.mono m⟩
  · exact { toMono:=m,size:=f.size,stNew:=fun r j h=> .inl h,blkNew:=fun b e r hb he=> .inl ⟨b,e,hb,he⟩,keepBlk:=fun r hr _=>hheap r hr,
            idNew:=fun _ _ h=>h,os:=f.os,output:=f.output,tape:=f.tape}
def zZv:List Nat→Heap→Heap
 |[],h=>h
 |b::bs,h=>zZv bs (h.set b .dead)
theorem zJz:∀(bs:List Nat) (h:zQa),hc (yW9 bs h)=zZv bs (hc h)
 |[],h=>rfl
 |b::bs,h=>by simp only[yW9,zZv,zJz bs,zQy,VObj.ho]
theorem zKs:∀(bs:List Nat) (h:Heap),(zZv bs h).length=h.length
 |[],h=>rfl
 |b::bs,h=>by simp only[zZv,zKs bs];simp
theorem zXi:∀(bs:List Nat) (h:Heap) {b:Nat},b∉bs→(zZv bs h)[b]? =h[b]?
 |[],h,b,_=>rfl
 |c::bs,h,b,hb=>by
  simp only[Jm,not_or]at hb;simp only[zZv];rw[zXi bs _ hb.2,Qd (Jw hb.1)]
theorem zZg:∀(bs:List Nat) (h:zQa),zQe bs h (yW9 bs h)
 |[],h=>zQe.refl _ _
 |b::bs,h=>by
  simp only[yW9];exact(zQe.set (Jg ..) _).trans ((zZg bs _).mono fun x hx=>Qp _ hx) fun _ h=>h
def zJa(φ:Phi)(b:Nat):Prop:=(∃r base size,φ b=some (.own r base size))∨φ b=some .dead
theorem yX4{N:Nat}{St:Stab}{w:World}:∀(bs:List Nat) {φ:Phi} {H:Heap},Rel N φ St H w→(∀b∈bs,zJa φ b)→
  ∃φ1,Rel N φ1 St (zZv bs H) w∧Frm H.length φ St w φ1 St w∧(∀b e,φ1 b=some e→e=.dead∨φ b=some e)∧(∀b∈bs,φ1 b=some .dead)∧(∀b,φ1 b=none→φ b=none)
 |[],φ,H,R,_=>⟨φ,R,Frm.refl _ _ _ _,fun _ _ h=>.inr h,by simp,fun _ h=>h⟩
 | b::bs,φ,H,R,ho=>by
  have step:∃φ0,Rel N φ0 St (H.set b .dead) w∧Frm H.length φ St w φ0 St w∧(∀b' e,φ0 b'=some e→e=.dead∨φ b'=some e)∧φ0 b=some .dead∧(∀b',φ0 b'=none→φ b'=none)∧∀b',zJa φ b'→zJa φ0 b':=by
   rcases ho b (by simp)with⟨r,base,size,hb⟩|hb
   ·obtain⟨R1,F1⟩:=R.kill hb
    refine⟨_,R1,F1,fun b' e he=>?_,zQg _ _ _,fun b' hn=>?_,fun b' h'=>?_⟩
    ·by_cases hbb:b'=b
     ·subst hbb;rw[zQg]at he;simp at he;exact .inl he.symm
     ·rw[zQc _ _ _ _ hbb]at he;exact .inr he
    ·by_cases hbb:b'=b
     ·subst hbb;rw[zQg]at hn;simp at hn
     ·rw[zQc _ _ _ _ hbb]at hn;exact hn
    ·by_cases hbb:b'=b
     ·subst hbb;exact .inr (zQg _ _ _)
     ·unfold zJa;rw[zQc _ _ _ _ hbb];exact h'
   ·have hd:=R.dead b hb
    have:H.set b .dead=H:=set_self hd;rw[this];exact⟨φ,R,Frm.refl _ _ _ _,fun _ _ h=>.inr h,hb,fun _ h=>h,fun _ h=>h⟩
  obtain⟨φ0,R0,F0,g1,g2,g3,g4⟩:=step;obtain⟨φ1,R1,F1,k1,k2,k3⟩:=yX4 bs R0 fun b' hb'=>g4 b' (ho b' (by simp[hb']))
  rw[Kh]at F1;refine⟨φ1,R1,F0.trans F1 (Qe _),fun b' e he=>?_,fun b' hb'=>?_,fun b' hn=>g3 b' (k3 b' hn)⟩
  ·rcases k1 b' e he with h|h
   ·exact .inl h
   ·exact g1 b' e h
  ·rcases Jm.1 hb' with rfl|hb'
   ·have:=F1.ext b'
    rw[g2]at this;exact this.dead
   ·exact k2 b' hb'
theorem Rel.wQp{N:Nat}{φ:Phi}{St:Stab}{H:Heap}{w:World}(R:Rel N φ St H w){X:Stab}(hX:∀r j,X r j→r<w.heap.size∧∀b e,φ b=some e→¬e.has r):Rel N φ (fun r j=>St r j∨X r j) H w:=by
 have m:Mono φ St w φ (fun r j=>St r j∨X r j) w:=⟨fun _=>.refl _,fun _ _ h=>.inl h,fun _ _ _=>rfl⟩
 refine⟨R.dom,R.dead, ?_,R.tail, ?_,R.inj, ?_, ?_, ?_,R.start,R.void,fun b rs hb=>(R.rows b rs hb).step m (fun _ _=>rfl) (fun r j hr h=>h.resolve_right (fun x=>(hX r j x).2 b _ hb hr)),R.rdom⟩
 ·intro b r base size hb
  obtain⟨h1,cs,a,e,h2,h3,h4,h5,h6⟩:=R.own b r base size hb;exact⟨h1,cs,a,e,h2,h3,h4,h5,fun j c hc=>let⟨v,a,b⟩:=h6 j c hc;⟨v,a,b.mono m⟩⟩
 ·intro b r hb
  obtain⟨h1,o,O,h2,h3,h4⟩:=R.obj b r hb;exact⟨h1,o,O,h2,h3,h4.mono m⟩
 ·intro r j h
  rcases h with h|h
  ·exact R.stLt r j h
  ·exact(hX r j h).1
 ·intro b r base size j hb hs
  rcases hs with hs|hs
  ·exact R.stOwn b r base size j hb hs
  ·exact(hX r j hs).2 b _ hb rfl
 ·intro k r used u size j hb hs
  rcases hs with hs|hs
  ·exact R.stTail k r used u size j hb hs
  ·exact absurd rfl ((hX r j hs).2 k _ hb)
def zQf(φ:Phi)(H:Heap)(bs:List Nat):Stab:=fun r j=>∃b∈bs,∃base size cs,φ b=some (.own r base size)∧H[b]?=some (.cells cs)∧base≤j∧j<base+cs.length
def FRb(H:Heap)(bs:List Nat)(cs cs':List CV):Prop:=∀N φ St w us,Rel N φ St H w→VRL φ St w cs us→VRL Phi0 (fun r j=>St r j∨zQf φ H bs r j) w cs' us∧∀b∈bs,zJa φ b
theorem VR.anySt{St St':Stab}{w:World}(hst:∀r j,St r j→St' r j){φ:Phi}{c:CV}{v:Value}(h:VR φ St w c v)(hp:zWc c=true):VR Phi0 St' w c v:=h.pure hst hp
theorem wJm{β:Type}{r:β}{h:zQa}{c:C}{v:VV}{K:El c→Option β}(he:deF h c v K=some r):c.pl=true:=by
 unfold deF at he;split at he
 ·simp at he
 ·assumption
theorem vX4{β:Type}{r:β}{h:zQa}:∀{cs:List C} {vs:List VV} {K:Els cs→Option β},deFs h cs vs K=some r→cs.all C.pl=true
 |[],vs,K,he=>rfl
 |[c],vs,K,he=>by
  simp only[deFs]at he;split at he<;>(try (simp at he;done))
  simp[wJm he]
 |c::e::cs,vs,K,he=>by
  simp only[deFs]at he;split at he<;>(try (simp at he;done))
  obtain⟨d,h1,_⟩:=xW3 he;rw[J7,wJm he,vX4 (cs:=e::cs) h1];rfl
theorem wQl{v:VV}(h:zW1 v=false):zJk v=false:=by
 simp only[zW1,Bool.or_eq_false_iff]at h;cases v<;>first|rfl|(simp[zXw]at h;done)|skip
 rename_i vs;simp only[zJk,Kx];simp only[aggS,Kx]at h;intro v hv;have:=h.2 v hv;cases v<;>simp_all[zXw,mix1]
theorem xJ7{β:Type}{r:β}{h:zQa}{c:C}{v:VV}{K:El c→Option β}(hp:c.pl=true)(hm:mix1 v=false)(he:deF0 h c v K=some r):∃d,K d=some r∧
  ∀N φ St w u,Rel N φ St (hc h) w→VR φ St w v.cv u→VR Phi0 (fun r j=>St r j∨zQf φ (hc h) (if zXw v then v.blk else []) r j) w (valC c d) u∧∀b∈(if zXw v then v.blk else []),zJa φ b:=by
 unfold deF0 at he;split at he
 ·rename_i c b off len cap ex c' K
  split at he<;>(try (simp at he;done))
  ·rename_i c'' ds hb
   by_cases h1:c'=c
   rotate_left
   ·rw[Qi h1]at he
    have hpl:c'.pl=true:=by simpa[mix1]using hm
    rw[Qi (by rw[hpl];decide)]at he
    cases he
   rw[Qf h1]at he;subst h1;split at he<;>(try (simp at he;done))
   rename_i h2;subst h2;split at he<;>(try (simp at he;done))
   rename_i hle;replace hle:off+len≤ds.length:=hle;refine⟨_,he, ?_⟩;intro N φ St w u R hu;simp only[zXw,if_true,VV.blk];simp only[VV.cv]at hu;obtain⟨rr,base,size,rcap,hφ,rfl,k1,k2,k3,k4⟩:=zQn R hu (by rw[zWf];simp[zKh,hb])
   refine⟨?_,by simp;exact .inl ⟨_,_,_,hφ⟩⟩
   have hvl:=zQp c'' ds;have hle2:off*c''.cells+len*c''.cells≤(vecC c'' ds).length:=by rw[hvl,←Qz];exact Qn _ hle
   obtain⟨vs,hvs,hlen,hcell⟩:=R.cells hφ (zWr hb) (off*c''.cells) (len*c''.cells) hle2;have hseg:((vecC c'' ds).drop (off*c''.cells)).take (len*c''.cells)=vecC c'' ((ds.drop off).take len):=by rw[zWh,zWp]
   rw[hseg]at hvs;have hl2:(Z.seg ds off len).length=len:=by simp[Z.seg];omega
   have hfm:((Z.seg ds off len).map (valC c'')).flatMap CV.flat=vecC c'' ((ds.drop off).take len):=by rw[Q6];rfl
   have hv0:VRL Phi0 (fun r j=>St r j∨zQf φ (hc h) [b] r j) w (((Z.seg ds off len).map (valC c'')).flatMap CV.flat) vs:=by
    rw[hfm];exact hvs.pure (fun _ _ h=>.inl h) (zZx (c:=c'') hp _)
   have:=VR.slice (φ:=Phi0) (St:=fun r j=>St r j∨zQf φ (hc h) [b] r j) (w:=w) c''.cells ((Z.seg ds off len).map (valC c'')) none false (some ⟨rr,base+off*c''.cells,none⟩) rcap vs
    (.inr ⟨_,rfl,rfl,fun k u hu=>⟨.inr ⟨b,by simp,base,size,vecC c'' ds,hφ,zWr hb,by simp;omega, ?_⟩,hcell k u hu⟩⟩) hv0
    (by intro x hx;obtain⟨d,_,rfl⟩:=Ji.1 hx;exact zQt c'' d) (by rw[Qh,hl2];omega) (by simp) trivial
   ·rw[Qh,hl2]at this;exact this
   ·have:=(List.getElem?_eq_some_iff.1 hu).1
    simp;omega
  ·rename_i vs0 hb
   split at he<;>(try (simp at he;done))
   rename_i h1;subst h1;split at he<;>(try (simp at he;done))
   rename_i hL;split at he<;>(try (simp at he;done))
   rename_i hle;split at he<;>(try (simp at he;done))
   rename_i ds hds;refine⟨ds,he, ?_⟩;intro N φ St w u R hu;simp only[zXw,if_true,VV.blk];simp only[VV.cv,C.xWp hL,Wf]at hu;obtain⟨rr,base,size,rcap,hφ,rfl,k1,k2,k3,k4⟩:=zQn R hu (by rw[zWf];simp[zKh,hb])
   refine⟨?_,by simp;exact .inl ⟨_,_,_,hφ⟩⟩
   have hlen0:(vs0.map VV.cv).length=vs0.length:=by simp
   obtain⟨vs,hvs,hlen,hcell⟩:=R.cells hφ (zWm hb) off len (by rw[hlen0];exact hle)
   rw[←J9,←J1]at hvs;have hdl:ds.length=len:=by rw[xJ3 hds];simp;omega
   have hv0:VRL Phi0 (fun r j=>St r j∨zQf φ (hc h) [b] r j) w ((ds.map (valC c')).flatMap CV.flat) vs:=by
    rw[xJm hL];exact(wZh hds _ _ _ _ hvs).pure (fun _ _ h=>.inl h) (wZ4 (c:=c') hp ds)
   have:=VR.slice (φ:=Phi0) (St:=fun r j=>St r j∨zQf φ (hc h) [b] r j) (w:=w) c'.cells (ds.map (valC c')) none false (some ⟨rr,base+off,none⟩) rcap vs
    (.inr ⟨_,rfl,rfl,fun k u hu=>⟨.inr ⟨b,by simp,base,size,vs0.map VV.cv,hφ,zWm hb,by simp;omega, ?_⟩,hcell k u hu⟩⟩) hv0
    (by intro x hx;obtain⟨d,_,rfl⟩:=Ji.1 hx;exact zQt c' d) (by rw[Qh,hdl];omega) (by simp) trivial
   ·rw[Qh,hdl]at this;exact this
   ·have:=(List.getElem?_eq_some_iff.1 hu).1
    simp;omega
 ·simp[mix1]at hm
 ·rename_i hns1 hns
  split at he<;>(try (simp at he;done))
  rename_i d hd;refine⟨d,he,fun N φ St w u R hu=>⟨(yYo hd _ _ _ _ hu).pure (fun _ _ h=>.inl h) (zQ8 _ _ hp),fun b hb=>?_⟩⟩
  exfalso
  cases v<;>simp[zXw]at hb
  ·cases c<;>simp[deW]at hd
  ·simp[mix1]at hm
theorem uXj{β:Type}{r:β}{h:zQa}:∀{c:C} {vs:List VV} {K:El c→Option β},c.pl=true→vs.any mix1=false→deS h c vs K=some r→∃d,K d=some r∧
  ∀N φ St w us,Rel N φ St (hc h) w→VRL φ St w (vs.map VV.cv) us→VRL Phi0 (fun r j=>St r j∨zQf φ (hc h) (vs.flatMap fun v=>if zXw v then v.blk else []) r j) w (valC c d).flat us∧
   ∀b∈(vs.flatMap fun v=>if zXw v then v.blk else []),zJa φ b:=by
 have none1:∀{n:Nat} {c:C} {vs:List VV} {d:El (.arr n c)},deWs (.arr n c) vs=some d→∀v∈vs,zXw v=false:=by
  intro n c vs d hd;unfold deWs at hd;cases c with
  | int k=>
   simp only[arrW]at hd;split at hd<;>(try (simp at hd;done))
   have key:∀{vs:List VV} {ns:List Int},wQ2 k vs=some ns→∀v∈vs,zXw v=false:=by
    intro vs;induction vs with
    |nil=>intro ns _ v hv;simp at hv
    |cons w vs ih=>
     intro ns h v hv;simp only[wQ2]at h;split at h<;>(try (simp at h;done))
     split at h<;>(try (simp at h;done))
     split at h<;>(try (simp at h;done))
     rename_i hns;rcases Jm.1 hv with rfl|hv
     ·rfl
     ·exact ih hns v hv
   exact key hd
  |_=>simp[arrW]at hd
 have plain:∀{c:C} {vs:List VV} {d:El c},c.pl=true→deWs c vs=some d→(∀v∈vs,zXw v=false)→∀N φ St w us,Rel N φ St (hc h) w→VRL φ St w (vs.map VV.cv) us→VRL Phi0 (fun r j=>St r j∨zQf φ (hc h) (vs.flatMap fun v=>if zXw v then v.blk else []) r j) w (valC c d).flat us∧
   ∀b∈(vs.flatMap fun v=>if zXw v then v.blk else []),zJa φ b:=by
  intro c vs d hp hd hn N φ St w us R hu;refine⟨(yZy hd _ _ _ _ hu).pure (fun _ _ h=>.inl h) (zXf (zQ8 _ _ hp)),fun b hb=>?_⟩
  obtain⟨v,hv,hb⟩:=J0.1 hb;rw[hn v hv]at hb;simp at hb
 intro c;induction c with
 |mix b c _=>intro vs K hp;simp[C.pl]at hp
 |unit=>
  intro vs K hp hm he;simp only[deS]at he;split at he<;>(try (simp at he;done))
  exact⟨(),he,fun N φ St w us R hu=>by cases hu;exact⟨.nil,by simp⟩⟩
 | pair a b iha ihb=>
  intro vs K hp hm he;simp only[deS]at he;simp only[C.pl,Qc]at hp;have hmf:∀v∈vs,mix1 v=false:=by simpa[Kx]using hm
  obtain⟨x,h1,h2⟩:=iha hp.1 (by simp only[Kx];exact fun v hv=>by rw[hmf v (Kk hv)];simp) he
  obtain⟨y,k1,k2⟩:=ihb hp.2 (by simp only[Kx];exact fun v hv=>by rw[hmf v (Kv hv)];simp) h1
  refine⟨(x,y),k1,fun N φ St w us R hu=>?_⟩
  obtain⟨e1,f1⟩:=h2 N φ St w _ R (by rw[J1];exact hu.take a.cells)
  obtain⟨e2,f2⟩:=k2 N φ St w _ R (by rw[J9];exact hu.drop a.cells)
  have hsub1:∀x,x∈((vs.take a.cells).flatMap fun v=>if zXw v then v.blk else [])→x∈(vs.flatMap fun v=>if zXw v then v.blk else []):=by
   intro x hx;obtain⟨v,hv,hx⟩:=J0.1 hx;exact J0.2 ⟨v,Kk hv,hx⟩
  have hsub2:∀x,x∈((vs.drop a.cells).flatMap fun v=>if zXw v then v.blk else [])→x∈(vs.flatMap fun v=>if zXw v then v.blk else []):=by
   intro x hx;obtain⟨v,hv,hx⟩:=J0.1 hx;exact J0.2 ⟨v,Kv hv,hx⟩
  have up:∀{bs:List Nat} {r j:Nat},(∀x∈bs,x∈(vs.flatMap fun v=>if zXw v then v.blk else []))→(St r j∨zQf φ (hc h) bs r j)→St r j∨zQf φ (hc h) (vs.flatMap fun v=>if zXw v then v.blk else []) r j:=by
   intro bs r j hb h;rcases h with h|⟨b,h1,h2⟩
   ·exact .inl h
   ·exact .inr ⟨b,hb b h1,h2⟩
  have g1:=e1.pure (φ':=Phi0) (St':=fun r j=>St r j∨zQf φ (hc h) (vs.flatMap fun v=>if zXw v then v.blk else []) r j) (fun r j=>up hsub1) (zXf (zQ8 _ _ hp.1))
  have g2:=e2.pure (φ':=Phi0) (St':=fun r j=>St r j∨zQf φ (hc h) (vs.flatMap fun v=>if zXw v then v.blk else []) r j) (fun r j=>up hsub2) (zXf (zQ8 _ _ hp.2))
  have:=g1.append g2;rw[Ja]at this;refine⟨this,fun x hx=>?_⟩
  obtain⟨v,hv,hb⟩:=J0.1 hx;rw[←Ja a.cells vs]at hv;rcases Qy.1 hv with hv|hv
  ·exact f1 x (J0.2 ⟨v,hv,hb⟩)
  ·exact f2 x (J0.2 ⟨v,hv,hb⟩)
 |list c _=>
  intro vs K hp hm he;simp only[deS]at he;split at he<;>(try (simp at he;done))
  rename_i v;obtain⟨d,h1,h2⟩:=xJ7 hp (by simpa using hm) he
  refine⟨d,h1,fun N φ St w us R hu=>?_⟩
  simp only[Qg,Q8]at hu;cases hu with|cons _ u _ us a b=>
  cases b;obtain⟨e1,e2⟩:=h2 _ _ _ _ _ R a;simp only[Qo,List.flatMap_nil,Jq];exact⟨.cons _ _ _ _ e1 .nil,e2⟩
 |bool=>intro vs K hp hm he;simp only[deS]at he;split at he<;>(try (simp at he;done));rename_i d hd;exact⟨d,he,plain hp hd (by unfold deWs at hd;split at hd<;>simp_all[zXw])⟩
 |int k=>intro vs K hp hm he;simp only[deS]at he;split at he<;>(try (simp at he;done));rename_i d hd;exact⟨d,he,plain hp hd (by unfold deWs at hd;split at hd<;>simp_all[zXw])⟩
 |str=>intro vs K hp hm he;simp only[deS]at he;split at he<;>(try (simp at he;done));rename_i d hd;exact⟨d,he,plain hp hd (by unfold deWs at hd;split at hd<;>simp_all[zXw])⟩
 |arr n c _=>intro vs K hp hm he;simp only[deS]at he;split at he<;>(try (simp at he;done));rename_i d hd;exact⟨d,he,plain hp hd (none1 hd)⟩
theorem xJ6{β:Type}{r:β}{h:zQa}{c:C}{v:VV}{K:El c→Option β}(hm:zJk v=false)(he:deF h c v K=some r):∃d,K d=some r∧
  ∀N φ St w u,Rel N φ St (hc h) w→VR φ St w v.cv u→VR Phi0 (fun r j=>St r j∨zQf φ (hc h) (if zW1 v then v.blkS else []) r j) w (valC c d) u∧∀b∈(if zW1 v then v.blkS else []),zJa φ b:=by
 unfold deF at he;split at he
 ·simp at he
 rename_i hp;split at he
 ·rename_i hag
  have hm1:mix1 v=false:=by
   cases v<;>first|rfl|exact hm
  obtain⟨d,h1,h2⟩:=xJ7 hp hm1 he;have e1:zW1 v=zXw v:=by simp[zW1,hag]
  have e2:(if zXw v then v.blkS else [])=(if zXw v then v.blk else []):=by cases v<;>simp[zXw,VV.blkS]
  rw[e1,e2];exact⟨d,h1,h2⟩
 ·rename_i hag
  split at he<;>(try (simp at he;done))
  rename_i a b vs K;obtain⟨d,h1,h2⟩:=uXj hp hm he;have e1:zW1 (.agg vs)=true:=by simp[zW1,hag]
  refine⟨d,h1,fun N φ St w u R hu=>?_⟩
  simp only[VV.cv,VV.zQx]at hu;cases hu with|agg _ us hus=>
  obtain⟨g1,g2⟩:=h2 _ _ _ _ _ R hus;rw[e1];exact⟨.agg _ _ g1,g2⟩
theorem zYv{β:Type}{r:β}{h:zQa}:∀{cs:List C} {vs:List VV} {K:Els cs→Option β},vs.any zJk=false→deFs h cs vs K=some r→∃d,K d=some r∧FRb (hc h) (zQz vs) (vs.map VV.cv) ((zQ5 cs d).map VV.cv)
 |[],vs,K,hm,he=>by
  simp only[deFs]at he;split at he<;>(try (simp at he;done))
  refine⟨(),he,fun N φ St w us R hu=>?_⟩
  cases hu;exact⟨.nil,by simp[zQz]⟩
 |[c],vs,K,hm,he=>by
  simp only[deFs]at he;split at he<;>(try (simp at he;done))
  obtain⟨d,h1,h2⟩:=xJ6 (by simpa using hm) he
  refine⟨d,h1,fun N φ St w us R hu=>?_⟩
  simp only[Qg,Q8]at hu⊢;cases hu with|cons _ v _ vs a b=>
  cases b;obtain⟨e1,e2⟩:=h2 N φ St w v R a;simp only[zQ5,Qg,Q8,zQv,zQz,Qo,List.flatMap_nil,Jq];exact⟨.cons _ _ _ _ e1 .nil,e2⟩
 | c::e::cs,vs,K,hm,he=>by
  simp only[deFs]at he;split at he<;>(try (simp at he;done))
  rename_i v vs;simp only[List.any_cons,Bool.or_eq_false_iff]at hm;obtain⟨d,h1,h2⟩:=xJ6 hm.1 he;obtain⟨ds,k1,k2⟩:=zYv (cs:=e::cs) hm.2 h1;have hpl1:=wJm he;have hpl2:=vX4 (cs:=e::cs) h1
  refine⟨(d,ds),k1,fun N φ St w us R hu=>?_⟩
  simp only[Qg]at hu;cases hu with|cons _ u _ us a b=>
  obtain⟨e1,e2⟩:=h2 N φ St w u R a;obtain⟨g1,g2⟩:=k2 N φ St w us R b;have hsb:zQz (v::vs)=(if zW1 v then v.blkS else [])++zQz vs:=by simp[zQz]
  rw[hsb];simp only[zQ5,Qg,zQv]at g1⊢;refine⟨.cons _ _ _ _ (e1.anySt (fun r j h=>?_) (zQ8 _ _ hpl1)) (g1.pure (fun r j h=>?_) ?_),fun b hb=>?_⟩
  ·rcases h with h|⟨b,hb,h⟩
   ·exact .inl h
   ·exact .inr ⟨b,Qv _ hb,h⟩
  ·rcases h with h|⟨b,hb,h⟩
   ·exact .inl h
   ·exact .inr ⟨b,Q7 _ hb,h⟩
  ·have:=zY4 (e::cs) ds hpl2;simpa using this
  ·rcases Qy.1 hb with hb|hb
   ·exact e2 b hb
   ·exact g2 b hb
theorem zW2.wYp{f:FuncId}{args args':List CV}{v:CV}{H:Heap}{bs:List Nat}(h:zW2 P c f args' v)(hg:zZa c)(ha:FRb H bs args args')(hv:zWc v=true):zQo P c (.fn f) args H .ret [v] (zZv bs H):=by
 obtain⟨hent,hC⟩:=h;refine⟨hent,fun N φ St w us R hgr hu=>?_⟩
 obtain⟨e1,e2⟩:=ha N φ St w us R hu;obtain⟨φ1,R1,F1,k1,k2,k3⟩:=yX4 bs R e2;have hX:∀r j,zQf φ H bs r j→r<w.heap.size∧∀b e,φ1 b=some e→¬e.has r:=by
  rintro r j ⟨b,hb,base,size,cs,hφ,_⟩;refine⟨(R.lt hφ rfl).2,fun b' e' hb' he=>?_⟩
  rcases k1 b' e' hb' with rfl|h
  ·simp[Ent.has]at he
  ·have:=R.inj b' b e' _ r h hφ he rfl
   subst this;rw[k2 b' hb]at hb';simp at hb';subst hb';simp[Ent.has]at he
 have R2:=R1.wQp hX;refine(hC (fun r j=>St r j∨zQf φ H bs r j) w us R2.stLt (fun i v hi=>(hgr i v hi).pure (fun _ _ h=>.inl h) (hg i v hi)) e1).mono ?_
 rintro e w' ⟨u,St',rfl,f,hst,hvr⟩;have hcase:∀r j,St' r j→(St r j∨zQf φ H bs r j)∨w.heap.size≤r:=fun r j h=>by
  rcases f.stNew r j h with h|h|⟨b,e,hb,_⟩
  ·exact .inl h
  ·exact .inr h
  ·simp[Phi0]at hb
 have hheap:∀r,r<w.heap.size→w'.heap[r]?=w.heap[r]?:=fun r hr=>f.keepBlk r hr (by simp[Phi0])
 have m:Mono φ1 (fun r j=>St r j∨zQf φ H bs r j) w φ1 St' w':=⟨fun _=>.refl _,f.st,f.keep⟩
 refine⟨φ1,St',⟨?_, ?_, ?_⟩,v,rfl,rfl,hvr.pure (fun _ _ h=>h) hv⟩
 ·refine⟨R2.dom,R2.dead, ?_, ?_, ?_,R2.inj,hst, ?_, ?_,Kf R2.start f.size,R2.void,fun b rs hb=>(R2.rows b rs hb).step m (fun r hr=>hheap r (R2.lt hb hr).2) (fun r j hr h=>(hcase r j h).resolve_right (fun x=>by have:=(R2.lt hb hr).2;omega)),R2.rdom⟩
  ·intro b r base size hb
   obtain⟨h1,cs,a,e,h2,h3,h4,h5,h6⟩:=R2.own b r base size hb;exact⟨h1,cs,a,e,h2,by rw[hheap r (R2.lt hb rfl).2];exact h3,h4,h5,fun j c hc=>let⟨v,a,b⟩:=h6 j c hc;⟨v,a,b.mono m⟩⟩
  ·intro k r used u size hb
   obtain⟨h1,h2,h3,a,e,h4,h5⟩:=R2.tail k r used u size hb;exact⟨h1,h2,h3,a,e,by rw[hheap r (R2.lt hb rfl).2];exact h4,h5⟩
  ·intro b r hb
   obtain⟨h1,o,O,h2,h3,h4⟩:=R2.obj b r hb;exact⟨h1,o,O,h2,by rw[hheap r (R2.lt hb rfl).2];exact h3,h4.mono m⟩
  ·intro b r base size j hb hs
   rcases hcase r j hs with hs|hs
   ·exact R2.stOwn b r base size j hb hs
   ·have:=(R2.lt hb rfl).2;omega
  ·intro k r used u size j hb hs
   rcases hcase r j hs with hs|hs
   ·exact R2.stTail k r used u size j hb hs
   ·have:=(R2.lt hb rfl).2;omega
 ·refine{ext:=F1.ext,st:=fun r j h=>f.st r j (.inl h),keep:=fun r j h=>f.keep r j (.inl h),size:=f.size,stNew:=fun r j h=> ?_,blkNew:=F1.blkNew,keepBlk:=fun r hr _=>hheap r hr,idNew:=F1.idNew,os:=f.os,output:=f.output,tape:=f.tape}
  rcases hcase r j h with(h|⟨b,hb,base,size,cs,hφ,_⟩)|h
  ·exact .inl h
  ·exact .inr (.inr ⟨b,_,hφ,rfl⟩)
  ·exact .inr (.inl h)
 ·refine⟨by rw[zKs];exact Qe _,fun b hb hn=>zXi bs H fun hm=> ?_⟩
  rcases e2 b hm with⟨_,_,_,h⟩|h<;>rw[hn]at h<;>simp at h
def OC.zQr:(o:OC)→El o.code→Nat→List VV×List VObj
 | .plain c,d,n=>((valV c d).flat,[])
 | .own c,d,n=>if(d:List (El c)).length=0 then([.sl c d none false],[])else([.sref n 0 (d:List (El c)).length (d:List (El c)).length false c],[.vec c d])
 | .pair a b,d,n=>((a.zQr d.1 n).1++(b.zQr d.2 (n+(a.zQr d.1 n).2.length)).1,(a.zQr d.1 n).2++(b.zQr d.2 (n+(a.zQr d.1 n).2.length)).2)
def OC.val0:(o:OC)→El o.code→Nat→VV×List VObj
 | .plain c,d,n=>(valV c d,[])
 | .own c,d,n=>if(d:List (El c)).length=0 then(.sl c d none false,[])else(.sref n 0 (d:List (El c)).length (d:List (El c)).length false c,[.vec c d])
 | .pair a b,d,n=>(.agg ((OC.pair a b).zQr d n).1,((OC.pair a b).zQr d n).2)
def zQ7:(os:List OC)→Els (zZl os)→Nat→List VV×List VObj
 |[],_,n=>([],[])
 |[o],d,n=>([(o.val0 d n).1],(o.val0 d n).2)
 |o::p::os,d,n=>((o.val0 d.1 n).1::(zQ7 (p::os) d.2 (n+(o.val0 d.1 n).2.length)).1,(o.val0 d.1 n).2++(zQ7 (p::os) d.2 (n+(o.val0 d.1 n).2.length)).2)
theorem OC.xW7{β:Type}:∀(o:OC) (d:El o.code) (n:Nat) (K:List VV→List VObj→Option β),o.xW8 d n K=K (o.zQr d n).1 (o.zQr d n).2
 | .plain c,d,n,K=>rfl
 | .own c,d,n,K=>by
  simp only[OC.xW8,OC.zQr,Z.EqN,Z.len];split<;>rfl
 | .pair a b,d,n,K=>by simp only[OC.xW8,OC.zQr,OC.xW7 a,OC.xW7 b]
theorem OC.vQb{β:Type}(o:OC)(d:El o.code)(n:Nat)(K:VV→List VObj→Option β):o.valK d n K=K (o.val0 d n).1 (o.val0 d n).2:=by
 cases o with
 |plain c=>rfl
 |own c=>
  simp only[OC.valK,OC.val0,Z.EqN,Z.len];split<;>rfl
 |pair a b=>simp only[OC.valK,OC.val0,OC.zQr,OC.xW7]
theorem wKs{β:Type}:∀(os:List OC) (d:Els (zZl os)) (n:Nat) (K:List VV→List VObj→Option β),wJ9 os d n K=K (zQ7 os d n).1 (zQ7 os d n).2
 |[],d,n,K=>rfl
 |[o],d,n,K=>by simp only[wJ9,zQ7,OC.vQb]
 |o::p::os,d,n,K=>by simp only[wJ9,zQ7,OC.vQb,wKs (p::os)]
theorem OC.zKa:∀(o:OC) (d:El o.code) (n m:Nat),(o.zQr d n).2=(o.zQr d m).2
 | .plain c,d,n,m=>rfl
 | .own c,d,n,m=>by simp only[OC.zQr];split<;>rfl
 | .pair a b,d,n,m=>by simp only[OC.zQr,OC.zKa a d.1 n m,OC.zKa b d.2 _ (m+(a.zQr d.1 m).2.length)]
theorem OC.yWk(o:OC)(d:El o.code)(n m:Nat):(o.val0 d n).2=(o.val0 d m).2:=by
 cases o with
 |plain c=>rfl
 |own c=>simp only[OC.val0];split<;>rfl
 |pair a b=>exact OC.zKa _ d n m
theorem yX0:∀(os:List OC) (d:Els (zZl os)) (n m:Nat),(zQ7 os d n).2=(zQ7 os d m).2
 |[],d,n,m=>rfl
 |[o],d,n,m=>o.yWk d n m
 |o::p::os,d,n,m=>by simp only[zQ7,o.yWk d.1 n m,yX0 (p::os) d.2 _ (m+(o.val0 d.1 m).2.length)]
mutual
theorem CV.yQa(n:Nat):∀c:CV,zWc c=true→c.shift n=c
 | .rop v,h=>by
  simp only[zWc]at h;simp only[CV.shift,CV.yQa n v h]
 | .slice esz xs tok full,h=>by
  simp only[zWc,Qc]at h;cases tok with
  |some k=>simp at h
  |none=>simp only[CV.shift,CV.zXz n xs h.2]
 | .func f xs ys,h=>by
  simp only[zWc,Qc]at h;simp only[CV.shift,CV.zXz n xs h.1,CV.zXz n ys h.2]
 | .iface t v,h=>by
  simp only[zWc]at h;simp only[CV.shift,CV.yQa n v h]
 | .agg cs,h=>by
  simp only[zWc]at h;simp only[CV.shift,CV.zXz n cs h]
 | .tuple cs,h=>by
  simp only[zWc]at h;simp only[CV.shift,CV.zXz n cs h]
 | .ptr b off,h=>by simp[zWc]at h
 | .sref esz b off len cap ex,h=>by simp[zWc]at h
 | .map b,h=>by simp[zWc]at h
 | .yield l,h=>by simp[zWc]at h
 | .junk,h=>rfl
 | .bool b,h=>rfl
 | .int k m,h=>rfl
 | .str s,h=>rfl
 | .nilptr,h=>rfl
 | .nilmap,h=>rfl
 | .nilfunc,h=>rfl
 | .niliface,h=>rfl
theorem CV.zXz(n:Nat):∀cs:List CV,zQ2 cs=true→CV.shifts n cs=cs
 |[],h=>rfl
 |c::cs,h=>by
  simp only[zQ2,Qc]at h;simp only[CV.shifts,CV.yQa n c h.1,CV.zXz n cs h.2]
end
theorem zYz(c:C)(d:El c)(h:c.pl=true):zQ2 ((valV c d).flat.map VV.cv)=true:=by
 rw[←VV.zYe,zQv];exact zXf (zQ8 c d h)
theorem OC.yXj:∀(o:OC) (d:El o.code) (n m:Nat),o.code.pl=true→CV.shifts n ((o.zQr d m).1.map VV.cv)=(o.zQr d (n+m)).1.map VV.cv
 | .plain c,d,n,m,h=>CV.zXz n _ (zYz c d h)
 | .own c,d,n,m,h=>by
  simp only[OC.zQr];split
  ·refine CV.zXz n _ ?_
   have:=zYz (.list c) d h;simpa[valV,VV.flat]using this
  ·rfl
 | .pair a b,d,n,m,h=>by
  simp only[C.pl,Qc]at h;have e1:=OC.yXj a d.1 n m h.1;have e2:=OC.yXj b d.2 n (m+(a.zQr d.1 m).2.length) h.2;rw[CV.zWg]at e1 e2;simp only[OC.zQr,Qw,CV.zWg]
  rw[e1,e2,OC.zKa a d.1 (n+m) m,Jp]
theorem OC.xX6(o:OC)(d:El o.code)(n m:Nat)(h:o.code.pl=true):(o.val0 d m).1.cv.shift n=(o.val0 d (n+m)).1.cv:=by
 cases o with
 |plain c=>simp only[OC.val0];rw[zQv];exact CV.yQa n _ (zQ8 c d h)
 |own c=>
  simp only[OC.val0];split
  ·exact CV.yQa n _ (zQ8 (.list c) d h)
  ·rfl
 |pair a b=>
  have:=OC.yXj (.pair a b) d n m h;simp only[OC.val0,VV.cv,VV.zQx,CV.shift,this]
theorem yZr:∀(os:List OC) (d:Els (zZl os)) (n m:Nat),(os.all fun x=>x.code.pl)=true→CV.shifts n ((zQ7 os d m).1.map VV.cv)=(zQ7 os d (n+m)).1.map VV.cv
 |[],d,n,m,_=>rfl
 |[o],d,n,m,h=>by
  simp only[J7,List.all_nil,Bool.and_true]at h;simp only[zQ7,Qg,Q8,CV.shifts,OC.xX6 _ _ _ _ h]
 |o::p::os,d,n,m,h=>by
  rw[J7,Qc]at h;simp only[zQ7,Qg,CV.shifts,OC.xX6 _ _ _ _ h.1,yZr (p::os) _ _ _ h.2];rw[o.yWk d.1 (n+m) m,Jp]
theorem yZs(n:Nat)(cs:List CV):(oneOf cs).shift n=oneOf (CV.shifts n cs):=by
 match cs with
 |[]=>rfl
 |[c]=>rfl
 |c::d::cs=>rfl
def zJ1(os:List VObj):Prop:=∀o∈os,∃c ds,c.pl=true∧o=VObj.vec c ds
theorem OC.yZ0:∀(o:OC) (d:El o.code) (n:Nat),o.code.pl=true→zJ1 (o.zQr d n).2
 | .plain c,d,n,_=>by intro o h;simp[OC.zQr]at h
 | .own c,d,n,hp=>by
  intro o h;simp only[OC.zQr]at h;split at h
  ·simp at h
  ·simp at h;exact⟨c,d,hp,h⟩
 | .pair a b,d,n,hp=>by
  intro o h;simp only[C.pl,Qc]at hp;simp only[OC.zQr,Qy]at h;rcases h with h|h
  ·exact OC.yZ0 a _ _ hp.1 o h
  ·exact OC.yZ0 b _ _ hp.2 o h
theorem OC.xYq(o:OC)(d:El o.code)(n:Nat)(hp:o.code.pl=true):zJ1 (o.val0 d n).2:=by
 cases o with
 |plain c=>intro o h;simp[OC.val0]at h
 |own c=>
  intro o h;simp only[OC.val0]at h;split at h
  ·simp at h
  ·simp at h;exact⟨c,d,hp,h⟩
 |pair a b=>exact OC.yZ0 _ d n hp
theorem xWf:∀(os:List OC) (d:Els (zZl os)) (n:Nat),(zQ7 os d n).1.length=os.length
 |[],d,n=>rfl
 |[o],d,n=>rfl
 |o::p::os,d,n=>by simp only[zQ7,Jc,xWf (p::os)]
theorem zZp:∀(os:List OC) (d:Els (zZl os)) (n:Nat),(os.all fun x=>x.code.pl)=true→zJ1 (zQ7 os d n).2
 |[],d,n,_=>by intro o h;simp[zQ7]at h
 |[o],d,n,hp=>o.xYq d n (by simpa using hp)
 |o::p::os,d,n,hp=>by
  intro x h;rw[J7,Qc]at hp;simp only[zQ7,Qy]at h;rcases h with h|h
  ·exact o.xYq _ _ hp.1 x h
  ·exact zZp (p::os) _ _ hp.2 x h
theorem zJ1.shift{os:List VObj}(h:zJ1 os)(n:Nat):(hc os).map (HObj.shift n)=hc os:=by
 unfold hc;rw[J5];refine J4 fun o ho=>?_
 obtain⟨c,ds,hp,rfl⟩:=h o ho;simp only[Function.comp,VObj.ho,HObj.shift];rw[CV.zXz n _ (zZx hp ds)]
theorem zJ1.simple{os:List VObj}(h:zJ1 os):(hc os).all HObj.simple=true:=by
 rw[Qq];intro x hx;obtain⟨o,ho,rfl⟩:=Ji.1 hx;obtain⟨c,ds,_,rfl⟩:=h o ho;rfl
def EOk(N:Nat)(φ:Phi)(St:Stab)(w:World)(b:Nat)(e:Ent)(o:HObj):Prop:=
 ∃r base size e0,φ b=some e0∧e0.has r∧e= .own r base size∧N≤r∧(∀j,¬St r j)∧∃(cs:List CV) (arr:Array Value) (elem:TypeId×Nat×Nat),o= .cells cs∧w.heap[r]? =some (.cells arr elem.1 elem.2)∧
  (arr.size=size∧Unfz elem.2 size)∧base+cs.length≤size∧∀(j:Nat) (c:CV),cs[j]?=some c→∃v,arr[base+j]?=some v∧VR φ St w c v
theorem EOk.of_own{N:Nat}{φ:Phi}{St:Stab}{H:Heap}{w:World}(R:Rel N φ St H w){b r base size off m:Nat}{cs:List CV}(hφ:φ b=some (.own r base size))(hH:H[b]? =some (.cells cs))(hle:off+m≤cs.length):
  EOk N φ St w b (.own r (base+off) size) (.cells ((cs.drop off).take m)):=by
 obtain⟨k1,cs',arr,elem,k2,k3,k4,k5,k6⟩:=R.own _ _ _ _ hφ;rw[hH]at k2;simp at k2;subst k2;refine⟨r,base+off,size,_,hφ,rfl,rfl,k1,fun j=>R.stOwn _ _ _ _ j hφ,_,arr,elem,rfl,k3,k4,by simp;omega,fun j cj hj=>?_⟩
 have hj2:cs[off+j]?=some cj:=by
  rw[Ko]at hj;split at hj
  ·rw[Jr]at hj;exact hj
  ·simp at hj
 obtain⟨v,a1,a2⟩:=k6 _ _ hj2;exact⟨v,by rw[Jp];exact a1,a2⟩
theorem EOk.of_row{N:Nat}{φ:Phi}{St:Stab}{H:Heap}{w:World}{b off m k:Nat}{rs:List Row}{row:Row}{cs:List CV}(hφ:φ b=some (.rows rs))(hr:rs[k]? =some row)(ho:yZe N φ St w row cs){r base lim:Nat}
  (hb:row.blk=some (r,base,lim)) (hle:off+m≤cs.length):∃size,base+lim≤size∧EOk N φ St w b (.own r (base+off) size) (.cells ((cs.drop off).take m)):=by
 obtain⟨h1,_,h2⟩:=ho;obtain⟨k1,h3,⟨arr,elem,hw,hz,hsz,hvs⟩,hns⟩:=h2 r base lim hb;refine⟨arr.size,hsz,r,base+off,arr.size,_,hφ,⟨row,Ql hr,base,lim,hb⟩,rfl,k1,hns,_,arr,elem,rfl,hw,⟨rfl,hz⟩,by simp;omega,fun j cj hj=>?_⟩
 have hj2:cs[off+j]?=some cj:=by
  rw[Ko]at hj;split at hj
  ·rw[Jr]at hj;exact hj
  ·simp at hj
 obtain⟨v,a1,a2⟩:=hvs _ _ hj2;exact⟨v,by rw[Jp];exact a1,a2⟩
def yWd(h:zQa)(vs:List VV)(X B:List Nat)(out:Nat→List VV×List VObj)(pl:List CV):Prop:=
 ∀ N φ St w us,Rel N φ St (hc h) w→VRL φ St w (vs.map VV.cv) us→
  (∀b∈B,zJa φ b)∧VRL Phi0 (Froz φ St (hc h)) w pl us∧∀n,∃Es:List (Nat×Ent),Es.length=(out n).2.length∧(Es.map (·.1)).Sublist X∧
   (∀(i:Nat) (p:Nat×Ent) (o:VObj),Es[i]?=some p→(out n).2[i]?=some o→EOk N φ St w p.1 p.2 o.ho)∧
   ∀φn St2,(∀r j,St r j→St2 r j)→(∀r j,zQf φ (hc h) B r j→St2 r j)→(∀(i:Nat) (p:Nat×Ent),Es[i]?=some p→φn (n+i)=some p.2)→VRL φn St2 w ((out n).1.map VV.cv) us
theorem yWd.app{h:zQa}{vs us:List VV}{X Y B D:List Nat}{out out':Nat→List VV×List VObj}{pl pl':List CV}(hl:∀n m,(out n).2.length=(out m).2.length)(a:yWd h vs X B out pl)(b:yWd h us Y D out' pl'):
  yWd h (vs++us) (X++Y) (B++D) (fun n=>((out n).1++(out' (n+(out n).2.length)).1,(out n).2++(out' (n+(out n).2.length)).2)) (pl++pl'):=by
 intro N φ St w zs R hz;rw[Qw]at hz;have h1:=hz.take vs.length;have h2:=hz.drop vs.length;rw[show(vs.map VV.cv++us.map VV.cv).take vs.length=vs.map VV.cv by rw[←Qh (f:=VV.cv) (as:=vs),Kz]]at h1
 rw[show(vs.map VV.cv++us.map VV.cv).drop vs.length=us.map VV.cv by rw[←Qh (f:=VV.cv) (as:=vs),Ky]]at h2
 obtain⟨a1,a2,a3⟩:=a N φ St w _ R h1;obtain⟨b1,b2,b3⟩:=b N φ St w _ R h2;refine⟨fun x hx=>(Qy.1 hx).elim (a1 x) (b1 x), ?_,fun n=>?_⟩
 ·have:=a2.append b2
  rwa [Ja]at this
 obtain⟨Es,e1,e2,e3,e4⟩:=a3 n;obtain⟨Fs,f1,f2,f3,f4⟩:=b3 (n+(out n).2.length);refine⟨Es++Fs,by simp only[Q5,e1,f1],by rw[Qw];exact e2.append f2, ?_,fun φn St2 hs ho hφ=>?_⟩
 ·intro i p o hp hq
  by_cases hi:i<Es.length
  ·rw[Qb hi]at hp
   rw[Qb (by rw[←e1];exact hi)]at hq
   exact e3 i p o hp hq
  ·rw[Qj (by omega)]at hp
   rw[Qj (by rw[←e1];omega)]at hq
   rw[e1]at hp;exact f3 _ p o hp hq
 ·have k1:=e4 φn St2 hs (fun r j hr=>ho r j ?_) (fun i p hp=>hφ i p ?_)
  have k2:=f4 φn St2 hs (fun r j hr=>ho r j ?_) (fun i p hp=>?_)
  ·have:=k1.append k2
   rw[Ja]at this;rw[Qw];exact this
  ·obtain⟨b,hb,hr⟩:=hr;exact⟨b,Q7 _ hb,hr⟩
  ·have:=hφ (Es.length+i) p (by rw[Qj (by omega),Ki];exact hp)
   rw[e1]at this;rw[Jp];exact this
  ·obtain⟨b,hb,hr⟩:=hr;exact⟨b,Qv _ hb,hr⟩
  ·rw[Qb (List.getElem?_eq_some_iff.1 hp).1];exact hp
theorem yWd.plain{h:zQa}{vs:List VV}{B:List Nat}{ws:List VV}{pl:List CV}(hpl:ws.map VV.cv=pl)(hp:zQ2 (ws.map VV.cv)=true)
  (h1:∀N φ St w us,Rel N φ St (hc h) w→VRL φ St w (vs.map VV.cv) us→VRL Phi0 (fun r j=>St r j∨zQf φ (hc h) B r j) w (ws.map VV.cv) us∧∀b∈B,zJa φ b):yWd h vs [] B (fun _=>(ws,[])) pl:=by
 intro N φ St w us R hu;obtain⟨k1,k2⟩:=h1 N φ St w us R hu;refine⟨k2, ?_,fun n=>⟨[],rfl,List.Sublist.slnil,by simp,fun φn St2 hs ho _=>?_⟩⟩
 ·rw[←hpl]
  refine k1.pure (fun r j hr=>?_) hp
  rcases hr with hr|⟨b,hb,base,size,cs,h1,h2,h3⟩
  ·exact .inl hr
  ·exact .inr (.inl ⟨b,base,size,cs,h1,h2,h3⟩)
 ·refine k1.pure (fun r j hr=> ?_) hp
  rcases hr with hr|hr
  ·exact hs r j hr
  ·exact ho r j hr
theorem wKv{β:Type}{r:β}{h:zQa}{c:C}{v:VV}{K:El c→List Nat→List Nat→Option β}(he:(if zJk v=true then none else deF h c v fun d=>K d [] (if zW1 v then v.blkS else []))=some r):
  ∃d X B,K d X B=some r∧yWd h [v] X B (fun n=>([valV c d],[])) [valC c d]:=by
 split at he
 ·simp at he
 rename_i hm;obtain⟨d,h1,h2⟩:=xJ6 (by simpa using hm) he
 refine⟨d,_,_,h1,yWd.plain (by simp only[Qg,Q8,zQv]) (by simp only[Qg,Q8,zQv,zQ2,zQ8 c d (wJm he),Wg]) fun N φ St w us R hu=>?_⟩
 simp only[Qg,Q8]at hu⊢;cases hu with|cons _ u _ us a b=>
 cases b;obtain⟨e1,e2⟩:=h2 N φ St w u R a;exact⟨.cons _ _ _ _ (by rw[zQv];exact e1) .nil,e2⟩
theorem vYn{β:Type}{r:β}{h:zQa}{c:C}{vs:List VV}{K:El (OC.own c).code→List Nat→List Nat→Option β}(hpl:c.pl=true)(he:(OC.own c).outK vs h K=some r):
  ∃d X B,K d X B=some r∧yWd h vs X B (fun n=>(OC.own c).zQr d n) (valC (.list c) d).flat:=by
 simp only[OC.outK]at he;split at he<;>(try (simp at he;done))
 ·rename_i b off len cap ex c'
  split at he<;>(try (simp at he;done))
  rename_i c'' ds hb;split at he<;>(try (simp at he;done))
  rename_i h1;subst h1;split at he<;>(try (simp at he;done))
  rename_i h2;subst h2;split at he<;>(try (simp at he;done))
  rename_i hle;have hpl':(C.list c'').pl=true:=hpl;obtain⟨d0,g1,g2⟩:=xJ6 (K:=fun d=>some d) (v:=.sref b off len cap ex c'') (by show(!c''.pl)=false;rw[hpl];rfl) (show deF h (.list c'') (.sref b off len cap ex c'') (fun d=>some d)=some (Z.seg ds off len) by
   simp only[deF,hpl',aggS,deF0,hb,dif_pos,if_true];rw[Qf hle])
  simp at g1;subst g1;replace hle:off+len≤ds.length:=hle;refine⟨_,_,_,he, ?_⟩;intro N φ St w us R hu;simp only[Qg,Q8]at hu;cases hu with|cons _ u _ us hu hn=>
  cases hn;obtain⟨e1,_⟩:=g2 N φ St w u R hu;simp only[zW1,zXw,Bool.true_or,if_true,VV.blkS,VV.blk]at e1;have hpl:VR Phi0 (Froz φ St (hc h)) w (valC (.list c'') (Z.seg ds off len)) u:=e1.anySt (fun r j hr=>by
   rcases hr with hr|⟨b,hb,base,size,cs,h1,h2,h3⟩
   ·exact .inl hr
   ·exact .inr (.inl ⟨b,base,size,cs,h1,h2,h3⟩)) (zQ8 _ _ hpl')
  refine⟨by simp, .cons _ _ _ _ hpl .nil,fun n=>?_⟩
  obtain⟨rr,base,size,rcap,hφ,rfl,k1,k2,k3,k4⟩:=zQn R hu (by rw[zWf];simp[zKh,hb])
  have hl2:(Z.seg ds off len).length=len:=by simp[Z.seg];omega
  simp only[OC.zQr,hl2];by_cases hlen:len=0
  ·rw[Qf hlen]
   refine⟨[],rfl,List.nil_sublist _,by simp,fun φn St2 hs ho _=>?_⟩
   have hnil:Z.seg ds off len=[]:=Qr.1 (by rw[hl2,hlen])
   refine .cons _ _ _ _ ?_ .nil;simp only[VV.cv,hnil,Q8];subst hlen;exact .slice _ [] none false (some ⟨rr,base+off*c''.cells,none⟩) rcap [] (.inl rfl) .nil (by simp) (by simp) (by simp) trivial
  ·rw[Qi hlen]
   refine⟨[(b, .own rr (base+off*c''.cells) size)],rfl,by simp, ?_,fun φn St2 hs ho hE=>?_⟩
   ·intro i p o hp hq
    cases i with
    |succ i=>simp at hp
    |zero=>
     simp at hp hq;subst hp;subst hq;have:=EOk.of_own R hφ (zWr hb) (off:=off*c''.cells) (m:=len*c''.cells) (by rw[zQp,←Qz];exact Qn _ hle)
     rw[zWh,zWp]at this;exact this
   ·have:=hE 0 _ rfl
    refine .cons _ _ _ _ ?_ .nil;simp only[VV.cv,Nat.zero_mul];exact .sref _ _ _ _ _ _ _ _ _ _ this (by omega) (Qe _) (by simp) (by omega)
 ·refine⟨_,_,_,he, ?_⟩
  intro N φ St w us R hu;simp only[Qg,Q8]at hu;cases hu with|cons _ u _ us hu hn=>
  cases hn;have hu':∀φ' St',VR φ' St' w (.slice c.cells [] none false) u:=by
   intro φ' St';cases hu with|slice _ _ _ _ a cap vs hat hvs hsz hcap hfull htok=>
   exact .slice _ [] none false a cap [] (.inl rfl) .nil (by simp) (by simp) (by simp) trivial
  exact⟨by simp, .cons _ _ _ _ (hu' _ _) .nil,fun n=>⟨[],rfl,List.nil_sublist _,by simp,fun φn St2 hs ho _=>.cons _ _ _ _ (hu' _ _) .nil⟩⟩
 ·rename_i c' ds tok full
  split at he<;>(try (simp at he;done))
  rename_i h1;subst h1;split at he<;>(try (simp at he;done))
  rename_i hz;replace hz:ds.length=0:=hz;have hnil:ds=[]:=Qr.1 hz;refine⟨_,_,_,he, ?_⟩;intro N φ St w us R hu;simp only[Qg,Q8]at hu;cases hu with|cons _ u _ us hu hn=>
  cases hn;subst hnil;have hu':∀φ' St',VR φ' St' w (.slice c'.cells [] none false) u:=by
   intro φ' St';simp only[VV.cv,Q8]at hu;cases hu with|slice _ _ _ _ a cap vs hat hvs hsz hcap hfull htok=>
   exact .slice _ [] none false a cap [] (.inl rfl) .nil (by simp) (by simp) (by simp) trivial
  exact⟨by simp, .cons _ _ _ _ (hu' _ _) .nil,fun n=>⟨[],rfl,List.nil_sublist _,by simp,fun φn St2 hs ho _=>.cons _ _ _ _ (hu' _ _) .nil⟩⟩
 ·rename_i b c' d
  split at he<;>(try (simp at he;done))
  rename_i c'' dss hb;split at he<;>(try (simp at he;done))
  rename_i h1;subst h1;split at he<;>(try (simp at he;done))
  rename_i h2;subst h2;split at he<;>(try (simp at he;done))
  rename_i hx;replace hx:d.xw dss=true:=hx;refine⟨_,_,_,he, ?_⟩;cases d with
  |data _=>simp[MixE.xw]at hx
  |nil=>simp[MixE.xw]at hx
  |ref k off n gen=>
  have hx0:=hx;simp only[MixE.xw,Qc,decide_eq_true_eq,beq_iff_eq]at hx;obtain⟨q1,q2,q3⟩:=hx;intro N φ St w us R hu;simp only[Qg,Q8]at hu;cases hu with|cons _ u _ us hu hn=>
  cases hn;have hpl':=vYq hpl hb (d:=MixE.ref k off n gen) (by exact hx0) N φ St w u R hu
  refine⟨by simp, .cons _ _ _ _ hpl' .nil,fun m=>?_⟩
  have hG:=zJg hb q1 q2;obtain⟨rs,row,a,cap,hφ,hr,rfl,hcap,ho,hu',hg⟩:=zW9 R hu hG;have hget:Z.xget dss (MixE.ref k off n gen)=((dss.getD k []).drop off).take n:=rfl
  replace q2:gen=(dss.getD k []).length:=q2;have hl2:(Z.xget dss (MixE.ref k off n gen)).length=n:=by rw[hget,Jf,J6];omega
  simp only[OC.zQr,hl2];by_cases hlen:n=0
  ·rw[Qf hlen]
   refine⟨[],rfl,List.nil_sublist _,by simp,fun φn St2 hs ho _=>?_⟩
   have hnil:Z.xget dss (MixE.ref k off n gen)=[]:=Qr.1 (by rw[hl2,hlen])
   refine .cons _ _ _ _ ?_ .nil;simp only[VV.cv,hnil,Q8];subst hlen;exact .slice _ [] none false a cap [] (.inl rfl) .nil (by simp) (by simp) (by simp) trivial
  ·rw [Qi hlen]
   have hg:GOk row a c''.cells (off*c''.cells) cap:=by
    rcases hg with h1|h1
    ·omega
    ·exact h1
   unfold GOk at hg;split at hg
   ·rename_i rr base lim hbk
    obtain⟨rfl,hle⟩:=hg;obtain⟨size,hsz,hE0⟩:=EOk.of_row (H:=hc h) hφ hr ho hbk (off:=off*c''.cells) (m:=n*c''.cells) (by rw[zQp,←Qz];exact Qn _ (by omega))
    rw[zWh,zWp]at hE0;refine⟨[(b, .own rr (base+off*c''.cells) size)],rfl,by simp, ?_,fun φn St2 hs ho hE=>?_⟩
    ·intro i p o hp hq
     cases i with
     |succ i=>simp at hp
     |zero=>
      simp at hp hq;subst hp;subst hq;exact hE0
    ·have:=hE 0 _ rfl
     refine .cons _ _ _ _ ?_ .nil;simp only[VV.cv,Nat.zero_mul];have h9:base+off*c''.cells+0+cap*c''.cells≤size:=by
      clear this hE0;omega
     exact .sref _ _ _ _ _ _ _ _ _ _ this hcap (Qe _) (by simp) h9
   ·omega
theorem OC.wXm{β:Type}{r:β}{h:zQa}:∀{o:OC} {vs:List VV} {K:El o.code→List Nat→List Nat→Option β},o.code.pl=true→o.outK vs h K=some r→
  ∃d X B,K d X B=some r∧yWd h vs X B (fun n=>o.zQr d n) ((valC o.code d).flat)
 | .plain c,vs,K,hp,he=>by
  simp only[OC.outK]at he;have hf:∀d:El c,((valV c d).flat.map VV.cv)=(valC c d).flat:=fun d=>by rw[←VV.zYe,zQv]
  split at he
  ·rename_i hagg
   split at he<;>(try (simp at he;done))
   rename_i v;obtain⟨d,X,B,h1,h2⟩:=wKv he;refine⟨d,X,B,h1, ?_⟩;have e1:(valV c d).flat=[valV c d]:=by cases c<;>first|rfl|simp[C.agg]at hagg
   have e2:(valC c d).flat=[valC c d]:=by cases c<;>first|rfl|exact zWd _ _ _ _|simp[C.agg]at hagg
   simp only[OC.zQr,e1,e2];exact h2
  ·split at he<;>(try (simp at he;done))
   rename_i d hd;refine⟨d,[],[],he,yWd.plain (hf d) (zYz c d hp) fun N φ St w us R hu=>⟨?_,by simp⟩⟩
   have:=yZy hd φ St w us hu;rw[hf d];exact this.pure (fun r j hr=>.inl hr) (zXf (zQ8 c d hp))
 | .own c,vs,K,hp,he=>vYn hp he
 | .pair a b,vs,K,hp,he=>by
  simp only[OC.outK]at he;simp only[C.pl,Qc]at hp;obtain⟨x,X,B,h1,h2⟩:=OC.wXm hp.1 he;obtain⟨y,Y,D,k1,k2⟩:=OC.wXm hp.2 h1;refine⟨(x,y),_,_,k1, ?_⟩;have:=yWd.app (fun n m=>by rw[OC.zKa a x n m]) h2 k2
  rw[Ja]at this;exact this
theorem OC.vWs{β:Type}{r:β}{h:zQa}{o:OC}{v:VV}{K:El o.code→List Nat→List Nat→Option β}(hp:o.code.pl=true)(he:o.outV v h K=some r):
  ∃d X B,K d X B=some r∧yWd h [v] X B (fun n=>([(o.val0 d n).1],(o.val0 d n).2)) [valC o.code d]:=by
 cases o with
 |plain c=>exact wKv he
 | own c=>
  have hp':c.pl=true:=hp;obtain⟨d,X,B,h1,h2⟩:=vYn hp' he;refine⟨d,X,B,h1, ?_⟩;have e:(fun n=>([((OC.own c).val0 d n).1],((OC.own c).val0 d n).2))=fun n=>(OC.own c).zQr d n:=by
   funext n
   simp only[OC.val0,OC.zQr];split<;>rfl
  rw[e];exact h2
 |pair a b=>
  simp only[OC.outV]at he;split at he<;>(try (simp at he;done))
  rename_i vs _;obtain⟨d,X,B,h1,h2⟩:=OC.wXm hp he;refine⟨d,X,B,h1, ?_⟩;intro N φ St w us R hu;simp only[Qg,Q8,VV.cv,VV.zQx]at hu;cases hu with|cons _ u _ us hu hn=>
  cases hn;cases hu with|agg _ ws hw=>
  obtain⟨k1,k2,k3⟩:=h2 N φ St w ws R hw;refine⟨k1, .cons _ _ _ _ (.agg _ _ k2) .nil,fun n=>?_⟩
  obtain⟨Es,g1,g2,g3,g4⟩:=k3 n;refine⟨Es,g1,g2,g3,fun φn St2 hs ho hE=>?_⟩
  simp only[OC.val0,Qg,Q8,VV.cv,VV.zQx];exact .cons _ _ _ _ (.agg _ _ (g4 φn St2 hs ho hE)) .nil
theorem yY5{β:Type}{r:β}{h:zQa}:∀{os:List OC} {vs:List VV} {K:Els (zZl os)→List Nat→List Nat→Option β},(os.all fun x=>x.code.pl)=true→wQh os vs h K=some r→
  ∃d X B,K d X B=some r∧yWd h vs X B (fun n=>zQ7 os d n) ((zQ5 (zZl os) d).map VV.cv)
 |[],vs,K,_,he=>by
  simp only[wQh]at he;split at he<;>(try (simp at he;done))
  exact⟨(),[],[],he,yWd.plain rfl rfl fun N φ St w us R hu=>⟨by cases hu;exact .nil,by simp⟩⟩
 |[o],vs,K,hp,he=>by
  simp only[wQh]at he;split at he<;>(try (simp at he;done))
  obtain⟨d,X,B,h1,h2⟩:=OC.vWs (by simpa using hp) he
  refine⟨d,X,B,h1, ?_⟩;have:(zQ5 (zZl [o]) d).map VV.cv=[valC o.code d]:=by simp only[zQ5,Qg,Q8,zQv]
  rw[this];exact h2
 | o::p::os,vs,K,hp,he=>by
  simp only[wQh]at he;split at he<;>(try (simp at he;done))
  rename_i v vs;rw[J7,Qc]at hp;obtain⟨d,X,B,h1,h2⟩:=OC.vWs hp.1 he;obtain⟨ds,Y,D,k1,k2⟩:=yY5 (os:=p::os) hp.2 h1;refine⟨(d,ds),_,_,k1, ?_⟩;have:=yWd.app (fun n m=>by show(o.val0 d n).2.length=(o.val0 d m).2.length;rw[OC.yWk o d n m]) h2 k2
  have e:(zQ5 (zZl (o::p::os)) (d,ds)).map VV.cv=[valC o.code d]++(zQ5 (zZl (p::os)) ds).map VV.cv:=by
   simp only[zQ5,Qg,zQv,List.singleton_append]
  rw[e];exact this
theorem xZj:∀(l:List CV),zQ2 l=true→∀x∈l,zWc x=true
 |[],_,x,hx=>by simp at hx
 |y::l,h,x,hx=>by
  simp only[zQ2,Qc]at h;rcases Jm.1 hx with rfl|hx
  ·exact h.1
  ·exact xZj l h.2 x hx
def SF(c:CV):Prop:=∀(φ:Phi) (St St':Stab) (w:World) (u:Value),VR φ St w c u→VR φ St' w c u
def SFs(cs:List CV):Prop:=∀(φ:Phi) (St St':Stab) (w:World) (us:List Value),VRL φ St w cs us→VRL φ St' w cs us
theorem HIs.sf{cs:List CV}(h:HIs cs):SFs cs:=fun φ St St' w us hu=>h φ St w φ St' w us hu
theorem HI.sf{c:CV}(h:HI c):SF c:=fun φ St St' w u hu=>h φ St w φ St' w u hu
theorem SFs.nil:SFs []:=by intro _ _ _ _ us h;cases h;exact .nil
theorem SFs.cons{c:CV}{cs:List CV}(h:SF c)(k:SFs cs):SFs (c::cs):=by
 intro φ St St' w us hu;cases hu with|cons _ v _ vs h1 h2=>exact .cons _ _ _ _ (h _ _ _ _ _ h1) (k _ _ _ _ _ h2)
theorem SFs.append{as bs:List CV}(h:SFs as)(k:SFs bs):SFs (as++bs):=by
 intro φ St St' w us hu;have h1:=hu.take as.length;have h2:=hu.drop as.length;simp only[Kz,Ky]at h1 h2;rw[←Ja as.length us];exact(h _ _ _ _ _ h1).append (k _ _ _ _ _ h2)
theorem SF.agg{cs:List CV}(h:SFs cs):SF (.agg cs):=by
 intro φ St St' w u hu;cases hu with|agg _ vs hv=>exact .agg _ _ (h _ _ _ _ _ hv)
theorem SF.oneOf{cs:List CV}(h:SFs cs):SF (oneOf cs):=by
 match cs with
 |[]=>intro φ St St' w u hu;cases hu with|tuple _ vs hv=>exact .tuple _ _ (h _ _ _ _ _ hv)
 |[c]=>
  intro φ St St' w u hu;have:=h φ St St' w [u] (.cons _ _ _ _ hu .nil);cases this with|cons _ _ _ _ h1 _=>exact h1
 |c::d::cs=>intro φ St St' w u hu;cases hu with|tuple _ vs hv=>exact .tuple _ _ (h _ _ _ _ _ hv)
theorem SF.empty(esz:Nat)(full:Bool):SF (.slice esz [] none full):=by
 intro φ St St' w u hu;cases hu with|slice _ _ _ _ a cap vs hat hvs hsz hcap hfull htok=>
 have:vs=[]:=by cases hvs;rfl
 subst this;exact .slice _ [] none full a cap [] (.inl rfl) .nil (by simp) hcap hfull trivial
theorem SF.sref(esz b off len cap:Nat)(ex:Bool):SF (.sref esz b off len cap ex):=by
 intro φ St St' w u hu;cases hu with
 |sref _ _ _ _ _ _ r base size rcap h h1 h2 h3 h4=>exact .sref _ _ _ _ _ _ _ _ _ _ h h1 h2 h3 h4
 |srefDead _ _ _ _ _ _ a rcap h=>exact .srefDead _ _ _ _ _ _ _ _ h
theorem OC.yQ9:∀(o:OC) (d:El o.code) (n:Nat),o.free=true→SFs ((o.zQr d n).1.map VV.cv)∧∀x∈(o.zQr d n).2,∃cs,x.ho= .cells cs∧∀y∈cs,HI y
 | .plain c,d,n,h=>by
  refine⟨?_,by simp[OC.zQr]⟩
  simp only[OC.zQr];rw[←VV.zYe,zQv];exact(zWq c d h).2.sf
 | .own c,d,n,h=>by
  simp only[OC.zQr];split
  ·rename_i hz
   refine⟨?_,by simp⟩
   simp only[Qg,Q8,VV.cv,Qr.1 hz];exact SFs.cons (SF.empty _ _) SFs.nil
  ·refine⟨SFs.cons (SF.sref _ _ _ _ _ _) SFs.nil,fun x hx=> ?_⟩
   simp at hx;subst hx;refine⟨_,rfl, ?_⟩;intro y hy;simp only[vecC,J0]at hy;obtain⟨e,_,hy⟩:=hy;exact yQb c e h y hy
 | .pair a b,d,n,h=>by
  simp only[OC.free,Qc]at h;obtain⟨a1,a2⟩:=OC.yQ9 a d.1 n h.1;obtain⟨b1,b2⟩:=OC.yQ9 b d.2 (n+(a.zQr d.1 n).2.length) h.2;simp only[OC.zQr,Qw];exact⟨a1.append b1,fun x hx=>(Qy.1 hx).elim (a2 x) (b2 x)⟩
theorem OC.xYr(o:OC)(d:El o.code)(n:Nat)(h:o.free=true):SF (o.val0 d n).1.cv∧∀x∈(o.val0 d n).2,∃cs,x.ho=.cells cs∧∀y∈cs,HI y:=by
 cases o with
 |plain c=>exact⟨by simp only[OC.val0];rw[zQv];exact(zWq c d h).1.sf,by simp[OC.val0]⟩
 | own c=>
  have:=OC.yQ9 (.own c) d n h;simp only[OC.zQr]at this;simp only[OC.val0];split
  ·rename_i hz
   rw[Qf hz]at this;refine⟨fun φ St St' w u hu=>?_,this.2⟩
   have:=this.1 φ St St' w [u] (.cons _ _ _ _ hu .nil);cases this with|cons _ _ _ _ h1 _=>exact h1
  ·rename_i hz
   rw[Qi hz]at this;exact⟨SF.sref _ _ _ _ _ _,this.2⟩
 |pair a b=>
  obtain⟨h1,h2⟩:=OC.yQ9 (.pair a b) d n h;exact⟨by simp only[OC.val0,VV.cv,VV.zQx];exact SF.agg h1,h2⟩
theorem yJl:∀(os:List OC) (d:Els (zZl os)) (n:Nat),os.all OC.free=true→SFs ((zQ7 os d n).1.map VV.cv)∧∀x∈(zQ7 os d n).2,∃cs,x.ho= .cells cs∧∀y∈cs,HI y
 |[],d,n,h=>⟨SFs.nil,by simp[zQ7]⟩
 |[o],d,n,h=>by
  simp at h;obtain⟨h1,h2⟩:=o.xYr d n h;exact⟨SFs.cons h1 SFs.nil,h2⟩
 |o::p::os,d,n,h=>by
  simp only[J7,Qc]at h;obtain⟨h1,h2⟩:=o.xYr d.1 n h.1;obtain⟨k1,k2⟩:=yJl (p::os) d.2 (n+(o.val0 d.1 n).2.length) (by simpa using h.2)
  simp only[zQ7,Qg];exact⟨SFs.cons h1 k1,fun x hx=>(Qy.1 hx).elim (h2 x) (k2 x)⟩
theorem xW0:∀{l:List Nat},wZg l=true→l.Nodup
 |[],_=>.nil
 |x::l,h=>by
  simp only[wZg,Qc,J3,Km,decide_eq_false_iff_not]at h;exact List.nodup_cons.2 ⟨h.1,xW0 h.2⟩
section
variable {P:Program} {c:Cfg}
def OwnD(P:Program)(c:Cfg)(f:FuncId)(o:OFn):Prop:=∀d r,o.fn d=some r→zZk P c f ((zQ5 o.args d).map VV.cv) (oneV (zQ7 o.ores r 0).1).cv (hc (zQ7 o.ores r 0).2)
theorem uWj {h:zQa}{v:VV}{vs:List VV}{k:Nat}(hv:∀φ St w u,VR φ St w v.cv u→∃us,VRL φ St w (vs.map VV.cv) us∧∀φ' St' (ws:List CV),ws.length=k→VRL φ' St' w ws us→VR φ' St' w (oneOf ws) u)
    {X B:List Nat} {out:Nat→List VV×List VObj} {pl:List CV} (ho:yWd h vs X B out pl) (hX:X.Nodup) (hXB:∀b∈X,b∉B) (hrow:zJ1 (out 0).2) (hk:(out 0).1.length=k)
    {St:Stab} {w:World} (hst:∀r j,St r j→r<w.heap.size) {φ':Phi} {St':Stab} {w':World} {u:Value} (R:Rel w.heap.size φ' St' (hc h) w') (f:Frm 0 Phi0 St w φ' St' w') (hvr:VR φ' St' w' v.cv u):
    ∃φn St2,Frm 0 Phi0 St w φn St2 w'∧Rel w.heap.size φn St2 (hc (out 0).2) w'∧VR φn St2 w' (oneV (out 0).1).cv u:=by
  obtain⟨zs,hzs,hback⟩:=hv _ _ _ _ hvr;obtain⟨o1,_,o3⟩:=ho _ _ _ _ zs R hzs;obtain⟨Es,g1,g2,g3,g4⟩:=o3 0;have hnd:(Es.map (·.1)).Nodup:=hX.sublist g2
  let φn:Phi:=fun b=>(Es[b]?).map (·.2)
  let St2:Stab:=fun r j=>St' r j∨zQf φ' (hc h) B r j
  have hEi:∀{b:Nat} {e:Ent},φn b=some e→∃p o,Es[b]?=some p∧(out 0).2[b]?=some o∧p.2=e∧EOk w.heap.size φ' St' w' p.1 e o.ho∧p.1∈X:=by
    intro b e hb;simp only[φn,J8]at hb;obtain⟨p,hp,rfl⟩:=hb;have hlt:b<Es.length:=(List.getElem?_eq_some_iff.1 hp).1;have ho:(out 0).2[b]?=some ((out 0).2[b]'(by rw[←g1];exact hlt)):=Qm _
    exact⟨p,_,hp,ho,rfl,g3 b p _ hp ho,g2.subset (Ji.2 ⟨p,Ql hp,rfl⟩)⟩
  refine⟨φn,St2, ?_, ?_,by rw[zXa];exact hback φn St2 _ (by rw[Qh,hk]) (g4 φn St2 (fun _ _ h=>.inl h) (fun _ _ h=>.inr h) fun i p hp=>by simp only[φn,Jo,hp];rfl)⟩
  · exact { ext :=fun _=> .fresh _,st:=fun r j h=> .inl (f.st r j h),keep:=f.keep,size:=f.size,
            stNew:=fun r j h=>by
              rcases h with h|⟨b,hb,base,size,cs,hφ,_⟩
              · rcases f.stNew r j h with h|h|⟨b,e,hb,_⟩
                ·exact .inl h
                ·exact .inr (.inl h)
                ·simp[Phi0]at hb
              ·exact .inr (.inl (R.own b r base size hφ).1),
            blkNew:=fun b e r hb he=>by
              obtain⟨p,o,_,_,_,⟨rr,base,size,e0,hφ,hh,rfl,hN,_⟩,_⟩:=hEi hb;simp[Ent.has]at he;subst he;exact .inr hN,
            keepBlk:=fun r hr _=>f.keepBlk r hr (by simp[Phi0]),
            idNew:=fun _ h=>by omega,os:=f.os,output:=f.output,tape:=f.tape}
  · refine⟨?_, ?_, ?_, ?_, ?_, ?_, ?_, ?_, ?_,f.size, ?_, ?_, ?_⟩
    · intro b e hb
      obtain⟨p,o,_,ho,_⟩:=hEi hb;have:=(List.getElem?_eq_some_iff.1 ho).1;simpa[hc]using this
    · intro b hb
      obtain⟨p,o,_,_,_,⟨rr,base,size,e0,_,_,he,_⟩,_⟩:=hEi hb;simp at he
    · intro b r base size hb
      obtain⟨p,o,_,ho,_,⟨rr,base0,size0,e0,hφ,hh,he,hN,hns,cs,arr,elem,hoo,hw,hz,hle,hvs⟩,_⟩:=hEi hb;simp at he;obtain⟨rfl,rfl,rfl⟩:=he;refine⟨hN,cs,arr,elem,by rw[zQ6,ho];simp[hoo],hw,hz,hle,fun j cj hj=>?_⟩
      obtain⟨v,a1,a2⟩:=hvs _ _ hj;refine⟨v,a1,a2.pure (fun _ _ h=>.inl h) ?_⟩
      obtain⟨c0,ds,hp0,rfl⟩:=hrow o (Ql ho);simp only[VObj.ho,HObj.cells.injEq]at hoo;have hm:cj∈vecC c0 ds:=by rw[hoo];exact Ql hj
      exact xZj _ (zZx hp0 ds) _ hm
    · intro k r used u size hb
      obtain⟨p,o,_,_,_,⟨rr,base,size,e0,_,_,he,_⟩,_⟩:=hEi hb;simp at he
    · intro b r hb
      obtain⟨p,o,_,_,_,⟨rr,base,size,e0,_,_,he,_⟩,_⟩:=hEi hb;simp at he
    · intro b b' e e' r hb hb' he he'
      obtain⟨p,o,hp,_,_,⟨rr,base,size,e0,hφ,hh,rfl,_⟩,_⟩:=hEi hb;obtain⟨p',o',hp',_,_,⟨rr',base',size',e0',hφ',hh',rfl,_⟩,_⟩:=hEi hb';simp[Ent.has]at he he';subst he;subst he'
      have hpp:=R.inj _ _ _ _ _ hφ hφ' hh hh';have i1:(Es.map (·.1))[b]?=some p.1:=by rw[Qt,hp];rfl
      have i2:(Es.map (·.1))[b']?=some p.1:=by rw[Qt,hp',hpp];rfl
      exact(List.getElem?_inj (List.getElem?_eq_some_iff.1 i1).1 hnd).1 (i1.trans i2.symm)
    · intro r j h
      rcases h with h|⟨b,hb,base,size,cs,hφ,_⟩
      ·exact R.stLt r j h
      ·exact(R.lt hφ rfl).2
    · intro b r base size j hb hs
      obtain⟨p,o,_,_,_,⟨rr,base0,size0,e0,hφ,hh,he,_,hns,_⟩,hpX⟩:=hEi hb;simp at he;obtain⟨rfl,_,_⟩:=he;rcases hs with hs|⟨b',hb',base',size',cs',hφ',_⟩
      ·exact hns j hs
      · have:=R.inj _ _ _ _ _ hφ hφ' hh rfl
        exact hXB _ hpX (this▸hb')
    · intro k r used u size j hb hs
      obtain⟨p,o,_,_,_,⟨rr,base,size,e0,_,_,he,_⟩,_⟩:=hEi hb;simp at he
    · intro k u hb
      obtain⟨p,o,_,_,_,⟨rr,base,size,e0,_,_,he,_⟩,_⟩:=hEi hb;simp at he
    · intro b rs hb
      obtain⟨p,o,_,_,_,⟨rr,base,size,e0,_,_,he,_⟩,_⟩:=hEi hb;simp at he
    · intro b css hx
      rw[zQ6,J8]at hx;obtain⟨o,ho,hoo⟩:=hx;obtain⟨c0,ds,_,rfl⟩:=hrow o (Ql ho);cases hoo
theorem zZk.of_out{f:FuncId}{args:List CV}{h:zQa}{v:VV}{vs:List VV}{k:Nat}(hv:∀φ St w u,VR φ St w v.cv u→∃us,VRL φ St w (vs.map VV.cv) us∧∀φ' St' (ws:List CV),ws.length=k→VRL φ' St' w ws us→VR φ' St' w (oneOf ws) u)
  (hF:zQo P c (.fn f) args [] .ret [v.cv] (hc h)) {X B:List Nat} {out:Nat→List VV×List VObj} {pl:List CV} (ho:yWd h vs X B out pl) (hX:X.Nodup) (hXB:∀b∈X,b∉B) (hrow:zJ1 (out 0).2) (hk:(out 0).1.length=k):
  zZk P c f args (oneV (out 0).1).cv (hc (out 0).2):=by
 obtain⟨hent,hC⟩:=hF;refine⟨hent,fun St w us hst hg hu=>(hC w.heap.size Phi0 St w us (Rel.xYw hst) hg hu).mono ?_⟩
 intro e w' hp;cases e with
 |outgrown=>exact hp.elim
 |panicked ch=>obtain⟨_,_,_,_,_,h3,_⟩:=hp;simp at h3
 |returned u=>
 obtain⟨φ',St',l,c1,_,h3,hvr⟩:=hp;simp at h3;subst h3;obtain⟨φn,St2,k1,k2,k3⟩:=uWj hv ho hX hXB hrow hk hst l.rel l.frm hvr;exact⟨u,φn,St2,rfl,k1,k2,k3⟩
theorem zZk.vZj{f:FuncId}{args args':List CV}{v:CV}{H O:Heap}(h:zZk P c f args' v O)(hg:zZa c)(ha:FRs H args args')(hs:O.all HObj.simple=true)(hv:SF v)(hO:∀x∈O,∃cs,x= .cells cs∧∀y∈cs,HI y):
    zQo P c (.fn f) args H .ret [v.shift H.length] (H++O.map (HObj.shift H.length)):=by
  obtain⟨hent,hC⟩:=h;refine⟨hent,fun N φ St w us R hgr hu=>(hC (Froz φ St H) w us ?_ (fun i v hi=>(hgr i v hi).pure Froz.of (hg i v hi)) (ha _ _ _ _ _ R hu)).mono ?_⟩
  · intro r j h
    rcases h with h|⟨b,base,size,cs,hb,_⟩|h
    ·exact R.stLt r j h
    ·exact(R.lt hb rfl).2
    · obtain⟨b,rs,hb,hh⟩:=h.ent
      exact(R.lt hb hh).2
  rintro e w' ⟨u,φ',St',rfl,f,R',hvr⟩;have R2:Rel w.heap.size φ' St O w':=by
    refine⟨R'.dom,R'.dead, ?_,R'.tail, ?_,R'.inj,fun r j h=>Kt (R.stLt r j h) f.size, ?_, ?_,R'.start,R'.void,fun b rs hb=>by obtain⟨css,h1,_⟩:=R'.rows b rs hb;obtain⟨cs,e,_⟩:=hO _ (Ql h1);(cases e),R'.rdom⟩
    · intro b r base size hb
      obtain⟨h1,cs,a,e,h2,h3,h4,h5,h6⟩:=R'.own b r base size hb;refine⟨h1,cs,a,e,h2,h3,h4,h5,fun j c hc=>?_⟩
      obtain⟨v,a1,a2⟩:=h6 j c hc;obtain⟨cs',hcs,hi⟩:=hO _ (Ql h2);simp at hcs;subst hcs;exact⟨v,a1,hi c (Ql hc) _ _ _ _ _ _ _ a2⟩
    · intro b r hb
      obtain⟨h1,o,O',h2,h3,h4⟩:=R'.obj b r hb;have:=Qq.1 hs o (Ql h2);cases h4<;>simp[HObj.simple]at this
    · intro b r base size j hb hs
      have a1:=(R'.own b r base size hb).1;have a2:=R.stLt r j hs;omega
    · intro k r used u size j hb hs
      have a1:=(R'.tail k r used u size hb).1;have a2:=R.stLt r j hs;omega
  have f2:Frm 0 Phi0 St w φ' St w':=
    {ext:=f.ext,st:=fun _ _ h=>h,keep:=fun r j h=>f.keep r j (.inl h),size:=f.size,stNew:=fun r j h=>.inl h,blkNew:=f.blkNew,keepBlk:=f.keepBlk,idNew:=f.idNew,os:=f.os,output:=f.output,tape:=f.tape}
  obtain⟨RJ,m⟩:=R.join f2 R2 hs;refine⟨_,_,⟨RJ, ?_,Keep.append _ _ _⟩,_,rfl,rfl,(hv _ _ _ _ _ hvr).shift fun b e h=>by rw[Phi.wXy];exact h⟩
  exact { toMono:=m,size:=f.size,stNew:=fun r j h=>.inl h,blkNew:=fun b e r hb he=>by
            rcases Phi.join_some hb with⟨_,h1⟩|⟨k,rfl,hk⟩
            ·exact .inl ⟨b,e,h1,he⟩
            ·exact .inr (R'.lt hk he).1,
          keepBlk:=fun r hr _=>f.keepBlk r hr (by simp[Phi0]),idNew:=fun b hb hn=>by rw[Phi.xJj hb];exact hn,os:=f.os,output:=f.output,tape:=f.tape}
theorem zZk.wYp{f:FuncId}{args args':List CV}{v:CV}{H O:Heap}{bs:List Nat}(h:zZk P c f args' v O)(hg:zZa c)(ha:FRb H bs args args')(hs:O.all HObj.simple=true):
  zQo P c (.fn f) args H .ret [v.shift H.length] (zZv bs H++O.map (HObj.shift H.length)):=by
 obtain⟨hent,hC⟩:=h;refine⟨hent,fun N φ St w us R hgr hu=>?_⟩
 obtain⟨e1,e2⟩:=ha N φ St w us R hu;obtain⟨φ1,R1,F1,k1,k2,k3⟩:=yX4 bs R e2;have hX:∀r j,zQf φ H bs r j→r<w.heap.size∧∀b e,φ1 b=some e→¬e.has r:=by
  rintro r j ⟨b,hb,base,size,cs,hφ,_⟩;refine⟨(R.lt hφ rfl).2,fun b' e' hb' he=>?_⟩
  rcases k1 b' e' hb' with rfl|h
  ·simp[Ent.has]at he
  ·have:=R.inj b' b e' _ r h hφ he rfl
   subst this;rw[k2 b' hb]at hb';simp at hb';subst hb';simp[Ent.has]at he
 have R2:=R1.wQp hX;refine(hC (fun r j=>St r j∨zQf φ H bs r j) w us R2.stLt (fun i v hi=>(hgr i v hi).pure (fun _ _ h=>.inl h) (hg i v hi)) e1).mono ?_
 rintro e w' ⟨u,φ',St',rfl,f,R',hvr⟩;obtain⟨RJ,m⟩:=R2.join f R' hs;rw[zKs]at RJ m;refine⟨_,_,⟨RJ, ?_, ?_⟩,_,rfl,rfl,hvr.shift fun b e h=>by rw[Phi.wXy];exact h⟩
 ·refine{ext:=fun b=>(F1.ext b).trans (m.ext b),st:=fun r j h=>f.st r j (.inl h),keep:=fun r j h=>f.keep r j (.inl h),size:=f.size,stNew:=fun r j h=> ?_,blkNew:=fun b e r hb he=> ?_,keepBlk:=fun r hr _=>f.keepBlk r hr (by simp[Phi0]),idNew:=fun b hb hn=> ?_,os:=f.os,output:=f.output,tape:=f.tape}
  ·rcases f.stNew r j h with(h|⟨b,hb,base,size,cs,hφ,_⟩)|h|⟨b,e,hb,_⟩
   ·exact .inl h
   ·exact .inr (.inr ⟨b,_,hφ,rfl⟩)
   ·exact .inr (.inl h)
   ·simp[Phi0]at hb
  ·rcases Phi.join_some hb with⟨_,h1⟩|⟨k,rfl,hk⟩
   ·exact F1.blkNew b e r h1 he
   ·exact .inr (R'.lt hk he).1
  ·rw[Phi.xJj hb];exact F1.idNew b hb hn
 ·refine⟨by simp[zKs],fun b hb hn=> ?_⟩
  rw[Qb (by rw[zKs];exact hb)]
  refine zXi bs H fun hm=>?_
  rcases e2 b hm with⟨_,_,_,h⟩|h<;>rw[hn]at h<;>simp at h
end
end
end Go.Eng
/- A row that is handed to a call and comes back: its room is not asked. -/
namespace Go.Eng
def Bare(N:Nat)(St:Stab)(w:World)(r base size:Nat)(cs:List CV):Prop:=
 N≤r∧(∃(arr:Array Value) (elem:TypeId×Nat×Nat),w.heap[r]? =some (.cells arr elem.1 elem.2)∧(arr.size=size∧Unfz elem.2 size)∧base+cs.length≤size∧
  ∀(j:Nat) (c:CV),cs[j]?=some c→∃v,arr[base+j]?=some v∧VR Phi0 St w c v)∧∀j,¬St r j
def twoE(e0:Option (Nat×Nat×Nat))(e1:Nat×Nat×Nat):Phi:=fun b=>if b=0 then e0.map (fun x=>.own x.1 x.2.1 x.2.2)else if b=1 then some (.own e1.1 e1.2.1 e1.2.2)else none
theorem zZ4{e0:Option (Nat×Nat×Nat)}{e1:Nat×Nat×Nat}{b:Nat}{e:Ent}(h:twoE e0 e1 b=some e):(b=0∧∃x,e0=some x∧e=.own x.1 x.2.1 x.2.2)∨(b=1∧e=.own e1.1 e1.2.1 e1.2.2):=by
 unfold twoE at h;split at h
 ·rename_i hb
  obtain⟨x,h1,h2⟩:=J8.1 h;exact .inl ⟨hb,x,h1,h2.symm⟩
 ·split at h
  ·rename_i hb
   exact .inr ⟨hb,(Wl h).symm⟩
  ·simp at h
def wQ4(e0:Option (Nat×Nat×Nat))(cs:List CV):HObj:=match e0 with
 |some _=>.cells cs
 |none=>.dead
theorem Rel.two{N:Nat}{St:Stab}{w:World}{e0:Option (Nat×Nat×Nat)}{e1:Nat×Nat×Nat}{cs cs2:List CV}(hst:∀r j,St r j→r<w.heap.size)(hN:N≤w.heap.size)
  (h0:∀x,e0=some x→Bare N St w x.1 x.2.1 x.2.2 cs∧x.1≠e1.1) (h1:Bare N St w e1.1 e1.2.1 e1.2.2 cs2):Rel N (twoE e0 e1) St [wQ4 e0 cs, .cells cs2] w:=by
 have m:Mono Phi0 St w (twoE e0 e1) St w:=⟨fun _=>.fresh _,fun _ _ h=>h,fun _ _ _=>rfl⟩
 refine⟨fun b e h=>?_,fun b h=>?_,fun b r base size h=>?_,fun k r used u size h=>?_,fun b r h=>?_,fun b b' e e' r h h' he he'=>?_,hst,fun b r base size j h=>?_,fun k r used u size j h=>?_,hN,fun k u h=>?_,fun b rs h=>?_,fun b css h=>?_⟩
 ·rcases zZ4 h with⟨rfl,_⟩|⟨rfl,_⟩<;>simp
 ·rcases zZ4 h with⟨_,x,_,h⟩|⟨_,h⟩<;>simp at h
 ·rcases zZ4 h with⟨rfl,x,hx,hq⟩|⟨rfl,hq⟩
  ·simp only[Ent.own.injEq]at hq
   obtain⟨rfl,rfl,rfl⟩:=hq;obtain⟨⟨q1,⟨arr,elem,q2,q3,q4,q5⟩,_⟩,_⟩:=h0 x hx;refine⟨q1,cs,arr,elem,by subst hx;rfl,q2,q3,q4,fun j c hc=>?_⟩
   obtain⟨v,a,b⟩:=q5 j c hc;exact⟨v,a,b.mono m⟩
  ·simp only[Ent.own.injEq]at hq
   obtain⟨rfl,rfl,rfl⟩:=hq;obtain⟨q1,⟨arr,elem,q2,q3,q4,q5⟩,_⟩:=h1;refine⟨q1,cs2,arr,elem,rfl,q2,q3,q4,fun j c hc=>?_⟩
   obtain⟨v,a,b⟩:=q5 j c hc;exact⟨v,a,b.mono m⟩
 ·rcases zZ4 h with⟨_,x,_,h⟩|⟨_,h⟩<;>simp at h
 ·rcases zZ4 h with⟨_,x,_,h⟩|⟨_,h⟩<;>simp at h
 ·rcases zZ4 h with⟨rfl,x,hx,rfl⟩|⟨rfl,rfl⟩<;>rcases zZ4 h' with⟨rfl,x',hx',rfl⟩|⟨rfl,rfl⟩
  ·rfl
  ·simp only[Ent.has]at he he'
   exact absurd (he.trans he'.symm) (h0 x hx).2
  ·simp only[Ent.has]at he he'
   exact absurd (he'.trans he.symm) (h0 x' hx').2
  ·rfl
 ·rcases zZ4 h with⟨rfl,x,hx,hq⟩|⟨rfl,hq⟩
  ·simp only[Ent.own.injEq]at hq
   obtain⟨rfl,rfl,rfl⟩:=hq;exact(h0 x hx).1.2.2 j
  ·simp only[Ent.own.injEq]at hq
   obtain⟨rfl,rfl,rfl⟩:=hq;exact h1.2.2 j
 ·rcases zZ4 h with⟨_,x,_,h⟩|⟨_,h⟩<;>simp at h
 ·rcases zZ4 h with⟨_,x,_,h⟩|⟨_,h⟩<;>simp at h
 ·rcases zZ4 h with⟨_,x,_,h⟩|⟨_,h⟩<;>simp at h
 ·cases b with
  |zero=>unfold wQ4 at h;split at h<;>simp at h
  |succ b=>cases b with
   |zero=>simp at h
   |succ b=>simp at h
def wJq(P:Program)(c:Cfg)(f:FuncId)(esz:Nat)(a0:CV)(o0:HObj)(args:List CV)(n2:Nat)(cs2:List CV)(m:Nat)(cs':List CV):Prop:=
 ∃b off cap ex O csk,zQo P c (.fn f) (a0::(args++[.sref esz 1 0 n2 n2 false])) [o0, .cells cs2] .ret [.sref esz b off m cap ex] O∧O[b]?=some (.cells csk)∧(csk.drop off).take (m*esz)=cs'∧cs'.length=m*esz
def vY6(P:Program)(c:Cfg)(f:FuncId)(esz n:Nat)(cs args:List CV)(n2:Nat)(cs2:List CV)(m:Nat)(cs':List CV):Prop:=
 (∀k,n≤k→wJq P c f esz (.sref esz 0 0 n k true) (.cells cs) args n2 cs2 m cs')∧(n=0→wJq P c f esz (.slice esz [] none true) .dead args n2 cs2 m cs')
theorem xKt{cs cs0:List CV}{off n:Nat}(hc:(cs0.drop off).take n=cs)(hp:zQ2 cs=true)(j:Nat)(c:CV)(h:cs[j]?=some c):cs0[off+j]?=some c∧zWc c=true:=by
 refine⟨?_, ?_⟩
 ·rw[←hc]at h
  have hj2:j<n:=by have:=(List.getElem?_eq_some_iff.1 h).1;rw[Jf]at this;omega
  rw[Jh hj2,Jr]at h;exact h
 ·have:∀l:List CV,zQ2 l=true→∀x∈l,zWc x=true:=by
   intro l;induction l with
   |nil=>intro _ x hx;simp at hx
   |cons a l ih=>
    intro h x hx;simp only[zQ2,Qc]at h;rcases Jm.1 hx with rfl|hx
    ·exact h.1
    ·exact ih h.2 x hx
  exact this cs hp c (Ql h)
theorem VRL.snoc{φ:Phi}{St:Stab}{w:World}{cs:List CV}{c:CV}{us:List Value}(h:VRL φ St w (cs++[c]) us):∃vs v,us=vs++[v]∧VRL φ St w cs vs∧VR φ St w c v:=by
 induction cs generalizing us with
 |nil=>obtain⟨v,h1,h2⟩:=VRL.single h;exact⟨[],v,h1, .nil,h2⟩
 |cons x cs ih=>
  cases h with|cons _ u _ us h hs=>
  obtain⟨vs,v,rfl,h1,h2⟩:=ih hs;exact⟨u::vs,v,rfl, .cons _ _ _ _ h h1,h2⟩
section
variable {P:Program} {c:Cfg}
theorem uWr{f:FuncId}{esz n n2 m b b2 off2 cap2:Nat}{ex2:Bool}{cs cs2 cs20 args xs cs':List CV}{H:Heap}{bs:List Nat}(h:vY6 P c f esz n cs args n2 cs2 m cs')(hg:zZa c)(hes:0<esz)
  (hb:H[b]?=some (.rows [cs])) (hcl:cs.length=n*esz) (hb2:H[b2]?=some (.cells cs20)) (hin2:off2+n2*esz≤cs20.length) (hcs2:(cs20.drop off2).take (n2*esz)=cs2)
  (hp:zQ2 cs=true) (hp2:zQ2 cs2=true) (hp':zQ2 cs'=true) (ha:FRb H bs xs args) (hbs:b∉bs) (hbs2:b2∉bs) (hlt:n<m):
  zQo P c (.fn f) (.gref esz b 0 0 n (n*esz)::(xs++[.sref esz b2 off2 n2 cap2 ex2])) H .ret [.gref esz b 0 0 m (m*esz)] (((zZv bs H).set b2 .dead).set b (.rows [cs'])):=by
 have hbb:b≠b2:=fun e=>by rw[e,hb2]at hb;simp at hb
 obtain⟨_,_,_,_,_,_,⟨hent,_⟩,_,_,_⟩:=h.1 n (Qe _);refine⟨hent,fun N φ St w us R hgr hu=>?_⟩
 cases hu with|cons _ u0 _ us hu0 hus=>
 obtain⟨us1,u2,rfl,hus1,hu2⟩:=hus.snoc;obtain⟨rs,row,a,rcap,hφ,hrow0,rfl,hcap,hrok,hru,hgok⟩:=zW9 R hu0 (cs:=cs) (by simp[rowG,hb,hcl])
 obtain⟨r2,base2,size2,rcap2,hφ2,rfl,hc1,hc2,_,hc4⟩:=zQn R hu2 (by simp[live,hb2])
 have hrs:rs=[row]:=by
  obtain⟨css,e1,e2,_⟩:=R.rows b rs hφ;rw[hb]at e1;simp only[Qa,HObj.rows.injEq]at e1;subst e1;simp at e2
  match rs,e2,hrow0 with
  |[x],_,h0=>simp at h0;rw[h0]
 subst hrs;obtain⟨e1,e2⟩:=ha N φ St w us1 R hus1;obtain⟨φ1,R1,F1,k1,k2,k3⟩:=yX4 bs R e2;have hX:∀r j,zQf φ H bs r j→r<w.heap.size∧∀b e,φ1 b=some e→¬e.has r:=by
  rintro r j ⟨b,hb,base,size,cs,hφ,_⟩;refine⟨(R.lt hφ rfl).2,fun b' e' hb' he=>?_⟩
  rcases k1 b' e' hb' with rfl|h
  ·simp[Ent.has]at he
  ·have:=R.inj b' b e' _ r h hφ he rfl
   subst this;rw[k2 b' hb]at hb';simp at hb';subst hb';simp[Ent.has]at he
 have R2:=R1.wQp hX;have hbk:(zZv bs H)[b]?=some (.rows [cs]):=by rw[zXi bs H hbs];exact hb
 have hbk2:(zZv bs H)[b2]?=some (.cells cs20):=by rw[zXi bs H hbs2];exact hb2
 have hφ1:φ1 b=some (.rows [row]):=by
  cases hx:φ1 b with
  |none=>rw[k3 b hx]at hφ;simp at hφ
  | some e=>
   rcases k1 b e hx with rfl|h1
   ·have:=R1.dead b hx
    rw[hbk]at this;simp at this
   ·rw[hφ]at h1;exact h1.symm
 have hφ12:φ1 b2=some (.own r2 base2 size2):=by
  cases hx:φ1 b2 with
  |none=>rw[k3 b2 hx]at hφ2;simp at hφ2
  | some e=>
   rcases k1 b2 e hx with rfl|h1
   ·have:=R1.dead b2 hx
    rw[hbk2]at this;simp at this
   ·rw[hφ2]at h1;exact h1.symm
 obtain⟨R4,F4⟩:=R2.kill hφ12;have hφ4:(φ1.put b2 .dead) b=some (.rows [row]):=by rw[zQc _ _ _ _ hbb];exact hφ1
 have hB2:Bare N (fun r j=>St r j∨zQf φ H bs r j) w r2 (base2+off2) size2 cs2:=by
  obtain⟨q1,cs0,arr,elem,q2,q3,q4,q5,q6⟩:=R2.own b2 r2 base2 size2 hφ12;rw[hbk2]at q2;simp only[Qa,HObj.cells.injEq]at q2;subst q2;have hl2:cs2.length≤n2*esz:=by rw[←hcs2,Jf];omega
  refine⟨q1,⟨arr,elem,q3,q4,by omega,fun j c hj=>?_⟩,fun j=>R2.stOwn _ _ _ _ j hφ12⟩
  obtain⟨g1,g2⟩:=xKt hcs2 hp2 j c hj;obtain⟨v,q7,q8⟩:=q6 _ c g1;exact⟨v,by rw[Jp];exact q7,q8.pure (fun _ _ h=>h) g2⟩
 have hrok2:yZe N φ1 (fun r j=>St r j∨zQf φ H bs r j) w row cs:=by
  obtain⟨row',g1,g2⟩:=R2.rowOf hφ1 hbk (k:=0) (cs:=cs) rfl;simp at g1;subst g1;exact g2
 obtain⟨e0,u1,hcall,hB0,hv0,hsub⟩:∃(e0:Option (Nat×Nat×Nat)) (a0:CV),wJq P c f esz a0 (wQ4 e0 cs) args n2 cs2 m cs'∧
   (∀x,e0=some x→Bare N (fun r j=>St r j∨zQf φ H bs r j) w x.1 x.2.1 x.2.2 cs∧x.1≠r2)∧
   VR (twoE e0 (r2,base2+off2,size2)) (fun r j=>St r j∨zQf φ H bs r j) w a0 (.slice a n rcap)∧(∀x,e0=some x→(Ent.rows [row]).has x.1):=by
  have nil:rcap=0→∃(e0:Option (Nat×Nat×Nat)) (a0:CV),wJq P c f esz a0 (wQ4 e0 cs) args n2 cs2 m cs'∧
   (∀x,e0=some x→Bare N (fun r j=>St r j∨zQf φ H bs r j) w x.1 x.2.1 x.2.2 cs∧x.1≠r2)∧
   VR (twoE e0 (r2,base2+off2,size2)) (fun r j=>St r j∨zQf φ H bs r j) w a0 (.slice a n rcap)∧(∀x,e0=some x→(Ent.rows [row]).has x.1):=fun h0=>by
   subst h0;have hn0:n=0:=by omega
   subst hn0;exact⟨none,_,h.2 rfl,fun x hx=>by simp at hx, .slice esz [] none true a 0 [] (.inl rfl) .nil (by simp) (by simp) (by simp) (by simp[yY0]),fun x hx=>by simp at hx⟩
  rcases hgok with h0|hgok
  ·exact nil h0
  ·unfold GOk at hgok
   split at hgok
   ·rename_i r base lim hblk
    obtain⟨rfl,hlim⟩:=hgok;obtain⟨g1,g0,g2⟩:=hrok2;obtain⟨g3,g4,⟨arr,elem,g5,g6,g7,g8⟩,g9⟩:=g2 r base lim hblk;refine⟨some (r,base,arr.size),_,h.1 rcap hcap,fun x hx=>?_, ?_,fun x hx=>?_⟩
    ·simp only[Qa]at hx
     subst hx;refine⟨⟨g3,⟨arr,elem,g5,⟨rfl,g6⟩,by show base+cs.length≤arr.size;omega,fun j c hj=>?_⟩,g9⟩,fun e=>?_⟩
     ·obtain⟨v,q1,q2⟩:=g8 j c hj
      exact⟨v,q1,q2.pure (fun _ _ h=>h) (xKt (off:=0) (n:=cs.length) (cs0:=cs) (by simp) hp j c hj).2⟩
     ·have e:r=r2:=e
      exact hbb (R2.inj b b2 _ _ r hφ1 hφ12 ⟨row,by simp,base,lim,hblk⟩ e.symm)
    ·exact .sref esz 0 0 n rcap true r base arr.size rcap (by simp[twoE]) (Qe _) hcap (fun _=>rfl) (by omega)
    ·simp only[Qa]at hx
     subst hx;exact⟨row,by simp,base,lim,hblk⟩
   ·exact nil hgok
 obtain⟨b1,off1,cap1,ex1,O,csk,⟨_,hC⟩,hO,hrow,hml⟩:=hcall;have R3:=Rel.two (e1:=(r2,base2+off2,size2)) R2.stLt R2.start hB0 hB2;have m0:Mono Phi0 (fun r j=>St r j∨zQf φ H bs r j) w (twoE e0 (r2,base2+off2,size2)) (fun r j=>St r j∨zQf φ H bs r j) w:=⟨fun _=>.fresh _,fun _ _ h=>h,fun _ _ _=>rfl⟩
 have hv2:VR (twoE e0 (r2,base2+off2,size2)) (fun r j=>St r j∨zQf φ H bs r j) w (.sref esz 1 0 n2 n2 false) (.slice (some ⟨r2,base2+off2,none⟩) n2 rcap2):=
  .sref esz 1 0 n2 n2 false r2 (base2+off2) size2 rcap2 (by simp[twoE]) (by omega) (Qe _) (by simp) (by omega)
 have hmine:∀{b e x},twoE e0 (r2,base2+off2,size2) b=some e→e.has x→(Ent.rows [row]).has x∨x=r2:=fun{b e x} hb he=>by
  rcases zZ4 hb with⟨rfl,y,hy,rfl⟩|⟨rfl,rfl⟩
  ·simp only[Ent.has]at he;subst he;exact .inl (hsub y hy)
  ·simp only[Ent.has]at he;exact .inr he.symm
 have hother:∀b' e x,b'≠b→(φ1.put b2 .dead) b'=some e→e.has x→¬((Ent.rows [row]).has x∨x=r2):=fun b' e x hne hb' he hx=>by
  by_cases hb2':b'=b2
  ·subst hb2';rw[zQg]at hb';simp at hb';subst hb';simp[Ent.has]at he
  ·rw[zQc _ _ _ _ hb2']at hb'
   rcases hx with hx|rfl
   ·exact hne (R2.inj b' b e _ x hb' hφ1 he hx)
   ·exact hb2' (R2.inj b' b2 e _ x hb' hφ12 he rfl)
 refine(hC N _ (fun r j=>St r j∨zQf φ H bs r j) w _ R3 (fun i v hi=>(hgr i v hi).pure (fun _ _ h=>.inl h) (hg i v hi)) (.cons _ _ _ _ hv0 ((e1.mono m0).append (.cons _ _ _ _ hv2 .nil)))).mono ?_
 intro e w' hpost;cases e with
 |outgrown=>exact hpost.elim
 |panicked ch=>obtain⟨_,_,_,_,_,h3,_⟩:=hpost;simp at h3
 |returned u=>
 obtain⟨φ',St',l,c1,_,h3,hvr⟩:=hpost;simp only[List.cons.injEq,and_true]at h3;subst h3;obtain⟨r1,base1,size1,rcap1,hφ',rfl,q1,q2,_,q4⟩:=zQn l.rel hvr (by simp[live,hO])
 have hmr:m*esz≤rcap1*esz:=Qn _ (by omega)
 have hnm:n*esz<m*esz:=Nat.mul_lt_mul_of_pos_right hlt hes;have hblk:∀x,x=r1→((Ent.rows [row]).has x∨x=r2)∨w.heap.size≤x:=fun x hx=>by
  subst hx;rcases l.frm.blkNew b1 _ x hφ' rfl with⟨b0,e0,hb0,he0⟩|hx
  ·exact .inl (hmine hb0 he0)
  ·exact .inr hx
 have hmono:Mono (φ1.put b2 .dead) (fun r j=>St r j∨zQf φ H bs r j) w ((φ1.put b2 .dead).put b (.rows [{blk:=some (r1,base1+off1,rcap1*esz),u:=m*esz}])) St' w':=by
  refine⟨fun b'=>?_,l.frm.st,l.frm.keep⟩
  by_cases hb':b'=b
  ·subst hb';rw[zQg,hφ4]
   refine .rows _ _ fun k' row2 hr2=>?_
   cases k' with
   |zero=>simp at hr2;subst hr2;exact⟨_,rfl, .inr (by rw[hru];exact hnm)⟩
   |succ k'=>simp at hr2
  ·rw[zQc _ _ _ _ hb'];exact .refl _
 have hrowN:yZe N ((φ1.put b2 .dead).put b (.rows [{blk:=some (r1,base1+off1,rcap1*esz),u:=m*esz}])) St' w' {blk:=some (r1,base1+off1,rcap1*esz),u:=m*esz} cs':=by
  refine⟨hml,fun hx=>by simp at hx,fun r base lim hx=>?_⟩
  simp only[Qa,Je]at hx;obtain⟨rfl,rfl,rfl⟩:=hx;obtain⟨g1,cs0,arr,elem,g2,g3,g4,g5,g6⟩:=l.rel.own b1 r1 base1 size1 hφ';rw[hO]at g2;simp only[Qa,HObj.cells.injEq]at g2
  subst g2;refine⟨g1,hmr,⟨arr,elem,g3,by rw[g4.1];exact g4.2,by rw[g4.1];exact q4,fun j c hj=>?_⟩,fun j=>l.rel.stOwn _ _ _ _ j hφ'⟩
  obtain⟨a1,a2⟩:=xKt hrow hp' j c hj;obtain⟨v,a3,a4⟩:=g6 _ c a1;exact⟨v,by rw[Jp];exact a3,a4.pure (fun _ _ h=>h) a2⟩
 have hlen:((zZv bs H).set b2 HObj.dead).length=H.length:=by rw[Kh,zKs]
 have hbl:b<((zZv bs H).set b2 HObj.dead).length:=R4.dom b _ hφ4;have RJ:=R4.change b (.rows [{blk:=some (r1,base1+off1,rcap1*esz),u:=m*esz}]) (.rows [cs']) St' (((zZv bs H).set b2 .dead).set b (.rows [cs'])) w' hmono l.frm.size (by rw[Qk hbl]) (by simp)
  (fun b' e hne hb'=>by rw[Qd (Jw hne)])
  (fun b' e x hne hb' he=>l.frm.keepBlk x (R4.lt hb' he).2 fun b0 e0 hb0 he0=>hother b' e x hne hb' he (hmine hb0 he0))
  l.rel.stLt
  (fun x j hs=>by
   rcases l.frm.stNew x j hs with hs|hs|⟨b0,e0,hb0,he0⟩
   ·exact .inl hs
   ·exact .inr fun b' e hne hb' he=>by have:=(R4.lt hb' he).2;omega
   ·exact .inr fun b' e hne hb' he=>hother b' e x hne hb' he (hmine hb0 he0))
  (fun x hx b' e hne hb' he=>by
   obtain⟨row2,hm2,base',lim',hb2'⟩:=hx;simp only[List.mem_singleton]at hm2;subst hm2;simp only[Qa,Je]at hb2';rcases hblk x hb2'.1.symm with hx|hx
   ·exact hother b' e x hne hb' he hx
   ·have:=(R4.lt hb' he).2;omega)
  ⟨_,rfl,rfl,fun k row2 cs2 hr2 hc2=>by
   cases k with
   |zero=>simp at hr2 hc2;subst hr2;subst hc2;exact hrowN
   |succ k=>simp at hr2,fun k k' row1 row2 r base lim base' lim' hne hr1 hr2=>by
   cases k with
   |zero=>cases k' with
    |zero=>exact absurd rfl hne
    |succ k'=>simp at hr2
   |succ k=>simp at hr1⟩
 have hφb:φ b≠none:=by rw[hφ];simp
 have hφb2:φ b2≠none:=by rw[hφ2];simp
 have hmyφ:∀x,((Ent.rows [row]).has x∨x=r2)→∃b e,φ b=some e∧e.has x:=fun x hx=>by
  rcases hx with hx|rfl
  ·exact⟨b,_,hφ,hx⟩
  ·exact⟨b2,_,hφ2,rfl⟩
 refine⟨_,_,⟨RJ, ?_, ?_⟩,_,rfl,rfl, ?_⟩
 ·refine{ext:=fun b'=>((F1.ext b').trans (F4.ext b')).trans (hmono.ext b'),st:=fun x j h=>l.frm.st x j (.inl h),keep:=fun x j h=>l.frm.keep x j (.inl h),size:=l.frm.size,stNew:=fun x j h=> ?_,blkNew:=fun b' e' x hb' he=> ?_,keepBlk:=fun x hx hn=>l.frm.keepBlk x hx fun b' e' hb' he=> ?_,idNew:=fun b' hb' hn=> ?_,os:=l.frm.os,output:=l.frm.output,tape:=l.frm.tape}
  ·rcases l.frm.stNew x j h with(h|⟨b0,_,base0,size0,_,h0,_⟩)|h|⟨b0,e0,hb0,he0⟩
   ·exact .inl h
   ·exact .inr (.inr ⟨b0,_,h0,rfl⟩)
   ·exact .inr (.inl h)
   ·exact .inr (.inr (hmyφ x (hmine hb0 he0)))
  ·by_cases hbb':b'=b
   ·subst hbb'
    rw[zQg]at hb';simp only[Qa]at hb';subst hb';obtain⟨row2,hm2,base',lim',hb2'⟩:=he;simp only[List.mem_singleton]at hm2;subst hm2;simp only[Qa,Je]at hb2'
    rcases hblk x hb2'.1.symm with hx|hx
    ·exact .inl (hmyφ x hx)
    ·exact .inr hx
   ·rw[zQc _ _ _ _ hbb']at hb'
    by_cases hb2':b'=b2
    ·subst hb2';rw[zQg]at hb';simp at hb';subst hb';simp[Ent.has]at he
    ·rw[zQc _ _ _ _ hb2']at hb'
     exact F1.blkNew b' e' x hb' he
  ·obtain⟨b0,e0',h0,h0'⟩:=hmyφ x (hmine hb' he)
   exact hn b0 e0' h0 h0'
  ·rw[zQc _ _ _ _ (fun e=>hφb (by rw[←e];exact hn)),zQc _ _ _ _ (fun e=>hφb2 (by rw[←e];exact hn))]
   exact F1.idNew b' hb' hn
 ·refine⟨by rw[Kh,hlen];exact Qe _,fun b' hb' hn=> ?_⟩
  rw[Qd (fun e=>hφb (by rw[e];exact hn)),Qd (fun e=>hφb2 (by rw[e];exact hn))]
  refine zXi bs H fun hm=>?_
  rcases e2 b' hm with⟨_,_,_,h⟩|h<;>rw[hn]at h<;>simp at h
 ·refine .gref esz b 0 0 m (m*esz) [{blk:=some (r1,base1+off1,rcap1*esz),u:=m*esz}] _ rcap1 (zQg _ _ _) (by omega) (.inr ⟨by simp,fun row2 hr2=> ?_⟩)
  simp at hr2;subst hr2;exact⟨Qe _,fun _=>by simp[GOk]⟩
end
end Go.Eng
/- A row whose elements have rows in a place, handed to a call with that place: both come back. (Under way: what a place of rows is to a call that has it as its third block.) -/
namespace Go.Eng
theorem Rel.changes{N:Nat}{φ:Phi}{St:Stab}{h:Heap}{w:World}(R:Rel N φ St h w)(B:Nat→Prop)(φ':Phi)(St':Stab)(h':Heap)(w':World)
  (hφ:∀b,¬B b→φ' b=φ b) (m:Mono φ St w φ' St' w') (hsize:w.heap.size≤w'.heap.size) (hlen:h.length≤h'.length)
  (hnew:∀b e,B b→φ' b=some e→∃o,h'[b]?=some o∧vZ5 N φ' St' w' o e)
  (hoth:∀b e,¬B b→φ b=some e→h'[b]?=h[b]?)
  (hkeep:∀b e r,¬B b→φ b=some e→e.has r→w'.heap[r]?=w.heap[r]?)
  (hst:∀r j,St' r j→r<w'.heap.size)
  (hstN:∀r j,St' r j→St r j∨∀b e,¬B b→φ b=some e→¬e.has r)
  (hinj:∀b e b' e' r,B b→φ' b=some e→φ' b'=some e'→e.has r→e'.has r→b=b')
  (hrd:∀b css,h'[b]?=some (.rows css)→(∃rs,φ' b=some (.rows rs))∨(¬B b∧h[b]?=some (.rows css))):Rel N φ' St' h' w':=by
 have inv:∀b' e',φ' b'=some e'→B b'∨(¬B b'∧φ b'=some e'):=by
  intro b' e' hb';by_cases hbb:B b'
  ·exact .inl hbb
  ·exact .inr ⟨hbb,by rw[←hφ b' hbb];exact hb'⟩
 refine⟨?_, ?_, ?_, ?_, ?_, ?_,hst, ?_, ?_,Kf R.start hsize, ?_, ?_, ?_⟩
 ·intro b' e' hb'
  rcases inv b' e' hb' with hB|⟨_,hb'⟩
  ·obtain⟨o,ho,_⟩:=hnew b' e' hB hb'
   exact(List.getElem?_eq_some_iff.1 ho).1
  ·have:=R.dom b' e' hb';omega
 ·intro b' hb'
  rcases inv b' _ hb' with hB|⟨hne,hb2⟩
  ·obtain⟨o,ho,he⟩:=hnew b' _ hB hb'
   rw[ho,show o=.dead from he]
  ·rw[hoth b' _ hne hb2];exact R.dead b' hb2
 ·intro b' r base size hb'
  rcases inv b' _ hb' with hB|⟨hne,hb2⟩
  ·obtain⟨o,hb,hN,cs,arr,elem,ho,hw,h1,h2,h3,_⟩:=hnew b' _ hB hb'
   exact⟨hN,cs,arr,elem,by rw[hb,ho],hw,h1,h2,h3⟩
  ·obtain⟨hN,cs,arr,elem,ho,hw,h1,h2,h3⟩:=R.own b' r base size hb2
   refine⟨hN,cs,arr,elem,by rw[hoth b' _ hne hb2];exact ho,by rw[hkeep b' _ r hne hb2 rfl];exact hw,h1,h2,fun j c hc=>?_⟩
   obtain⟨v,hv,hr⟩:=h3 j c hc;exact⟨v,hv,hr.mono m⟩
 ·intro k r used u size hb'
  rcases inv k _ hb' with hB|⟨hne,hb2⟩
  ·obtain⟨o,hb,hN,ho,h1,⟨arr,elem,hw,h2⟩,_⟩:=hnew k _ hB hb'
   exact⟨hN,by rw[hb,ho],h1,arr,elem,hw,h2⟩
  ·obtain⟨hN,ho,h1,arr,elem,hw,h2⟩:=R.tail k r used u size hb2
   exact⟨hN,by rw[hoth k _ hne hb2];exact ho,h1,arr,elem,by rw[hkeep k _ r hne hb2 rfl];exact hw,h2⟩
 ·intro b' r hb'
  rcases inv b' _ hb' with hB|⟨hne,hb2⟩
  ·obtain⟨o,hb,hN,O,hw,hr⟩:=hnew b' _ hB hb'
   exact⟨hN,o,O,hb,hw,hr⟩
  ·obtain⟨hN,o',O',ho,hw,hr⟩:=R.obj b' r hb2
   exact⟨hN,o',O',by rw[hoth b' _ hne hb2];exact ho,by rw[hkeep b' _ r hne hb2 rfl];exact hw,hr.mono m⟩
 ·intro b1 b2 e1' e2' r h1 h2 k1 k2
  rcases inv b1 _ h1 with hB|⟨x1,y1⟩
  ·exact hinj b1 _ b2 _ r hB h1 h2 k1 k2
  ·rcases inv b2 _ h2 with hB|⟨x2,y2⟩
   ·exact(hinj b2 _ b1 _ r hB h2 h1 k2 k1).symm
   ·exact R.inj b1 b2 _ _ r y1 y2 k1 k2
 ·intro b' r base size j hb' hs
  rcases inv b' _ hb' with hB|⟨hne,hb2⟩
  ·obtain⟨_,_,_,_,_,_,_,_,_,_,_,hn⟩:=hnew b' _ hB hb'
   exact hn j hs
  ·rcases hstN r j hs with hs|hs
   ·exact R.stOwn b' r base size j hb2 hs
   ·exact hs b' _ hne hb2 rfl
 ·intro k r used u size j hb' hs
  rcases inv k _ hb' with hB|⟨hne,hb2⟩
  ·obtain⟨_,_,_,_,_,_,hn⟩:=hnew k _ hB hb'
   exact hn j hs
  ·rcases hstN r j hs with hs|hs
   ·exact R.stTail k r used u size j hb2 hs
   ·exact absurd rfl (hs k _ hne hb2)
 ·intro k u hb'
  rcases inv k _ hb' with hB|⟨hne,hb2⟩
  ·obtain⟨o,hb,ho,hu⟩:=hnew k _ hB hb'
   exact⟨by rw[hb,ho],hu⟩
  ·rw[hoth k _ hne hb2];exact R.void k u hb2
 ·intro b' rs hb'
  rcases inv b' _ hb' with hB|⟨hne,hb2⟩
  ·obtain⟨o,hb,ho⟩:=hnew b' _ hB hb'
   rw[hb];exact ho
  ·rw[hoth b' _ hne hb2]
   refine(R.rows b' rs hb2).step m (fun r hr=>hkeep b' _ r hne hb2 hr) fun r j hr hs=>?_
   rcases hstN r j hs with hs|hs
   ·exact hs
   ·exact absurd hr (hs b' _ hne hb2)
 ·intro b' css hx
  rcases hrd b' css hx with h1|⟨hne,h1⟩
  ·exact h1
  ·obtain⟨rs,hrs⟩:=R.rdom b' css h1
   exact⟨rs,by rw[hφ b' hne];exact hrs⟩
def okQ(q:Nat)(c:CV):Prop:=zWc c=true∨∃esz k off len gen,c=.gref esz q k off len gen
def onQ(q':Nat):CV→CV
 | .gref esz _ k off len gen=>.gref esz q' k off len gen
 |c=>c
theorem yY6{q:Nat}{c:CV}(h:zWc c=true):onQ q c=c:=by
 cases c<;>first|rfl|simp[zWc]at h
theorem okQ.vr{φ φ':Phi}{St St':Stab}{w w':World}{q q':Nat}{rs:List Row}{c:CV}{v:Value}(h:okQ q c)(hq:φ q=some (.rows rs))(hq':φ' q'=some (.rows rs))(hv:VR φ St w c v)
  (hp:zWc c=true→VR φ St w c v→VR φ' St' w' c v):VR φ' St' w' (onQ q' c) v:=by
 rcases h with h|⟨esz,k,off,len,gen,rfl⟩
 ·rw[yY6 h];exact hp h hv
 ·cases hv with
  |gref _ _ _ _ _ _ rs0 a cap h0 hcap hrow=>
   rw[hq]at h0;simp only[Qa,Ent.rows.injEq]at h0;subst h0;exact .gref _ _ _ _ _ _ _ a cap hq' hcap hrow
  |grefDead _ _ _ _ _ _ _ _ h0=>rw[hq]at h0;simp at h0
def vZ7(N:Nat)(φ:Phi)(St:Stab)(w:World)(r base size:Nat)(cs:List CV):Prop:=
 N≤r∧(∃(arr:Array Value) (elem:TypeId×Nat×Nat),w.heap[r]? =some (.cells arr elem.1 elem.2)∧(arr.size=size∧Unfz elem.2 size)∧base+cs.length≤size∧
  ∀(j:Nat) (c:CV),cs[j]?=some c→∃v,arr[base+j]?=some v∧VR φ St w c v)∧∀j,¬St r j
def zZt(e0:Option (Nat×Nat×Nat))(e1:Nat×Nat×Nat)(rs:List Row):Phi:=fun b=>if b=0 then e0.map (fun x=>.own x.1 x.2.1 x.2.2)else if b=1 then some (.own e1.1 e1.2.1 e1.2.2)else if b=2 then some (.rows rs)else none
theorem zXm{e0:Option (Nat×Nat×Nat)}{e1:Nat×Nat×Nat}{rs:List Row}{b:Nat}{e:Ent}(h:zZt e0 e1 rs b=some e):(b=0∧∃x,e0=some x∧e=.own x.1 x.2.1 x.2.2)∨(b=1∧e=.own e1.1 e1.2.1 e1.2.2)∨(b=2∧e=.rows rs):=by
 unfold zZt at h;split at h
 ·rename_i hb
  obtain⟨x,h1,h2⟩:=J8.1 h;exact .inl ⟨hb,x,h1,h2.symm⟩
 ·split at h
  ·rename_i hb
   exact .inr (.inl ⟨hb,(Wl h).symm⟩)
  ·split at h
   ·rename_i hb
    exact .inr (.inr ⟨hb,(Wl h).symm⟩)
   ·simp at h
theorem Rel.three{N:Nat}{St:Stab}{w:World}{e0:Option (Nat×Nat×Nat)}{e1:Nat×Nat×Nat}{rs:List Row}{cs cs2:List CV}{css:List (List CV)}(hst:∀r j,St r j→r<w.heap.size)(hN:N≤w.heap.size)
  (h0:∀x,e0=some x→vZ7 N (zZt e0 e1 rs) St w x.1 x.2.1 x.2.2 cs∧x.1≠e1.1∧¬(Ent.rows rs).has x.1) (h1:vZ7 N (zZt e0 e1 rs) St w e1.1 e1.2.1 e1.2.2 cs2) (h12:¬(Ent.rows rs).has e1.1)
  (h2:zKx N (zZt e0 e1 rs) St w rs (some (.rows css))):Rel N (zZt e0 e1 rs) St [wQ4 e0 cs, .cells cs2, .rows css] w:=by
 refine⟨fun b e h=>?_,fun b h=>?_,fun b r base size h=>?_,fun k r used u size h=>?_,fun b r h=>?_,fun b b' e e' r h h' he he'=>?_,hst,fun b r base size j h=>?_,fun k r used u size j h=>?_,hN,fun k u h=>?_,fun b rs' h=>?_,fun b css' h=>?_⟩
 ·rcases zXm h with⟨rfl,_⟩|⟨rfl,_⟩|⟨rfl,_⟩<;>simp
 ·rcases zXm h with⟨_,x,_,h⟩|⟨_,h⟩|⟨_,h⟩<;>simp at h
 ·rcases zXm h with⟨rfl,x,hx,hq⟩|⟨rfl,hq⟩|⟨_,hq⟩
  ·simp only[Ent.own.injEq]at hq
   obtain⟨rfl,rfl,rfl⟩:=hq;obtain⟨⟨q1,⟨arr,elem,q2,q3,q4,q5⟩,_⟩,_⟩:=h0 x hx;exact⟨q1,cs,arr,elem,by subst hx;rfl,q2,q3,q4,q5⟩
  ·simp only[Ent.own.injEq]at hq
   obtain⟨rfl,rfl,rfl⟩:=hq;obtain⟨q1,⟨arr,elem,q2,q3,q4,q5⟩,_⟩:=h1;exact⟨q1,cs2,arr,elem,rfl,q2,q3,q4,q5⟩
  ·simp at hq
 ·rcases zXm h with⟨_,x,_,h⟩|⟨_,h⟩|⟨_,h⟩<;>simp at h
 ·rcases zXm h with⟨_,x,_,h⟩|⟨_,h⟩|⟨_,h⟩<;>simp at h
 ·rcases zXm h with⟨rfl,x,hx,rfl⟩|⟨rfl,rfl⟩|⟨rfl,rfl⟩<;>rcases zXm h' with⟨rfl,x',hx',rfl⟩|⟨rfl,rfl⟩|⟨rfl,rfl⟩
  ·rfl
  ·simp only[Ent.has]at he he'
   exact absurd (he.trans he'.symm) (h0 x hx).2.1
  ·simp only[Ent.has]at he;subst he
   exact absurd he' (h0 x hx).2.2
  ·simp only[Ent.has]at he he'
   exact absurd (he'.trans he.symm) (h0 x' hx').2.1
  ·rfl
  ·simp only[Ent.has]at he;subst he
   exact absurd he' h12
  ·simp only[Ent.has]at he';subst he'
   exact absurd he (h0 x' hx').2.2
  ·simp only[Ent.has]at he';subst he'
   exact absurd he h12
  ·rfl
 ·rcases zXm h with⟨rfl,x,hx,hq⟩|⟨rfl,hq⟩|⟨_,hq⟩
  ·simp only[Ent.own.injEq]at hq
   obtain⟨rfl,rfl,rfl⟩:=hq;exact(h0 x hx).1.2.2 j
  ·simp only[Ent.own.injEq]at hq
   obtain⟨rfl,rfl,rfl⟩:=hq;exact h1.2.2 j
  ·simp at hq
 ·rcases zXm h with⟨_,x,_,h⟩|⟨_,h⟩|⟨_,h⟩<;>simp at h
 ·rcases zXm h with⟨_,x,_,h⟩|⟨_,h⟩|⟨_,h⟩<;>simp at h
 ·rcases zXm h with⟨_,x,_,hx⟩|⟨_,hx⟩|⟨rfl,hx⟩
  ·cases hx
  ·cases hx
  ·injection hx with hx
   subst hx;exact h2
 ·cases b with
  |zero=>unfold wQ4 at h;split at h<;>simp at h
  | succ b=>cases b with
   |zero=>simp at h
   |succ b=>cases b with
    |zero=>exact⟨rs,rfl⟩
    |succ b=>simp at h
def xYj(P:Program)(c:Cfg)(f:FuncId)(esz:Nat)(a0:CV)(o0:HObj)(args:List CV)(n2:Nat)(cs2:List CV)(css:List (List CV))(m:Nat)(cs':List CV)(css':List (List CV)):Prop:=
 ∃b off cap ex O csk,zQo P c (.fn f) (a0::(args++[.sref esz 1 0 n2 n2 false])) [o0, .cells cs2, .rows css] .ret [.sref esz b off m cap ex] O∧O[b]?=some (.cells csk)∧(csk.drop off).take (m*esz)=cs'∧cs'.length=m*esz∧O[2]?=some (.rows css')
def vZ4(P:Program)(c:Cfg)(f:FuncId)(esz n:Nat)(cs args:List CV)(n2:Nat)(cs2:List CV)(css:List (List CV))(m:Nat)(cs':List CV)(css':List (List CV)):Prop:=
 (∀k,n≤k→xYj P c f esz (.sref esz 0 0 n k true) (.cells cs) args n2 cs2 css m cs' css')∧(n=0→xYj P c f esz (.slice esz [] none true) .dead args n2 cs2 css m cs' css')
theorem wKj{cs cs0:List CV}{off n:Nat}(hc:(cs0.drop off).take n=cs)(j:Nat)(c:CV)(h:cs[j]?=some c):cs0[off+j]?=some c:=by
 rw[←hc]at h;have hj2:j<n:=by have:=(List.getElem?_eq_some_iff.1 h).1;rw[Jf]at this;omega
 rw[Jh hj2,Jr]at h;exact h
theorem wKz{q:Nat}{c:CV}(h:okQ 2 c):okQ q (onQ q c)∧onQ 2 (onQ q c)=c:=by
 rcases h with h|⟨esz,k,off,len,gen,rfl⟩
 ·rw[yY6 h,yY6 h];exact⟨.inl h,rfl⟩
 ·exact⟨.inr ⟨_,_,_,_,_,rfl⟩,rfl⟩
theorem uWa{cs:List CV}(hp:zQ2 cs=true){j:Nat}{c:CV}(h:cs[j]?=some c):zWc c=true:=
 (xKt (off:=0) (n:=cs.length) (cs0:=cs) (by simp) hp j c h).2
theorem zKx.pure{N:Nat}{φ φ':Phi}{St:Stab}{w:World}{rs:List Row}{css:List (List CV)}(h:zKx N φ St w rs (some (.rows css)))(hp:∀cs∈css,zQ2 cs=true):zKx N φ' St w rs (some (.rows css)):=by
 obtain⟨css0,g1,g2,g3,g4⟩:=h;simp only[Qa,HObj.rows.injEq]at g1;subst g1;refine⟨_,rfl,g2,fun k row cs hr hc=>?_,g4⟩
 obtain⟨q1,q2,q3⟩:=g3 k row cs hr hc;refine⟨q1,q2,fun r base lim hb=>?_⟩
 obtain⟨k1,k2,⟨arr,elem,k3,k4,k5,k6⟩,k7⟩:=q3 r base lim hb;refine⟨k1,k2,⟨arr,elem,k3,k4,k5,fun j c hj=>?_⟩,k7⟩
 obtain⟨v,e1,e2⟩:=k6 j c hj;exact⟨v,e1,e2.pure (fun _ _ h=>h) (uWa (hp _ (Ql hc)) hj)⟩
section
variable {P:Program} {c:Cfg}
theorem vK5{f:FuncId}{esz n n2 m b b2 q off2 cap2:Nat}{ex2:Bool}{cs cs2 cs20 args xs cs':List CV}{css css':List (List CV)}{H:Heap}{bs:List Nat}(h:vZ4 P c f esz n cs args n2 cs2 css m cs' css')(hg:zZa c)(hes:0<esz)
  (hb:H[b]?=some (.rows [cs.map (onQ q)])) (hcl:cs.length=n*esz) (hb2:H[b2]?=some (.cells cs20)) (hin2:off2+n2*esz≤cs20.length) (hcs2:(cs20.drop off2).take (n2*esz)=cs2.map (onQ q))
  (hbq:H[q]?=some (.rows css)) (hp:∀x∈cs,okQ 2 x) (hp2:∀x∈cs2,okQ 2 x) (hp':∀x∈cs',okQ 2 x) (hpc:∀x∈css,zQ2 x=true) (hpc':∀x∈css',zQ2 x=true)
  (ha:FRb H bs xs args) (hbs:b∉bs) (hbs2:b2∉bs) (hbsq:q∉bs) (hqb:q≠b) (hlt:n<m):
  zQo P c (.fn f) (.gref esz b 0 0 n (n*esz)::(xs++[.sref esz b2 off2 n2 cap2 ex2])) H .ret [.gref esz b 0 0 m (m*esz)] ((((zZv bs H).set b2 .dead).set b (.rows [cs'.map (onQ q)])).set q (.rows css')):=by
 have hbb:b≠b2:=fun e=>by rw[e,hb2]at hb;simp at hb
 have hqb2:q≠b2:=fun e=>by rw[e,hb2]at hbq;simp at hbq
 obtain⟨_,_,_,_,_,_,⟨hent,_⟩,_,_,_⟩:=h.1 n (Qe _);refine⟨hent,fun N φ St w us R hgr hu=>?_⟩
 cases hu with|cons _ u0 _ us hu0 hus=>
 obtain⟨us1,u2,rfl,hus1,hu2⟩:=hus.snoc;obtain⟨rs,row,a,rcap,hφ,hrow0,rfl,hcap,hrok,hru,hgok⟩:=zW9 R hu0 (cs:=cs.map (onQ q)) (by simp[rowG,hb,hcl])
 obtain⟨r2,base2,size2,rcap2,hφ2,rfl,hc1,hc2,_,hc4⟩:=zQn R hu2 (by simp[live,hb2])
 obtain⟨rsq,hφq⟩:=R.rdom q css hbq;have hrs:rs=[row]:=by
  obtain⟨css0,e1,e2,_⟩:=R.rows b rs hφ;rw[hb]at e1;simp only[Qa,HObj.rows.injEq]at e1;subst e1;simp at e2
  match rs,e2,hrow0 with
  |[x],_,h0=>simp at h0;rw[h0]
 subst hrs;obtain⟨e1,e2⟩:=ha N φ St w us1 R hus1;obtain⟨φ1,R1,F1,k1,k2,k3⟩:=yX4 bs R e2;have hX:∀r j,zQf φ H bs r j→r<w.heap.size∧∀b e,φ1 b=some e→¬e.has r:=by
  rintro r j ⟨b,hb,base,size,cs,hφ,_⟩;refine⟨(R.lt hφ rfl).2,fun b' e' hb' he=>?_⟩
  rcases k1 b' e' hb' with rfl|h
  ·simp[Ent.has]at he
  ·have:=R.inj b' b e' _ r h hφ he rfl
   subst this;rw[k2 b' hb]at hb';simp at hb';subst hb';simp[Ent.has]at he
 have R2:=R1.wQp hX;have hbk:(zZv bs H)[b]?=some (.rows [cs.map (onQ q)]):=by rw[zXi bs H hbs];exact hb
 have hbk2:(zZv bs H)[b2]?=some (.cells cs20):=by rw[zXi bs H hbs2];exact hb2
 have hbkq:(zZv bs H)[q]?=some (.rows css):=by rw[zXi bs H hbsq];exact hbq
 have stay:∀{x:Nat} {e:Ent},φ x=some e→(zZv bs H)[x]?≠some .dead→φ1 x=some e:=fun{x e} hx hd=>by
  cases hx1:φ1 x with
  |none=>rw[k3 x hx1]at hx;simp at hx
  |some e1=>
   rcases k1 x e1 hx1 with rfl|h1
   ·exact absurd (R1.dead x hx1) hd
   ·rw[hx]at h1;exact h1.symm
 have hφ1:φ1 b=some (.rows [row]):=stay hφ (by rw[hbk];simp)
 have hφ12:φ1 b2=some (.own r2 base2 size2):=stay hφ2 (by rw[hbk2];simp)
 have hφ1q:φ1 q=some (.rows rsq):=stay hφq (by rw[hbkq];simp)
 obtain⟨R4,F4⟩:=R2.kill hφ12;have hφ4:(φ1.put b2 .dead) b=some (.rows [row]):=by rw[zQc _ _ _ _ hbb];exact hφ1
 have hφ4q:(φ1.put b2 .dead) q=some (.rows rsq):=by rw[zQc _ _ _ _ hqb2];exact hφ1q
 have hB2:∀e0,vZ7 N (zZt e0 (r2,base2+off2,size2) rsq) (fun r j=>St r j∨zQf φ H bs r j) w r2 (base2+off2) size2 cs2:=fun e0=>by
  obtain⟨q1,cs0,arr,elem,q2,q3,q4,q5,q6⟩:=R2.own b2 r2 base2 size2 hφ12;rw[hbk2]at q2;simp only[Qa,HObj.cells.injEq]at q2;subst q2;have hl2:cs2.length≤n2*esz:=by
   have:=Kr List.length hcs2;rw[Qh,Jf]at this;omega
  refine⟨q1,⟨arr,elem,q3,q4,by omega,fun j x hj=>?_⟩,fun j=>R2.stOwn _ _ _ _ j hφ12⟩
  have hj2:(cs2.map (onQ q))[j]?=some (onQ q x):=by rw[Qt,hj];rfl
  obtain⟨v,q7,q8⟩:=q6 _ _ (wKj hcs2 j _ hj2);obtain⟨o1,o2⟩:=wKz (q:=q) (hp2 x (Ql hj));refine⟨v,by rw[Jp];exact q7, ?_⟩
  have:=o1.vr (φ':=zZt e0 (r2,base2+off2,size2) rsq) (q':=2) (St':=fun r j=>St r j∨zQf φ H bs r j) (w':=w) hφ1q (by simp[zZt]) q8 fun hpu hv=>hv.pure (fun _ _ h=>h) hpu
  rw[o2]at this;exact this
 have hrok2:yZe N φ1 (fun r j=>St r j∨zQf φ H bs r j) w row (cs.map (onQ q)):=by
  obtain⟨row',g1,g2⟩:=R2.rowOf hφ1 hbk (k:=0) (cs:=cs.map (onQ q)) rfl;simp at g1;subst g1;exact g2
 have h12:¬(Ent.rows rsq).has r2:=fun hh=>hqb2 (R2.inj q b2 _ _ r2 hφ1q hφ12 hh rfl)
 obtain⟨e0,u1,hcall,hB0,hv0,hsub⟩:∃(e0:Option (Nat×Nat×Nat)) (a0:CV),xYj P c f esz a0 (wQ4 e0 cs) args n2 cs2 css m cs' css'∧
   (∀x,e0=some x→vZ7 N (zZt e0 (r2,base2+off2,size2) rsq) (fun r j=>St r j∨zQf φ H bs r j) w x.1 x.2.1 x.2.2 cs∧x.1≠r2∧¬(Ent.rows rsq).has x.1)∧
   VR (zZt e0 (r2,base2+off2,size2) rsq) (fun r j=>St r j∨zQf φ H bs r j) w a0 (.slice a n rcap)∧(∀x,e0=some x→(Ent.rows [row]).has x.1):=by
  have nil:rcap=0→∃(e0:Option (Nat×Nat×Nat)) (a0:CV),xYj P c f esz a0 (wQ4 e0 cs) args n2 cs2 css m cs' css'∧
   (∀x,e0=some x→vZ7 N (zZt e0 (r2,base2+off2,size2) rsq) (fun r j=>St r j∨zQf φ H bs r j) w x.1 x.2.1 x.2.2 cs∧x.1≠r2∧¬(Ent.rows rsq).has x.1)∧
   VR (zZt e0 (r2,base2+off2,size2) rsq) (fun r j=>St r j∨zQf φ H bs r j) w a0 (.slice a n rcap)∧(∀x,e0=some x→(Ent.rows [row]).has x.1):=fun h0=>by
   subst h0;have hn0:n=0:=by omega
   subst hn0;exact⟨none,_,h.2 rfl,fun x hx=>by simp at hx, .slice esz [] none true a 0 [] (.inl rfl) .nil (by simp) (by simp) (by simp) (by simp[yY0]),fun x hx=>by simp at hx⟩
  rcases hgok with h0|hgok
  ·exact nil h0
  ·unfold GOk at hgok
   split at hgok
   ·rename_i r base lim hblk
    obtain⟨rfl,hlim⟩:=hgok;obtain⟨g1,g0,g2⟩:=hrok2;obtain⟨g3,g4,⟨arr,elem,g5,g6,g7,g8⟩,g9⟩:=g2 r base lim hblk;have hasr:(Ent.rows [row]).has r:=⟨row,by simp,base,lim,hblk⟩
    refine⟨some (r,base,arr.size),_,h.1 rcap hcap,fun x hx=>?_, ?_,fun x hx=>?_⟩
    ·simp only[Qa]at hx
     subst hx;refine⟨⟨g3,⟨arr,elem,g5,⟨rfl,g6⟩,by rw[Qh]at g1;show base+cs.length≤arr.size;omega,fun j x hj=>?_⟩,g9⟩,fun e=>?_,fun hh=>?_⟩
     ·have hj2:(cs.map (onQ q))[j]? =some (onQ q x):=by rw[Qt,hj];rfl
      obtain⟨v,q1,q2⟩:=g8 j _ hj2;obtain⟨o1,o2⟩:=wKz (q:=q) (hp x (Ql hj));have:=o1.vr (φ':=zZt (some (r,base,arr.size)) (r2,base2+off2,size2) rsq) (q':=2) (St':=fun r j=>St r j∨zQf φ H bs r j) (w':=w) hφ1q (by simp[zZt]) q2 fun hpu hv=>hv.pure (fun _ _ h=>h) hpu
      rw[o2]at this;exact⟨v,q1,this⟩
     ·have e:r=r2:=e
      exact hbb (R2.inj b b2 _ _ r hφ1 hφ12 hasr e.symm)
     ·exact hqb (R2.inj q b _ _ r hφ1q hφ1 hh hasr)
    ·exact .sref esz 0 0 n rcap true r base arr.size rcap (by simp[zZt]) (Qe _) hcap (fun _=>rfl) (by omega)
    ·simp only[Qa]at hx
     subst hx;exact hasr
   ·exact nil hgok
 obtain⟨b1,off1,cap1,ex1,O,csk,⟨_,hC⟩,hO,hrow,hml,hO2⟩:=hcall;have hrq:zKx N (zZt e0 (r2,base2+off2,size2) rsq) (fun r j=>St r j∨zQf φ H bs r j) w rsq (some (.rows css)):=by
  have:=R2.rows q rsq hφ1q;rw[hbkq]at this;exact this.pure hpc
 have R3:=Rel.three (e1:=(r2,base2+off2,size2)) R2.stLt R2.start hB0 (hB2 e0) h12 hrq;have m0:Mono Phi0 (fun r j=>St r j∨zQf φ H bs r j) w (zZt e0 (r2,base2+off2,size2) rsq) (fun r j=>St r j∨zQf φ H bs r j) w:=⟨fun _=>.fresh _,fun _ _ h=>h,fun _ _ _=>rfl⟩
 have hv2:VR (zZt e0 (r2,base2+off2,size2) rsq) (fun r j=>St r j∨zQf φ H bs r j) w (.sref esz 1 0 n2 n2 false) (.slice (some ⟨r2,base2+off2,none⟩) n2 rcap2):=
  .sref esz 1 0 n2 n2 false r2 (base2+off2) size2 rcap2 (by simp[zZt]) (by omega) (Qe _) (by simp) (by omega)
 have hmine:∀{b e x},zZt e0 (r2,base2+off2,size2) rsq b=some e→e.has x→(Ent.rows [row]).has x∨x=r2∨(Ent.rows rsq).has x:=fun{b e x} hb he=>by
  rcases zXm hb with⟨rfl,y,hy,rfl⟩|⟨rfl,rfl⟩|⟨rfl,rfl⟩
  ·simp only[Ent.has]at he;subst he;exact .inl (hsub y hy)
  ·simp only[Ent.has]at he;exact .inr (.inl he.symm)
  ·exact .inr (.inr he)
 have hother:∀b' e x,b'≠b→b'≠q→(φ1.put b2 .dead) b'=some e→e.has x→¬((Ent.rows [row]).has x∨x=r2∨(Ent.rows rsq).has x):=fun b' e x hne hneq hb' he hx=>by
  by_cases hb2':b'=b2
  ·subst hb2';rw[zQg]at hb';simp at hb';subst hb';simp[Ent.has]at he
  ·rw[zQc _ _ _ _ hb2']at hb'
   rcases hx with hx|rfl|hx
   ·exact hne (R2.inj b' b e _ x hb' hφ1 he hx)
   ·exact hb2' (R2.inj b' b2 e _ x hb' hφ12 he rfl)
   ·exact hneq (R2.inj b' q e _ x hb' hφ1q he hx)
 refine(hC N _ (fun r j=>St r j∨zQf φ H bs r j) w _ R3 (fun i v hi=>(hgr i v hi).pure (fun _ _ h=>.inl h) (hg i v hi)) (.cons _ _ _ _ hv0 ((e1.mono m0).append (.cons _ _ _ _ hv2 .nil)))).mono ?_
 intro e w' hpost;cases e with
 |outgrown=>exact hpost.elim
 |panicked ch=>obtain⟨_,_,_,_,_,h3,_⟩:=hpost;simp at h3
 |returned u=>
 obtain⟨φ',St',l,c1,_,h3,hvr⟩:=hpost;simp only[List.cons.injEq,and_true]at h3;subst h3;obtain⟨r1,base1,size1,rcap1,hφ',rfl,q1,q2,_,q4⟩:=zQn l.rel hvr (by simp[live,hO])
 obtain⟨rs',hφ'2⟩:=l.rel.rdom 2 css' hO2;have hb12:b1≠2:=fun e=>by rw[e,hφ'2]at hφ';simp at hφ'
 have hleq:Ent.le (some (.rows rsq)) (some (.rows rs')):=by
  have:=l.frm.ext 2;rw[hφ'2]at this;simpa[zZt]using this
 have hmr:m*esz≤rcap1*esz:=Qn _ (by omega)
 have hnm:n*esz<m*esz:=Nat.mul_lt_mul_of_pos_right hlt hes;have hblk:∀x,x=r1→((Ent.rows [row]).has x∨x=r2∨(Ent.rows rsq).has x)∨w.heap.size≤x:=fun x hx=>by
  subst hx;rcases l.frm.blkNew b1 _ x hφ' rfl with⟨b0,e0,hb0,he0⟩|hx
  ·exact .inl (hmine hb0 he0)
  ·exact .inr hx
 have hblkq:∀x,(Ent.rows rs').has x→((Ent.rows [row]).has x∨x=r2∨(Ent.rows rsq).has x)∨w.heap.size≤x:=fun x hx=>by
  rcases l.frm.blkNew 2 _ x hφ'2 hx with⟨b0,e0,hb0,he0⟩|hx
  ·exact .inl (hmine hb0 he0)
  ·exact .inr hx
 obtain⟨nr,hnr⟩:∃nr:Row,nr={blk:=some (r1,base1+off1,rcap1*esz),u:=m*esz}:=⟨_,rfl⟩;have hnrh:∀x,(Ent.rows [nr]).has x→x=r1:=fun x hx=>by
  obtain⟨row2,hm2,base',lim',hb2'⟩:=hx;simp only[List.mem_singleton]at hm2;subst hm2;rw[hnr]at hb2';simp only[Qa,Je]at hb2';exact hb2'.1.symm
 obtain⟨φF,hφF⟩:∃φF:Phi,φF=((φ1.put b2 .dead).put b (.rows [nr])).put q (.rows rs'):=⟨_,rfl⟩;have hFq:φF q=some (.rows rs'):=by rw[hφF,zQg]
 have hFb:φF b=some (.rows [nr]):=by rw[hφF,zQc _ _ _ _ (Jw hqb),zQg]
 have hFo:∀x,x≠b→x≠q→φF x=(φ1.put b2 .dead) x:=fun x h1 h2=>by rw[hφF,zQc _ _ _ _ h2,zQc _ _ _ _ h1]
 have hmono:Mono (φ1.put b2 .dead) (fun r j=>St r j∨zQf φ H bs r j) w φF St' w':=by
  refine⟨fun b'=>?_,l.frm.st,l.frm.keep⟩
  by_cases hbq':b'=q
  ·subst hbq';rw[hFq,hφ4q];exact hleq
  by_cases hb':b'=b
  ·subst hb';rw[hFb,hφ4]
   refine .rows _ _ fun k' row2 hr2=>?_
   cases k' with
   |zero=>simp at hr2;subst hr2;exact⟨nr,rfl, .inr (by rw[hru,hnr];exact hnm)⟩
   |succ k'=>simp at hr2
  ·rw[hFo b' hb' hbq'];exact .refl _
 have hrowN:yZe N φF St' w' nr (cs'.map (onQ q)):=by
  refine⟨by rw[Qh,hml,hnr],fun hx=>by rw[hnr]at hx;simp at hx,fun r base lim hx=>?_⟩
  rw[hnr]at hx;simp only[Qa,Je]at hx;obtain⟨rfl,rfl,rfl⟩:=hx;obtain⟨g1,cs0,arr,elem,g2,g3,g4,g5,g6⟩:=l.rel.own b1 r1 base1 size1 hφ';rw[hO]at g2;simp only[Qa,HObj.cells.injEq]at g2
  subst g2;refine⟨g1,by rw[hnr];exact hmr,⟨arr,elem,g3,by rw[g4.1];exact g4.2,by rw[g4.1];exact q4,fun j x hj=>?_⟩,fun j=>l.rel.stOwn _ _ _ _ j hφ'⟩
  rw[Qt]at hj;cases hxj:cs'[j]? with
  |none=>rw[hxj]at hj;simp at hj
  |some x0=>
   rw[hxj]at hj;simp at hj;subst hj;obtain⟨v,a3,a4⟩:=g6 _ _ (wKj hrow j _ hxj);refine⟨v,by rw[Jp];exact a3, ?_⟩
   exact(hp' x0 (Ql hxj)).vr hφ'2 hFq a4 fun hpu hv=>hv.pure (fun _ _ h=>h) hpu
 have hrowsq:zKx N φF St' w' rs' (some (.rows css')):=by
  have:=l.rel.rows 2 rs' hφ'2;rw[hO2]at this;exact this.pure hpc'
 have hlen:((zZv bs H).set b2 HObj.dead).length=H.length:=by rw[Kh,zKs]
 have hbl:b<((zZv bs H).set b2 HObj.dead).length:=R4.dom b _ hφ4;have hql:q<((zZv bs H).set b2 HObj.dead).length:=R4.dom q _ hφ4q;have hgetb:((((zZv bs H).set b2 HObj.dead).set b (.rows [cs'.map (onQ q)])).set q (.rows css'))[b]?=some (.rows [cs'.map (onQ q)]):=by
  rw[Qd hqb,Qk hbl]
 have hgetq:((((zZv bs H).set b2 HObj.dead).set b (.rows [cs'.map (onQ q)])).set q (.rows css'))[q]?=some (.rows css'):=by
  rw[Qk (by rw[Kh];exact hql)]
 have hgeto:∀x,x≠b→x≠q→((((zZv bs H).set b2 HObj.dead).set b (.rows [cs'.map (onQ q)])).set q (.rows css'))[x]?=((zZv bs H).set b2 HObj.dead)[x]?:=fun x h1 h2=>by
  rw[Qd (Jw h2),Qd (Jw h1)]
 have RJ:=R4.changes (fun x=>x=b∨x=q) φF St' ((((zZv bs H).set b2 HObj.dead).set b (.rows [cs'.map (onQ q)])).set q (.rows css')) w' (fun x hx=>hFo x (fun e=>hx (.inl e)) (fun e=>hx (.inr e))) hmono l.frm.size (by simp)
  (fun x e hx hxe=>by
   rcases hx with rfl|rfl
   ·rw[hFb]at hxe
    simp only[Qa]at hxe;subst hxe;exact⟨_,hgetb,_,rfl,rfl,fun k row2 cs2 hr2 hc2=>by
     cases k with
     |zero=>simp at hr2 hc2;subst hr2;subst hc2;exact hrowN
     |succ k=>simp at hr2,fun k k' row1 row2 r base lim base' lim' hne hr1 hr2=>by
     cases k with
     |zero=>cases k' with
      |zero=>exact absurd rfl hne
      |succ k'=>simp at hr2
     |succ k=>simp at hr1⟩
   ·rw[hFq]at hxe
    simp only[Qa]at hxe;subst hxe;exact⟨_,hgetq,hrowsq⟩)
  (fun x e hx _=>hgeto x (fun e=>hx (.inl e)) (fun e=>hx (.inr e)))
  (fun b' e x hne hb' he=>l.frm.keepBlk x (R4.lt hb' he).2 fun b0 e0 hb0 he0=>hother b' e x (fun e=>hne (.inl e)) (fun e=>hne (.inr e)) hb' he (hmine hb0 he0))
  l.rel.stLt
  (fun x j hs=>by
   rcases l.frm.stNew x j hs with hs|hs|⟨b0,e0,hb0,he0⟩
   ·exact .inl hs
   ·exact .inr fun b' e hne hb' he=>by have:=(R4.lt hb' he).2;omega
   ·exact .inr fun b' e hne hb' he=>hother b' e x (fun e=>hne (.inl e)) (fun e=>hne (.inr e)) hb' he (hmine hb0 he0))
  (fun x e x' e' r hx hxe hxe' he he'=>by
   have out:∀y ey,y≠b→y≠q→φF y=some ey→ey.has r→((Ent.rows [row]).has r∨r=r2∨(Ent.rows rsq).has r)∨w.heap.size≤r→False:=fun y ey h1 h2 hy hr hm=>by
    rw[hFo y h1 h2]at hy;rcases hm with hm|hm
    ·exact hother y ey r h1 h2 hy hr hm
    ·have:=(R4.lt hy hr).2;omega
   rcases hx with rfl|rfl
   ·rw[hFb]at hxe
    simp only[Qa]at hxe;subst hxe;have hr:=hnrh r he;by_cases e1:x'=x
    ·exact e1.symm
    ·by_cases e2:x'=q
     ·subst e2
      rw[hFq]at hxe';simp only[Qa]at hxe';subst hxe';exact absurd (l.rel.inj b1 2 _ _ r hφ' hφ'2 hr.symm he') hb12
     ·exact(out x' e' e1 e2 hxe' he' (hblk r hr)).elim
   ·rw[hFq]at hxe
    simp only[Qa]at hxe;subst hxe;by_cases e1:x'=x
    ·exact e1.symm
    ·by_cases e2:x'=b
     ·subst e2
      rw[hFb]at hxe';simp only[Qa]at hxe';subst hxe';exact absurd (l.rel.inj b1 2 _ _ r hφ' hφ'2 (hnrh r he').symm he) hb12
     ·exact(out x' e' e2 e1 hxe' he' (hblkq r he)).elim)
  (fun x css0 hx=>by
   by_cases e1:x=b
   ·subst e1;exact .inl ⟨_,hFb⟩
   ·by_cases e2:x=q
    ·subst e2;exact .inl ⟨_,hFq⟩
    ·rw[hgeto x e1 e2]at hx
     exact .inr ⟨fun hh=>hh.elim e1 e2,hx⟩)
 have hφb:φ b≠none:=by rw[hφ];simp
 have hφb2:φ b2≠none:=by rw[hφ2];simp
 have hφbq:φ q≠none:=by rw[hφq];simp
 have hmyφ:∀x,((Ent.rows [row]).has x∨x=r2∨(Ent.rows rsq).has x)→∃b e,φ b=some e∧e.has x:=fun x hx=>by
  rcases hx with hx|rfl|hx
  ·exact⟨b,_,hφ,hx⟩
  ·exact⟨b2,_,hφ2,rfl⟩
  ·exact⟨q,_,hφq,hx⟩
 refine⟨_,_,⟨RJ, ?_, ?_⟩,_,rfl,rfl, ?_⟩
 ·refine{ext:=fun b'=>((F1.ext b').trans (F4.ext b')).trans (hmono.ext b'),st:=fun x j h=>l.frm.st x j (.inl h),keep:=fun x j h=>l.frm.keep x j (.inl h),size:=l.frm.size,stNew:=fun x j h=> ?_,blkNew:=fun b' e' x hb' he=> ?_,keepBlk:=fun x hx hn=>l.frm.keepBlk x hx fun b' e' hb' he=> ?_,idNew:=fun b' hb' hn=> ?_,os:=l.frm.os,output:=l.frm.output,tape:=l.frm.tape}
  ·rcases l.frm.stNew x j h with(h|⟨b0,_,base0,size0,_,h0,_⟩)|h|⟨b0,e0,hb0,he0⟩
   ·exact .inl h
   ·exact .inr (.inr ⟨b0,_,h0,rfl⟩)
   ·exact .inr (.inl h)
   ·exact .inr (.inr (hmyφ x (hmine hb0 he0)))
  ·by_cases hbb':b'=b
   ·subst hbb'
    rw[hFb]at hb';simp only[Qa]at hb';subst hb';rcases hblk x (hnrh x he)with hx|hx
    ·exact .inl (hmyφ x hx)
    ·exact .inr hx
   ·by_cases hbq':b'=q
    ·subst hbq'
     rw[hFq]at hb';simp only[Qa]at hb';subst hb';rcases hblkq x he with hx|hx
     ·exact .inl (hmyφ x hx)
     ·exact .inr hx
    ·rw[hFo b' hbb' hbq']at hb'
     by_cases hb2':b'=b2
     ·subst hb2';rw[zQg]at hb';simp at hb';subst hb';simp[Ent.has]at he
     ·rw[zQc _ _ _ _ hb2']at hb'
      exact F1.blkNew b' e' x hb' he
  ·obtain⟨b0,e0',h0,h0'⟩:=hmyφ x (hmine hb' he)
   exact hn b0 e0' h0 h0'
  ·rw[hFo b' (fun e=>hφb (by rw[←e];exact hn)) (fun e=>hφbq (by rw[←e];exact hn)),zQc _ _ _ _ (fun e=>hφb2 (by rw[←e];exact hn))]
   exact F1.idNew b' hb' hn
 ·refine⟨by rw[Kh,Kh,hlen];exact Qe _,fun b' hb' hn=> ?_⟩
  rw[hgeto b' (fun e=>hφb (by rw[←e];exact hn)) (fun e=>hφbq (by rw[←e];exact hn)),Qd (fun e=>hφb2 (by rw[e];exact hn))]
  refine zXi bs H fun hm=>?_
  rcases e2 b' hm with⟨_,_,_,h⟩|h<;>rw[hn]at h<;>simp at h
 ·refine .gref esz b 0 0 m (m*esz) [nr] _ rcap1 hFb (by omega) (.inr ⟨by simp,fun row2 hr2=> ?_⟩)
  simp at hr2;subst hr2;rw[hnr];exact⟨Qe _,fun _=>by simp[GOk]⟩
end
end Go.Eng
/- Answers whose rows stand in places. -/
namespace Go.Eng
set_option linter.unusedVariables false
section
variable {A A' B B':Type}
theorem xJs(hA:A'=A)(hB:B'=B){x:A'×B'}{y:A×B}(h:HEq x y):HEq x.1 y.1∧HEq x.2 y.2:=by
 subst hA;subst hB;cases h;exact⟨.rfl, .rfl⟩
theorem heq_mk(hA:A'=A)(hB:B'=B){a':A'}{a:A}{b':B'}{b:B}(h:HEq a' a)(k:HEq b' b):HEq (a',b') (a,b):=by
 subst hA;subst hB;cases h;cases k;exact .rfl
theorem xJt{γ:Type}(hA:A'=A){x:List A'}{y:List A}(h:HEq x y){F:A'→γ}{G:A→γ}(hFG:∀a b,HEq a b→F a=G b):x.map F=y.map G:=by
 subst hA;cases h;exact J4 fun a _=>hFG a a .rfl
theorem xWt(hA:A'=A){x:List A'}{y:List A}(h:HEq x y):x.length=y.length:=by subst hA;cases h;rfl
theorem uW4(hA:A'=A){x:List A'}{y:List A}(h:HEq x y){i:Nat}{a:A'}{b:A}(ha:x[i]?=some a)(hb:y[i]?=some b):HEq a b:=by
 subst hA;cases h;rw[ha]at hb;cases hb;exact .rfl
theorem xJu(hA:A'=A){x:List A'}{y:List A}(h:HEq x y){a:A'}{b:A}(k:HEq a b)(i:Nat):HEq (x.getD i a) (y.getD i b):=by
 subst hA;cases h;cases k;exact .rfl
theorem wX3(hA:A'=A):HEq ([]:List A') ([]:List A):=by subst hA;exact .rfl
theorem uW3(hA:A'=A){a:A'}{b:A}(k:HEq a b)(n:Nat):HEq (List.replicate n a) (List.replicate n b):=by subst hA;cases k;exact .rfl
theorem vJn(hA:A'=A):HEq (MixE.nil:MixE A') (MixE.nil:MixE A):=by subst hA;exact .rfl
theorem vXm(hA:A'=A){x:MixE A'}{y:MixE A}(h:HEq x y):
  (∃l k,x=.data l∧y=.data k∧HEq l k)∨(x=.nil∧y=.nil)∨∃k off n gen,x=.ref k off n gen∧y=.ref k off n gen:=by
 subst hA;cases h;cases x with
 |data l=>exact .inl ⟨l,l,rfl,rfl, .rfl⟩
 |nil=>exact .inr (.inl ⟨rfl,rfl⟩)
 |ref k off n gen=>exact .inr (.inr ⟨k,off,n,gen,rfl,rfl⟩)
end
theorem zQ9(f:Nat→Nat):∀c:C,(c.ren f).cells=c.cells
 | .bool=>rfl
 | .int _=>rfl
 | .str=>rfl
 | .list _=>rfl
 | .unit=>rfl
 | .pair a b=>by simp only[C.cells,zQ9 f a,zQ9 f b]
 | .arr n c=>by simp only[C.cells,zQ9 f c]
 | .mix _ _=>rfl
theorem zWw(f g:Nat→Nat)(c:C):El (c.ren f)=El (c.ren g):=(zKg f c).trans (zKg g c).symm
theorem yJz(f g:Nat→Nat):∀c:C,HEq (dfl (c.ren f)) (dfl (c.ren g))
 | .bool=>.rfl
 | .int _=>.rfl
 | .str=>.rfl
 | .list c=>wX3 (zWw f g c)
 | .unit=>.rfl
 | .pair a b=>heq_mk (zWw f g a) (zWw f g b) (yJz f g a) (yJz f g b)
 | .arr n c=>uW3 (zWw f g c) (yJz f g c) n
 | .mix _ c=>vJn (zWw f g c)
theorem zKb{n:Nat}{f g:Nat→Nat}(hg:∀i,g i=n+f i):∀(c:C) (d1:El (c.ren f)) (d2:El (c.ren g)),HEq d1 d2→(valC (c.ren f) d1).shift n=valC (c.ren g) d2
 | .bool,d1,d2,h=>by cases h;rfl
 | .int _,d1,d2,h=>by cases h;rfl
 | .str,d1,d2,h=>by cases h;rfl
 | .unit,d1,d2,h=>rfl
 | .list c,d1,d2,h=>by
  show CV.slice (c.ren f).cells (CV.shifts n (List.map (valC (c.ren f)) d1)) none false=CV.slice (c.ren g).cells (List.map (valC (c.ren g)) d2) none false;rw[CV.zWg,J5,zQ9,zQ9]
  congr 1;exact xJt (zWw f g c) h fun a b hab=>zKb hg c a b hab
 | .pair a b,d1,d2,h=>by
  obtain⟨h1,h2⟩:=xJs (zWw f g a) (zWw f g b) h;show CV.agg (CV.shifts n ((valC (a.ren f) d1.1).flat++(valC (b.ren f) d1.2).flat))=CV.agg ((valC (a.ren g) d2.1).flat++(valC (b.ren g) d2.2).flat)
  rw[CV.zWg,Qw,←CV.zK1,←CV.zK1,zKb hg a _ _ h1,zKb hg b _ _ h2]
 | .arr m c,d1,d2,h=>by
  show CV.agg (CV.shifts n ((List.range m).flatMap fun i=>(valC (c.ren f) (d1.getD i (dfl (c.ren f)))).flat))=CV.agg ((List.range m).flatMap fun i=>(valC (c.ren g) (d2.getD i (dfl (c.ren g)))).flat)
  rw[CV.zWg,List.map_flatMap];congr 2
  funext i
  rw[←CV.zK1,zKb hg c _ _ (xJu (zWw f g c) h (yJz f g c) i)]
 | .mix b c,d1,d2,h=>by
  show(mixC (f b) (c.ren f).cells (valC (c.ren f)) d1).shift n=mixC (g b) (c.ren g).cells (valC (c.ren g)) d2;rw[zQ9,zQ9];rcases vXm (zWw f g c) h with⟨l,k,rfl,rfl,hl⟩|⟨rfl,rfl⟩|⟨k,off,m,gen,rfl,rfl⟩
  ·show CV.slice c.cells (CV.shifts n (List.map (valC (c.ren f)) l)) none false=CV.slice c.cells (List.map (valC (c.ren g)) k) none false
   rw[CV.zWg,J5];congr 1;exact xJt (zWw f g c) hl fun a b hab=>zKb hg c a b hab
  ·rfl
  ·show CV.gref c.cells (n+f b) k (off*c.cells) m (gen*c.cells)=CV.gref c.cells (g b) k (off*c.cells) m (gen*c.cells)
   rw[hg]
theorem wJi{A A':Type}(hA:A'=A){φ φ':Phi}{St:Stab}{w:World}{F:A'→CV}{G:A→CV}(hFG:∀a b,HEq a b→∀us,VRL φ St w (F a).flat us→VRL φ' St w (G b).flat us)(hl:∀a b,(F a).flat.length=(G b).flat.length):
  ∀{x:List A'} {y:List A},HEq x y→∀us,VRL φ St w ((x.map F).flatMap CV.flat) us→VRL φ' St w ((y.map G).flatMap CV.flat) us:=by
 subst hA;intro x y h;cases h;induction x with
 |nil=>intro us hu;simp at hu⊢;cases hu;exact .nil
 |cons a x ih=>
  intro us hu;simp only[Qg,Qo]at hu⊢;have h1:=hu.take (F a).flat.length;have h2:=hu.drop (F a).flat.length;simp only[Kz,Ky]at h1 h2;rw[←Ja (F a).flat.length us]
  exact(hFG a a .rfl _ h1).append (ih _ h2)
theorem xYx{φ φ':Phi}{St:Stab}{w:World}{esz:Nat}{xs ys:List CV}{u:Value}(hl:ys.length=xs.length)(hsz:∀y∈ys,y.flat.length=esz)(hv:∀us,VRL φ St w (xs.flatMap CV.flat) us→VRL φ' St w (ys.flatMap CV.flat) us)
  (hu:VR φ St w (.slice esz xs none false) u):VR φ' St w (.slice esz ys none false) u:=by
 cases hu with|slice _ _ _ _ a cap vs hat hvs _ hcap _ _=>
 rw[←hl];exact .slice esz ys none false a cap vs (hat.imp (fun h=>by rw[h]at hl;exact Qr.1 hl) id) (hv _ hvs) hsz (by rw[hl];exact hcap) (by simp) trivial
theorem VR.ren{φ φ':Phi}{St:Stab}{w:World}{n:Nat}{f g:Nat→Nat}(hφ:∀i e,i<n→φ (f i)=some e→φ' (g i)=some e):∀(c:C),c.inB n=true→∀(d1:El (c.ren f)) (d2:El (c.ren g)),HEq d1 d2→
  (∀u,VR φ St w (valC (c.ren f) d1) u→VR φ' St w (valC (c.ren g) d2) u)∧∀us,VRL φ St w (valC (c.ren f) d1).flat us→VRL φ' St w (valC (c.ren g) d2).flat us:=by
 have one:∀{c1 c2:CV},c1.flat=[c1]→c2.flat=[c2]→(∀u,VR φ St w c1 u→VR φ' St w c2 u)→(∀u,VR φ St w c1 u→VR φ' St w c2 u)∧∀us,VRL φ St w c1.flat us→VRL φ' St w c2.flat us:=by
  intro c1 c2 h1 h2 h;refine⟨h,fun us hu=>?_⟩
  rw[h1]at hu;rw[h2];cases hu with|cons _ u _ us a b=>
  cases b;exact .cons _ _ _ _ (h _ a) .nil
 have agg:∀{cs ds:List CV},(∀us,VRL φ St w cs us→VRL φ' St w ds us)→(∀u,VR φ St w (.agg cs) u→VR φ' St w (.agg ds) u)∧∀us,VRL φ St w (CV.agg cs).flat us→VRL φ' St w (CV.agg ds).flat us:=by
  intro cs ds h;refine⟨fun u hu=>?_,h⟩
  cases hu with|agg _ us hus=>exact .agg _ _ (h _ hus)
 intro c;induction c with
 |bool=>intro _ d1 d2 h;cases h;exact⟨(zWq .bool d1 rfl).1 _ _ _ _ _ _,(zWq .bool d1 rfl).2 _ _ _ _ _ _⟩
 |int k=>intro _ d1 d2 h;cases h;exact⟨(zWq (.int k) d1 rfl).1 _ _ _ _ _ _,(zWq (.int k) d1 rfl).2 _ _ _ _ _ _⟩
 |str=>intro _ d1 d2 h;cases h;exact⟨(zWq .str d1 rfl).1 _ _ _ _ _ _,(zWq .str d1 rfl).2 _ _ _ _ _ _⟩
 |unit=>intro _ d1 d2 h;exact⟨(zWq .unit () rfl).1 _ _ _ _ _ _,(zWq .unit () rfl).2 _ _ _ _ _ _⟩
 |list c ih=>
  intro hb d1 d2 h;refine one rfl rfl fun u hu=>?_
  show VR φ' St w (.slice (c.ren g).cells (List.map (valC (c.ren g)) d2) none false) u;have hu':VR φ St w (.slice (c.ren f).cells (List.map (valC (c.ren f)) d1) none false) u:=hu
  rw[zQ9]at hu'⊢;refine xYx ?_ ?_ ?_ hu'
  ·rw[Qh,Qh];exact(xWt (zWw f g c) h).symm
  ·intro y hy;obtain⟨d,_,rfl⟩:=Ji.1 hy;rw[zQt,zQ9]
  ·exact wJi (zWw f g c) (fun a b hab=>(ih hb a b hab).2) (fun a b=>by rw[zQt,zQt,zQ9,zQ9]) h
 |pair a b iha ihb=>
  intro hb d1 d2 h;simp only[C.inB,Qc]at hb;obtain⟨h1,h2⟩:=xJs (zWw f g a) (zWw f g b) h;refine agg (cs:=(valC (a.ren f) d1.1).flat++(valC (b.ren f) d1.2).flat) (ds:=(valC (a.ren g) d2.1).flat++(valC (b.ren g) d2.2).flat) fun us hu=>?_
  have e1:=hu.take (valC (a.ren f) d1.1).flat.length;have e2:=hu.drop (valC (a.ren f) d1.1).flat.length;simp only[Kz,Ky]at e1 e2;rw[←Ja (valC (a.ren f) d1.1).flat.length us]
  exact((iha hb.1 _ _ h1).2 _ e1).append ((ihb hb.2 _ _ h2).2 _ e2)
 | arr m c ih=>
  intro hb d1 d2 h;refine agg (cs:=(List.range m).flatMap fun i=>(valC (c.ren f) (List.getD d1 i (dfl (c.ren f)))).flat) (ds:=(List.range m).flatMap fun i=>(valC (c.ren g) (List.getD d2 i (dfl (c.ren g)))).flat) ?_
  have:∀(l:List Nat) us,VRL φ St w (l.flatMap fun i=>(valC (c.ren f) (List.getD d1 i (dfl (c.ren f)))).flat) us→VRL φ' St w (l.flatMap fun i=>(valC (c.ren g) (List.getD d2 i (dfl (c.ren g)))).flat) us:=by
   intro l;induction l with
   |nil=>intro us hu;cases hu;exact .nil
   |cons i l ihl=>
    intro us hu;simp only[Qo]at hu⊢;have e1:=hu.take (valC (c.ren f) (List.getD d1 i (dfl (c.ren f)))).flat.length;have e2:=hu.drop (valC (c.ren f) (List.getD d1 i (dfl (c.ren f)))).flat.length
    simp only[Kz,Ky]at e1 e2;rw[←Ja (valC (c.ren f) (List.getD d1 i (dfl (c.ren f)))).flat.length us];exact((ih hb _ _ (xJu (zWw f g c) h (yJz f g c) i)).2 _ e1).append (ihl _ e2)
  exact this _
 | mix b c ih=>
  intro hb d1 d2 h;simp only[C.inB,Qc,decide_eq_true_eq]at hb;refine one (zWd _ _ _ _) (zWd _ _ _ _) fun u hu=>?_
  show VR φ' St w (mixC (g b) (c.ren g).cells (valC (c.ren g)) d2) u;have hu':VR φ St w (mixC (f b) (c.ren f).cells (valC (c.ren f)) d1) u:=hu;rw[zQ9]at hu'⊢
  rcases vXm (zWw f g c) h with⟨l,k,rfl,rfl,hl⟩|⟨rfl,rfl⟩|⟨k,off,m,gen,rfl,rfl⟩
  ·refine xYx (xs:=List.map (valC (c.ren f)) l) (ys:=List.map (valC (c.ren g)) k) ?_ ?_ ?_ hu'
   ·rw[Qh,Qh];exact(xWt (zWw f g c) hl).symm
   ·intro y hy;obtain⟨d,_,rfl⟩:=Ji.1 hy;rw[zQt,zQ9]
   ·exact wJi (zWw f g c) (fun a b hab=>(ih hb.2 a b hab).2) (fun a b=>by rw[zQt,zQt,zQ9,zQ9]) hl
  ·have hz:VR φ St w (.slice 0 [] none true) u:=hu'
   show VR φ' St w (.slice 0 [] none true) u;cases hz with|slice _ _ _ _ a cap vs hat hvs hsz hcap hfull _=>
   cases hvs;exact .slice 0 [] none true a cap [] (.inl rfl) .nil (by simp) hcap hfull trivial
  ·have hz:VR φ St w (.gref c.cells (f b) k (off*c.cells) m (gen*c.cells)) u:=hu'
   show VR φ' St w (.gref c.cells (g b) k (off*c.cells) m (gen*c.cells)) u;cases hz with
   |gref _ _ _ _ _ _ rs a cap h hcap hrow=>exact .gref _ _ _ _ _ _ rs a cap (hφ _ _ hb.1 h) hcap hrow
   |grefDead _ _ _ _ _ _ a cap h hcap=>exact .grefDead _ _ _ _ _ _ a cap (hφ _ _ hb.1 h) hcap
theorem Rel.pick{N:Nat}{φ φn:Phi}{St:Stab}{H O:Heap}{w:World}{g:Nat→Nat}(R:Rel N φ St H w)(hφn:∀i,φn i=if i<O.length then(if g i<H.length then φ (g i)else some (.rows []))else none)
  (hO:∀i,i<O.length→(H.length≤g i∧O[i]? =some (.rows []))∨∃css css':List (List CV),H[g i]? =some (.rows css)∧O[i]? =some (.rows css')∧css'.length=css.length∧∀(k:Nat) (cs cs':List CV),css[k]? =some cs→css'[k]? =some cs'→cs'.length=cs.length∧
   ∀(j:Nat) (c c':CV),cs[j]?=some c→cs'[j]?=some c'→∀u,VR φ St w c u→VR φn St w c' u)
  (hinj:∀i j,i<O.length→j<O.length→g i<H.length→g i=g j→i=j):Rel N φn St O w:=by
 have key:∀{i:Nat} {e:Ent},φn i=some e→i<O.length∧((e= .rows []∧O[i]? =some (.rows []))∨(φ (g i)=some e∧g i<H.length∧∃css css':List (List CV),H[g i]? =some (.rows css)∧O[i]? =some (.rows css')∧css'.length=css.length∧∀(k:Nat) (cs cs':List CV),css[k]? =some cs→css'[k]? =some cs'→cs'.length=cs.length∧
   ∀(j:Nat) (c c':CV),cs[j]?=some c→cs'[j]?=some c'→∀u,VR φ St w c u→VR φn St w c' u)):=by
  intro i e h;rw[hφn]at h;split at h
  ·rename_i hi
   refine⟨hi, ?_⟩;split at h
   ·rename_i hd
    rcases hO i hi with h1|h1
    ·omega
    ·exact .inr ⟨h,hd,h1⟩
   ·rename_i hd
    simp only[Qa]at h;rcases hO i hi with h1|⟨css,_,h1,_⟩
    ·exact .inl ⟨h.symm,h1.2⟩
    ·have:=(List.getElem?_eq_some_iff.1 h1).1;omega
  ·simp at h
 have rowsOnly:∀{i:Nat} {e:Ent},φn i=some e→∃rs,e=.rows rs:=by
  intro i e h;obtain⟨hi,⟨rfl,_⟩|⟨h1,_,css,css',h2,_⟩⟩:=key h
  ·exact⟨[],rfl⟩
  cases e with
  |rows rs=>exact⟨rs,rfl⟩
  |own r base size=>obtain⟨_,cs,_,_,h3,_⟩:=R.own _ _ _ _ h1;rw[h2]at h3;simp at h3
  |tail r used u size=>obtain⟨_,h3,_⟩:=R.tail _ _ _ _ _ h1;rw[h2]at h3;simp at h3
  |obj r=>obtain⟨_,o,O',h3,_,h4⟩:=R.obj _ _ h1;rw[h2]at h3;simp at h3;subst h3;cases h4
  |void u=>have:=(R.void _ _ h1).1;rw[h2]at this;simp at this
  |dead=>have:=R.dead _ h1;rw[h2]at this;simp at this
 have nohas:∀r,¬(Ent.rows []).has r:=by rintro r ⟨row,hm,_⟩;simp at hm
 refine⟨fun b e h=>(key h).1, ?_, ?_, ?_, ?_, ?_,R.stLt, ?_, ?_,R.start, ?_, ?_, ?_⟩
 ·intro b h;obtain⟨rs,h1⟩:=rowsOnly h;simp at h1
 ·intro b r base size h;obtain⟨rs,h1⟩:=rowsOnly h;simp at h1
 ·intro b r used u size h;obtain⟨rs,h1⟩:=rowsOnly h;simp at h1
 ·intro b r h;obtain⟨rs,h1⟩:=rowsOnly h;simp at h1
 ·intro b b' e e' r h h' he he'
  obtain⟨k1,⟨rfl,_⟩|⟨k2,k3,_⟩⟩:=key h
  ·exact absurd he (nohas r)
  obtain⟨g1,⟨rfl,_⟩|⟨g2,g3,_⟩⟩:=key h'
  ·exact absurd he' (nohas r)
  exact hinj _ _ k1 g1 k3 (R.inj _ _ _ _ _ k2 g2 he he')
 ·intro b r base size j h;obtain⟨rs,h1⟩:=rowsOnly h;simp at h1
 ·intro b r used u size j h;obtain⟨rs,h1⟩:=rowsOnly h;simp at h1
 ·intro b u h;obtain⟨rs,h1⟩:=rowsOnly h;simp at h1
 ·intro b rs h
  obtain⟨k1,⟨e0,ho⟩|⟨k2,k3,css,css',h1,h2,h3,h4⟩⟩:=key h
  ·simp only[Ent.rows.injEq]at e0;subst e0
   exact⟨[],ho,rfl,fun k row cs hr=>by simp at hr,fun k k' row row' r base lim base' lim' hne hr=>by simp at hr⟩
  obtain⟨css0,g1,g2,g3,g4⟩:=R.rows _ _ k2;rw[h1]at g1;simp at g1;subst g1;refine⟨css',h2,by rw[h3];exact g2,fun k row cs' hr hc=>?_,g4⟩
  have hk:k<css.length:=by rw[g2];exact(List.getElem?_eq_some_iff.1 hr).1
  obtain⟨q1,q2,q3⟩:=g3 k row css[k] hr (Qm hk);obtain⟨p1,p2⟩:=h4 k css[k] cs' (Qm hk) hc;refine⟨by rw[p1];exact q1,q2,fun r base lim hb=>?_⟩
  obtain⟨a1,a2,⟨arr,elem,a3,a4,a5,a6⟩,a7⟩:=q3 r base lim hb;refine⟨a1,a2,⟨arr,elem,a3,a4,a5,fun j c' hj=>?_⟩,a7⟩
  have hj2:j<css[k].length:=by rw[←p1];exact(List.getElem?_eq_some_iff.1 hj).1
  obtain⟨v,e1,e2⟩:=a6 j css[k][j] (Qm hj2);exact⟨v,e1,p2 j _ _ (Qm hj2) hj _ e2⟩
 ·intro b css hx
  have hb:=(List.getElem?_eq_some_iff.1 hx).1;rw[hφn,Qf hb];split
  ·rename_i hd
   rcases hO b hb with h1|⟨css1,_,h1,_⟩
   ·omega
   ·exact R.rdom _ _ h1
  ·exact⟨[],rfl⟩
theorem wKm(f g:Nat→Nat)(c:C)(d:El c):HEq (renD f c d) (renD g c d):=(cast_heq _ _).trans (cast_heq _ _).symm
theorem wZ9(f:Nat→Nat):∀(cs:List C) (d:Els cs),(valR f cs d).length=cs.length
 |[],_=>rfl
 |[c],d=>rfl
 |c::e::cs,d=>by simp only[valR,Jc,wZ9 f (e::cs) d.2]
theorem wQk(f:Nat→Nat):∀(cs:List C) (d:Els (yYy cs)),(yZc f cs d).length=cs.length
 |[],_=>rfl
 |[c],d=>rfl
 |c::e::cs,d=>by simp only[yZc,Jc,wQk f (e::cs) d.2]
theorem xX5{n:Nat}{f g:Nat→Nat}(hg:∀i,g i=n+f i):∀(cs:List C) (d:Els cs),CV.shifts n ((valR f cs d).map VV.cv)=(valR g cs d).map VV.cv
 |[],_=>rfl
 |[c],d=>by
  simp only[valR,Qg,Q8,CV.shifts,zQv];rw[zKb hg c _ _ (wKm f g c d)]
 |c::e::cs,d=>by
  have ih:=xX5 hg (e::cs) d.2;simp only[valR,Qg,CV.shifts,zQv];rw[zKb hg c _ _ (wKm f g c d.1)];exact Kr _ ih
theorem xZg{n:Nat}{f g:Nat→Nat}(hg:∀i,g i=n+f i)(c:C){d1:List (List (El (c.ren f)))}{d2:List (List (El (c.ren g)))}(h:HEq d1 d2):
  (VObj.rows (c.ren f) d1).ho.shift n=(VObj.rows (c.ren g) d2).ho:=by
 show HObj.rows ((d1.map (vecC (c.ren f))).map (CV.shifts n))=HObj.rows (d2.map (vecC (c.ren g)));rw[J5];congr 1;refine xJt (Kr List (zWw f g c)) h fun a b hab=>?_
 show CV.shifts n (a.flatMap fun d=>(valC (c.ren f) d).flat)=b.flatMap fun d=>(valC (c.ren g) d).flat
 have e1:∀l:List (El (c.ren f)),CV.shifts n (l.flatMap fun d=>(valC (c.ren f) d).flat)=(l.map fun d=>((valC (c.ren f) d).shift n).flat).flatten:=by
  intro l;rw[CV.zWg,List.map_flatMap,List.flatMap_def];congr 1;exact J4 fun d _=>(CV.zK1 n _).symm
 rw[e1,List.flatMap_def];congr 1;exact xJt (zWw f g c) hab fun x y hxy=>by rw[zKb hg c x y hxy]
theorem xWi{n:Nat}{f g:Nat→Nat}(hg:∀i,g i=n+f i):∀(cs:List C) (d:Els (yYy cs)),(hc (yZc f cs d)).map (HObj.shift n)=hc (yZc g cs d)
 |[],_=>rfl
 |[c],d=>by
  simp only[yZc,hc,Qg,Q8];rw[xZg hg c (d2:=cast (yZn g c).symm d) ((cast_heq _ _).trans (cast_heq _ _).symm)]
 |c::e::cs,d=>by
  have ih:=xWi hg (e::cs) d.2;simp only[yZc,hc,Qg]at ih⊢;rw[xZg hg c (d2:=cast (yZn g c).symm d.1) ((cast_heq _ _).trans (cast_heq _ _).symm),ih]
theorem yYk(f:Nat→Nat):∀(cs:List C) (d:Els (yYy cs)),(hc (yZc f cs d)).all HObj.simple=true
 |[],_=>rfl
 |[c],d=>rfl
 |c::e::cs,d=>by
  have ih:=yYk f (e::cs) d.2;simp only[hc]at ih;simp only[yZc,hc,Qg,J7,ih,Bool.and_true];rfl
def idN:Nat→Nat:=fun i=>i
section
variable {P:Program} {c:Cfg}
def OwnR(P:Program)(c:Cfg)(f:FuncId)(o:RFn):Prop:=∀d r,o.fn d=some r→zZk P c f ((zQ5 o.args d).map VV.cv) (oneV (valR idN o.res r.2)).cv (hc (yZc idN o.objs r.1))
theorem vJ6{f:FuncId}{o:RFn}(ho:OwnR P c f o)(hg:zZa c){β:Type}{args:List VV}{h:zQa}{m:List Nat}{K:KVal β}{r:β}(he:uXq o args h m K=some r):
  ∃v h' m',K v h' m'=some r∧zQo P c (.fn f) (args.map VV.cv) (hc h) .ret [v.cv] (hc h')∧zQe m' h h'∧(∀x∈m,x∈m'):=by
 unfold uXq at he;split at he
 ·simp at he
 rename_i hcond;simp only[Bool.not_eq_false,Qc,J3]at hcond;obtain⟨d,h1,h2⟩:=zYv hcond.2 he;simp only[Z.bind]at h1;cases hd:o.fn d with
 |none=>simp[hd]at h1
 |some rr=>
  simp only[hd,Kc]at h1;have hF:=(ho d rr hd).wYp hg h2 (yYk idN o.objs rr.1);have hgi:∀i,(fun i=>h.length+i) i=(hc h).length+idN i:=fun i=>by rw[zW8];rfl
  rw[xWi hgi,zXa,yZs,xX5 hgi,←zXa]at hF;exact⟨_,_,_,h1,by rw[zWb,zJz];exact hF,((zZg _ _).mono fun x hx=>Qv _ hx).push _,fun x hx=>Q7 _ hx⟩
theorem wKu{β:Type}{r:β}{f:Nat→Nat}{n:Nat}:∀{cs:List C} {vs:List VV} {K:Els cs→Option β},wYa f cs vs K=some r→cs.all (C.inB n)=true→∃ds,K ds=some r∧
  ∀(φ φ':Phi) (St:Stab) (w:World) (us:List Value),(∀i e,i<n→φ (f i)=some e→φ' (idN i)=some e)→VRL φ St w (vs.map VV.cv) us→VRL φ' St w ((valR idN cs ds).map VV.cv) us
 |[],vs,K,he,hb=>by
  simp only[wYa]at he;split at he<;>(try (simp at he;done))
  exact⟨(),he,fun _ _ _ _ us _ hu=>by cases hu;exact .nil⟩
 |[c],vs,K,he,hb=>by
  simp only[wYa]at he;split at he<;>(try (simp at he;done))
  rename_i v;split at he<;>(try (simp at he;done))
  rename_i d hd;refine⟨_,he,fun φ φ' St w us hφ hu=>?_⟩
  simp only[Qg,Q8]at hu;cases hu with|cons _ u _ us a b=>
  cases b;simp only[valR,Qg,Q8,zQv];exact .cons _ _ _ _ ((VR.ren hφ c (by simpa using hb) d _ ((cast_heq (zKg f c) d).symm.trans (cast_heq _ _).symm)).1 _ (yYo hd _ _ _ _ a)) .nil
 |c::e::cs,vs,K,he,hb=>by
  simp only[wYa]at he;split at he<;>(try (simp at he;done))
  rename_i v vs;split at he<;>(try (simp at he;done))
  rename_i d hd;rw[J7,Qc]at hb;obtain⟨ds,h1,h2⟩:=wKu he hb.2;refine⟨_,h1,fun φ φ' St w us hφ hu=>?_⟩
  simp only[Qg]at hu;cases hu with|cons _ u _ us a b=>
  simp only[valR,Qg,zQv];exact .cons _ _ _ _ ((VR.ren hφ c hb.1 d _ ((cast_heq (zKg f c) d).symm.trans (cast_heq _ _).symm)).1 _ (yYo hd _ _ _ _ a)) (h2 _ _ _ _ _ hφ b)
theorem xK4{β:Type}{r:β}{h:zQa}{f:Nat→Nat}:∀{cs:List C} {i:Nat} {K:Els (yYy cs)→Option β},wYb h f cs i K=some r→∃ds,K ds=some r∧
  ∀j,j<cs.length→∃c,cs[j]?=some c∧((h.length≤f (i+j)∧∃d2:List (List (El (c.ren idN))),d2=[]∧(yZc idN cs ds)[j]?=some (.rows (c.ren idN) d2))∨∃(d1:List (List (El (c.ren f)))) (d2:List (List (El (c.ren idN)))),HEq d1 d2∧h[f (i+j)]?=some (.rows (c.ren f) d1)∧(yZc idN cs ds)[j]?=some (.rows (c.ren idN) d2))
 |[],i,K,he=>⟨(),he,fun j hj=>by simp at hj⟩
 | [c],i,K,he=>by
  simp only[wYb]at he;split at he
  ·rename_i c' dss hb
   split at he<;>(try (simp at he;done))
   rename_i hcc;subst hcc;refine⟨_,he,fun j hj=>?_⟩
   have:j=0:=by simpa using hj
   subst this;exact⟨c,rfl, .inr ⟨dss,_,(cast_heq (yZn f c) dss).symm.trans (cast_heq _ _).symm,hb,rfl⟩⟩
  ·simp at he
  ·rename_i hb
   refine⟨_,he,fun j hj=>?_⟩
   have:j=0:=by simpa using hj
   subst this;exact⟨c,rfl, .inl ⟨List.getElem?_eq_none_iff.1 hb,_,eq_of_heq ((cast_heq (yZn idN c).symm _).trans (wX3 (Kr List (zKg idN c).symm))),rfl⟩⟩
 | c::e::cs,i,K,he=>by
  simp only[wYb]at he;split at he
  ·rename_i c' dss hb
   split at he<;>(try (simp at he;done))
   rename_i hcc;subst hcc;obtain⟨ds,h1,h2⟩:=xK4 he;refine⟨_,h1,fun j hj=>?_⟩
   cases j with
   |zero=>exact⟨c,rfl, .inr ⟨dss,_,(cast_heq (yZn f c) dss).symm.trans (cast_heq _ _).symm,hb,rfl⟩⟩
   |succ j=>
    obtain⟨c1,g1,g2⟩:=h2 j (by simpa using hj)
    refine⟨c1,g1, ?_⟩;rw[show i+1+j=i+(j+1) by omega]at g2
    exact g2
  ·simp at he
  ·rename_i hb
   obtain⟨ds,h1,h2⟩:=xK4 he;refine⟨_,h1,fun j hj=>?_⟩
   cases j with
   |zero=>exact⟨c,rfl, .inl ⟨List.getElem?_eq_none_iff.1 hb,_,eq_of_heq ((cast_heq (yZn idN c).symm _).trans (wX3 (Kr List (zKg idN c).symm))),rfl⟩⟩
   |succ j=>
    obtain⟨c1,g1,g2⟩:=h2 j (by simpa using hj)
    refine⟨c1,g1, ?_⟩;rw[show i+1+j=i+(j+1) by omega]at g2
    exact g2
theorem vJ3{φ φ':Phi}{St:Stab}{w:World}{n:Nat}{f g:Nat→Nat}(hφ:∀i e,i<n→φ (f i)=some e→φ' (g i)=some e):∀(c:C),c.inB n=true→∀(a:El (c.ren f)) (b:El (c.ren g)),HEq a b→
  ∀(j:Nat) (x y:CV),(valC (c.ren f) a).flat[j]?=some x→(valC (c.ren g) b).flat[j]?=some y→∀u,VR φ St w x u→VR φ' St w y u:=by
 intro c;have one:∀{c:C},c.inB n=true→(∀d,(valC (c.ren f) d).flat=[valC (c.ren f) d])→(∀d,(valC (c.ren g) d).flat=[valC (c.ren g) d])→∀(a:El (c.ren f)) (b:El (c.ren g)),HEq a b→
   ∀(j:Nat) (x y:CV),(valC (c.ren f) a).flat[j]?=some x→(valC (c.ren g) b).flat[j]?=some y→∀u,VR φ St w x u→VR φ' St w y u:=by
  intro c hb h1 h2 a b hab j x y hx hy u hu;rw[h1]at hx;rw[h2]at hy;cases j with
  |zero=>
   simp only[K8,Qa]at hx hy;subst hx;subst hy;exact(VR.ren hφ c hb a b hab).1 u hu
  |succ j=>simp at hx
 induction c with
 |bool=>intro hb;exact one hb (fun _=>rfl) fun _=>rfl
 |int k=>intro hb;exact one hb (fun _=>rfl) fun _=>rfl
 |str=>intro hb;exact one hb (fun _=>rfl) fun _=>rfl
 |unit=>intro hb a b hab j x y hx;simp[valC,CV.flat]at hx
 |list c ih=>intro hb;exact one hb (fun _=>rfl) fun _=>rfl
 |mix b c ih=>intro hb;exact one hb (fun _=>zWd _ _ _ _) fun _=>zWd _ _ _ _
 | pair c1 c2 ih1 ih2=>
  intro hb a b hab j x y hx hy u hu;simp only[C.inB,Qc]at hb;obtain⟨h1,h2⟩:=xJs (zWw f g c1) (zWw f g c2) hab;have hl:(valC (c1.ren f) a.1).flat.length=(valC (c1.ren g) b.1).flat.length:=by rw[zQt,zQt,zQ9,zQ9]
  change ((valC (c1.ren f) a.1).flat++(valC (c2.ren f) a.2).flat)[j]?=some x at hx;change ((valC (c1.ren g) b.1).flat++(valC (c2.ren g) b.2).flat)[j]?=some y at hy
  by_cases hj:j<(valC (c1.ren f) a.1).flat.length
  ·rw[Qb hj]at hx
   rw[Qb (by rw[←hl];exact hj)]at hy
   exact ih1 hb.1 _ _ h1 j x y hx hy u hu
  ·rw[Qj (by omega)]at hx
   rw[Qj (by rw[←hl];omega),←hl]at hy
   exact ih2 hb.2 _ _ h2 _ x y hx hy u hu
 | arr m c ih=>
  intro hb a b hab j x y hx hy u hu;change ((List.range m).flatMap fun i=>(valC (c.ren f) (List.getD a i (dfl (c.ren f)))).flat)[j]?=some x at hx
  change ((List.range m).flatMap fun i=>(valC (c.ren g) (List.getD b i (dfl (c.ren g)))).flat)[j]?=some y at hy
  have:∀(l:List Nat) (j:Nat) (x y:CV),(l.flatMap fun i=>(valC (c.ren f) (List.getD a i (dfl (c.ren f)))).flat)[j]?=some x→(l.flatMap fun i=>(valC (c.ren g) (List.getD b i (dfl (c.ren g)))).flat)[j]?=some y→∀u,VR φ St w x u→VR φ' St w y u:=by
   intro l;induction l with
   |nil=>intro j x y hx;simp at hx
   | cons i l ihl=>
    intro j x y hx hy;simp only[Qo]at hx hy;have hl:(valC (c.ren f) (List.getD a i (dfl (c.ren f)))).flat.length=(valC (c.ren g) (List.getD b i (dfl (c.ren g)))).flat.length:=by rw[zQt,zQt,zQ9,zQ9]
    by_cases hj:j<(valC (c.ren f) (List.getD a i (dfl (c.ren f)))).flat.length
    ·rw[Qb hj]at hx
     rw[Qb (by rw[←hl];exact hj)]at hy
     exact ih hb _ _ (xJu (zWw f g c) hab (yJz f g c) i) j x y hx hy
    ·rw[Qj (by omega)]at hx
     rw[Qj (by rw[←hl];omega),←hl]at hy
     exact ihl _ _ _ hx hy
  exact this _ j x y hx hy u hu
theorem vKe{φ φ':Phi}{St:Stab}{w:World}{n:Nat}{f g:Nat→Nat}(hφ:∀i e,i<n→φ (f i)=some e→φ' (g i)=some e){c:C}(hb:c.inB n=true){a:List (El (c.ren f))}{b:List (El (c.ren g))}(hab:HEq a b):
  (vecC (c.ren g) b).length=(vecC (c.ren f) a).length∧∀(j:Nat) (x y:CV),(vecC (c.ren f) a)[j]?=some x→(vecC (c.ren g) b)[j]?=some y→∀u,VR φ St w x u→VR φ' St w y u:=by
 refine⟨by rw[zQp,zQp,zQ9,zQ9,xWt (zWw f g c) hab], ?_⟩
 have key:∀{A A':Type} (hA:A'=A) {F:A'→CV} {G:A→CV} (hFG:∀a b,HEq a b→∀(j:Nat) (x y:CV),(F a).flat[j]? =some x→(G b).flat[j]? =some y→∀u,VR φ St w x u→VR φ' St w y u) (hl:∀a b,(F a).flat.length=(G b).flat.length)
   {x:List A'} {y:List A},HEq x y→∀(j:Nat) (p q:CV),(x.flatMap fun d=>(F d).flat)[j]?=some p→(y.flatMap fun d=>(G d).flat)[j]?=some q→∀u,VR φ St w p u→VR φ' St w q u:=by
  intro A A' hA F G hFG hl x y h;subst hA;cases h;induction x with
  |nil=>intro j p q hp;simp at hp
  | cons d x ih=>
   intro j p q hp hq;simp only[Qo]at hp hq;by_cases hj:j<(F d).flat.length
   ·rw[Qb hj]at hp
    rw[Qb (by rw[←hl d d];exact hj)]at hq
    exact hFG d d .rfl j p q hp hq
   ·rw[Qj (by omega)]at hp
    rw[Qj (by rw[←hl d d];omega),←hl d d]at hq
    exact ih _ _ _ hp hq
 refine key (zWw f g c) (fun a b hab j x y hx hy u hu=>?_) (fun a b=>by rw[zQt,zQt,zQ9,zQ9]) hab
 exact vJ3 hφ c hb a b hab j x y hx hy u hu
theorem vKt{n:Nat}{v:VV}{vs:List VV}(he:uQ3 n v=some vs):∀φ St w u,VR φ St w v.cv u→∃us,VRL φ St w (vs.map VV.cv) us∧∀φ' St' (ws:List CV),ws.length=n→VRL φ' St' w ws us→VR φ' St' w (oneOf ws) u:=by
 intro φ St w u hu;unfold uQ3 at he;split at he
 ·simp only[Qa]at he;subst he
  refine⟨[u], .cons _ _ _ _ hu .nil,fun φ' St' ws hw h=>?_⟩
  match ws,hw with
  |[c],_=>cases h with|cons _ _ _ _ a b=>exact a
 ·rename_i hn
  split at he<;>(try (simp at he;done))
  simp only[Qa]at he;subst he;simp only[VV.cv,VV.zQx]at hu;cases hu with|tuple _ us hus=>
  refine⟨us,hus,fun φ' St' ws hw h=>?_⟩
  match ws,hw with
  |[],_=>exact .tuple _ _ h
  |[c],hw=>exact absurd hw.symm hn
  |c::d::l,_=>exact .tuple _ _ h
theorem uWl {f:FuncId}{args:List CV}{h:zQa}{v:VV}{objs res:List C}{r:Els (yYy objs)×Els res}(hF:zQo P c (.fn f) args [] .ret [v.cv] (hc h))(he:outR objs res v h some=some r):
    zZk P c f args (oneV (valR idN res r.2)).cv (hc (yZc idN objs r.1)):=by
  unfold outR at he;split at he<;>(try (simp at he;done))
  rename_i vs hvs;generalize foundAt (uQc h h.length objs 0 (vQf res vs [])) h.length=g at he;unfold outRF at he;split at he<;>(try (simp at he;done))
  rename_i hcond;simp only[Qc]at hcond;obtain⟨⟨hbo,hbr⟩,hdist⟩:=hcond;obtain⟨ds,he,hob⟩:=xK4 he;obtain⟨rs,he,hrv⟩:=wKu (n:=objs.length) he hbr;simp only[Qa]at he
  subst he;have hinj:∀i j,i<objs.length→j<objs.length→g i<h.length→g i=g j→i=j:=by
    intro i j hi hj hlt hgg;have:=Qq.1 (Qq.1 hdist i (Wm.2 hi)) j (Wm.2 hj);simp only[Kp,decide_eq_true_eq,bne_iff_ne]at this;rcases this with(h1|h1)|h1
    ·exact h1
    ·exact absurd hgg h1
    ·omega
  obtain⟨hent,hC⟩:=hF;refine⟨hent,fun St w us hst hg hu=>(hC w.heap.size Phi0 St w us (Rel.xYw hst) hg hu).mono ?_⟩
  intro e w' hp;cases e with
  |outgrown=>exact hp.elim
  |panicked ch=>obtain⟨_,_,_,_,_,h3,_⟩:=hp;simp at h3
  |returned u=>
  obtain⟨φ',St',l,c1,_,h3,hvr⟩:=hp;simp at h3;subst h3;have R:=l.rel;have fr:=l.frm;let φn:Phi:=fun i=>if i<objs.length then(if g i<h.length then φ' (g i)else some (.rows []))else none
  have hφ:∀i e,i<objs.length→φ' (g i)=some e→φn (idN i)=some e:=fun i e hi hx=>by
    show(if i<objs.length then(if g i<h.length then φ' (g i)else some (.rows []))else none)=some e
    rw[Qf hi,Qf (by have:=R.dom _ _ hx;rwa [zW8]at this)];exact hx
  have hlen:(hc (yZc idN objs ds)).length=objs.length:=by rw[zW8,wQk]
  have RP:Rel w.heap.size φn St' (hc (yZc idN objs ds)) w':=by
    refine R.pick (g:=g) (fun i=>by rw[hlen,zW8]) (fun i hi=>?_) (fun i j hi hj hlt hgg=>hinj i j (by rw[←hlen];exact hi) (by rw[←hlen];exact hj) (by rw[←zW8];exact hlt) hgg)
    rw[hlen]at hi;obtain⟨c0,hc0,hh⟩:=hob i hi;rw[Jo]at hh;rcases hh with⟨hh,d2,rfl,hh2⟩|⟨d1,d2,hd,hh1,hh2⟩
    ·exact .inl ⟨by rw[zW8];exact hh,by rw[zQ6,hh2];rfl⟩
    · have hb0:c0.inB objs.length=true:=Qq.1 hbo _ (Ql hc0)
      refine .inr ⟨d1.map (vecC (c0.ren g)),d2.map (vecC (c0.ren idN)),by rw[zQ6,hh1];rfl,by rw[zQ6,hh2];rfl, ?_,fun k cs cs' h1 h2=>?_⟩
      ·rw[Qh,Qh];exact(xWt (Kr List (zWw g idN c0)) hd).symm
      · rw[Qt,J8]at h1 h2
        obtain⟨a,ha,rfl⟩:=h1;obtain⟨b,hb,rfl⟩:=h2;exact vKe hφ hb0 (uW4 (Kr List (zWw g idN c0)) hd ha hb)
  obtain⟨zs,hz1,hz2⟩:=vKt hvs _ _ _ _ hvr;refine⟨u,φn,St',rfl, ?_,RP, ?_⟩
  · exact { ext :=fun _=> .fresh _,st:=fr.st,keep:=fr.keep,size:=fr.size,stNew:=fr.stNew,
            blkNew:=fun b e r hb he=>by
              simp only[φn]at hb;split at hb
              · split at hb
                ·exact .inr (R.lt hb he).1
                · simp only[Qa]at hb;subst hb
                  obtain⟨row,hm,_⟩:=he;simp at hm
              ·simp at hb,
            keepBlk:=fr.keepBlk,idNew:=fun _ h=>by omega,os:=fr.os,output:=fr.output,tape:=fr.tape}
  · rw[zXa]
    exact hz2 _ _ _ (by rw[Qh,wZ9]) (hrv _ _ _ _ _ hφ hz1)
end
end Go.Eng
/- Elements that name the third place of a call, and the same in a caller's places. -/
namespace Go.Eng
set_option linter.unusedVariables false
theorem wKl(f:Nat→Nat)(c:C)(ds:List (El (c.ren f))):HEq (renL f c ds) ds:=cast_heq _ _
theorem vKu(f:Nat→Nat)(c:C)(ds:List (El c)):HEq ds (renK f c ds):=(cast_heq _ _).symm
theorem wKk(f:Nat→Nat)(c:C)(ds:List (El (c.ren f))):(renL f c ds).length=ds.length:=(xWt (zKg f c) (wKl f c ds).symm).symm
theorem xY4(f:Nat→Nat):∀c:C,c.pl=true→c.ren f=c
 | .bool,_=>rfl
 | .int _,_=>rfl
 | .str,_=>rfl
 | .unit,_=>rfl
 | .list c,h=>by rw[C.ren,xY4 f c h]
 | .pair a b,h=>by
  simp only[C.pl,Qc]at h;rw[C.ren,xY4 f a h.1,xY4 f b h.2]
 | .arr n c,h=>by rw[C.ren,xY4 f c h]
 | .mix _ _,h=>by simp[C.pl]at h
theorem xKh:∀(c:C),c.q2=true→∀(d:El c),∀x∈(valC c d).flat,okQ 2 x
 | .bool,_,d,x,hx=>by simp[valC,CV.flat]at hx;subst hx;exact .inl rfl
 | .int _,_,d,x,hx=>by simp[valC,CV.flat]at hx;subst hx;exact .inl rfl
 | .str,_,d,x,hx=>by simp[valC,CV.flat]at hx;subst hx;exact .inl rfl
 | .unit,_,d,x,hx=>by simp[valC,CV.flat]at hx
 | .pair a b,h,d,x,hx=>by
  simp only[C.q2,Qc]at h;simp only[valC,flat_agg,Qy]at hx;rcases hx with hx|hx
  ·exact xKh a h.1 d.1 x hx
  ·exact xKh b h.2 d.2 x hx
 | .mix b c,h,d,x,hx=>by
  simp only[C.q2,Qc,beq_iff_eq]at h;obtain⟨h1,rfl⟩:=h;simp only[valC,zWd,List.mem_singleton]at hx;subst hx;cases d with
  |data ds=>exact .inl (zQ8 (.list c) ds h1)
  |nil=>exact .inl rfl
  |ref k off n gen=>exact .inr ⟨_,_,_,_,_,rfl⟩
 | .list _,h,_,_,_=>by simp[C.q2]at h
 | .arr _ _,h,_,_,_=>by simp[C.q2]at h
theorem xKg{q:Nat}{f:Nat→Nat}(hf:∀i,f i=q):∀(c:C),c.q2=true→∀(d1:El c) (d2:El (c.ren f)),HEq d1 d2→(valC c d1).flat.map (onQ q)=(valC (c.ren f) d2).flat
 | .bool,_,d1,d2,h=>by cases h;rfl
 | .int _,_,d1,d2,h=>by cases h;rfl
 | .str,_,d1,d2,h=>by cases h;rfl
 | .unit,_,d1,d2,h=>rfl
 | .pair a b,hq,d1,d2,h=>by
  simp only[C.q2,Qc]at hq;have e1:El (a.ren f)=El a:=zKg f a;have e2:El (b.ren f)=El b:=zKg f b;have key:∀{A A' B B':Type} (hA:A'=A) (hB:B'=B) (x:A×B) (y:A'×B'),HEq x y→HEq x.1 y.1∧HEq x.2 y.2:=by
   intro A A' B B' hA hB x y hxy;subst hA;subst hB;cases hxy;exact⟨.rfl, .rfl⟩
  obtain⟨k1,k2⟩:=key e1 e2 d1 d2 h;show((valC a d1.1).flat++(valC b d1.2).flat).map (onQ q)=(valC (a.ren f) d2.1).flat++(valC (b.ren f) d2.2).flat;rw[Qw,xKg hf a hq.1 d1.1 d2.1 k1,xKg hf b hq.2 d1.2 d2.2 k2]
 | .mix b c,hq,d1,d2,h=>by
  simp only[C.q2,Qc,beq_iff_eq]at hq;obtain⟨h1,rfl⟩:=hq;show(mixC 2 c.cells (valC c) d1).flat.map (onQ q)=(mixC (f 2) (c.ren f).cells (valC (c.ren f)) d2).flat
  rw[hf 2,zWd,zWd];have e:=xY4 f c h1;revert d2;show∀d2:MixE (El (c.ren f)),HEq d1 d2→_;rw[e];intro d2 h;cases h;cases d1 with
  |data ds=>exact Kr (fun x=>[x]) (yY6 (zQ8 (.list c) ds h1))
  |nil=>rfl
  |ref k off n gen=>rfl
 | .list _,h,_,_,_=>by simp[C.q2]at h
 | .arr _ _,h,_,_,_=>by simp[C.q2]at h
theorem xKd{c:C}(h:c.q2=true)(ds:List (El c)):∀x∈vecC c ds,okQ 2 x:=by
 intro x hx;unfold vecC at hx;obtain⟨d,_,hx⟩:=J0.1 hx;exact xKh c h d x hx
theorem wZ6{q:Nat}{f:Nat→Nat}(hf:∀i,f i=q){c:C}(h:c.q2=true)(ds:List (El c))(ds2:List (El (c.ren f)))(hd:HEq ds ds2):(vecC c ds).map (onQ q)=vecC (c.ren f) ds2:=by
 have key:∀{A A':Type} (hA:A'=A) {F:A→List CV} {G:A'→List CV} (hFG:∀a b,HEq a b→(F a).map (onQ q)=G b) (x:List A) (y:List A'),HEq x y→(x.flatMap F).map (onQ q)=y.flatMap G:=by
  intro A A' hA F G hFG x y hxy;subst hA;cases hxy;clear hd;induction y with
  |nil=>rfl
  |cons a y ih=>rw[Qo,Qo,Qw,hFG a a .rfl,ih]
 exact key (zKg f c) (fun a b hab=>xKg hf c h a b hab) ds ds2 hd
end Go.Eng
/- Places of one's own that come to be rows among others. -/
namespace Go.Eng
set_option linter.unusedVariables false
section
variable {N:Nat} {φ:Phi} {St:Stab} {H:Heap} {w:World}
theorem Rel.move{b Q r base size:Nat}{cs:List CV}{rs:List Row}{css:List (List CV)}(R:Rel N φ St H w)(hφ:φ b=some (.own r base size))(hb:H[b]? =some (.cells cs))(hQ:φ Q=some (.rows rs))(hHQ:H[Q]? =some (.rows css)):
  Left N φ St H w ((H.set b .dead).set Q (.rows (css++[cs]))) ((φ.put b .dead).put Q (.rows (rs++[⟨some (r,base,size-base),cs.length⟩]))) St w:=by
 have hne:b≠Q:=by rintro rfl;rw[hφ]at hQ;simp at hQ
 obtain⟨R1,F1⟩:=R.kill hφ;have hQ1:(φ.put b .dead) Q=some (.rows rs):=by rw[zQc _ _ _ _ (Jw hne)];exact hQ
 have hHQ1:(H.set b .dead)[Q]?=some (.rows css):=by rw[Qd hne];exact hHQ
 have hQl:Q<(H.set b HObj.dead).length:=R1.dom _ _ hQ1;obtain⟨hN,cs0,arr,elem,h2,hw,⟨hsz,hz⟩,hle,hvals⟩:=R.own _ _ _ _ hφ;rw[hb]at h2;simp at h2;subst h2
 have m:Mono (φ.put b .dead) St w ((φ.put b .dead).put Q (.rows (rs++[⟨some (r,base,size-base),cs.length⟩]))) St w:=by
  refine⟨fun b'=>?_,fun _ _ hs=>hs,fun _ _ _=>rfl⟩
  by_cases hb':b'=Q
  ·subst hb';rw[zQg,hQ1]
   refine .rows _ _ fun k row hk=>⟨row, ?_, .inl rfl⟩
   rw[Qb (List.getElem?_eq_some_iff.1 hk).1];exact hk
  ·rw[zQc _ _ _ _ hb'];exact .refl _
 have hnoR:¬(Ent.rows rs).has r:=fun hh=>hne (R.inj b Q _ _ r hφ hQ rfl hh)
 have hno:∀b' e,b'≠Q→(φ.put b .dead) b'=some e→∀r',(Ent.rows (rs++[⟨some (r,base,size-base),cs.length⟩])).has r'→¬e.has r':=by
  intro b' e hb' he r' ⟨row,hm,base',lim',hblk⟩ hr';by_cases hbb:b'=b
  ·subst hbb;rw[zQg]at he;simp at he;subst he;simp[Ent.has]at hr'
  ·rw[zQc _ _ _ _ hbb]at he
   rcases Qy.1 hm with hm|hm
   ·exact hb' (R.inj b' Q _ _ r' he hQ hr' ⟨row,hm,base',lim',hblk⟩)
   ·simp at hm;subst hm
    simp at hblk;obtain⟨rfl,_⟩:=hblk;exact hbb (R.inj b' b _ _ r he hφ hr' rfl)
 have hrows:=R1.rows _ _ hQ1;rw[hHQ1]at hrows;obtain⟨css0,g1,g2,g3,g4⟩:=hrows;simp at g1;subst g1;have hent:zKx N ((φ.put b .dead).put Q (.rows (rs++[⟨some (r,base,size-base),cs.length⟩]))) St w (rs++[⟨some (r,base,size-base),cs.length⟩]) (some (.rows (css++[cs]))):=by
  refine⟨_,rfl,by simp[g2],fun k row cs1 hr hc=>?_,fun k k' row row' r1 base1 lim1 base2 lim2 hkk hr hr' hb1 hb2=>?_⟩
  ·by_cases hk:k<rs.length
   ·rw[Qb hk]at hr
    rw[Qb (by omega)]at hc
    have ho:=g3 k row cs1 hr hc;exact ho.step m fun r1 base1 lim1 hb1=>⟨zJp.same rfl,(ho.2.2 r1 base1 lim1 hb1).2.2.2⟩
   ·rw[Qj (by omega)]at hr
    rw[Qj (by omega)]at hc
    have hk0:k-rs.length=0:=by
     have:=(List.getElem?_eq_some_iff.1 hr).1;simp at this;omega
    rw[hk0]at hr;rw[g2,hk0]at hc;simp at hr hc;subst hr;subst hc;refine⟨rfl,fun h=>by simp at h,fun r1 base1 lim1 hb1=>?_⟩
    simp at hb1;obtain⟨rfl,rfl,rfl⟩:=hb1;refine⟨hN,by simp only;omega,⟨arr,elem,hw,by rw[hsz];exact hz,by omega,fun j c hc=>?_⟩,fun j=>R.stOwn _ _ _ _ j hφ⟩
    obtain⟨v,e1,e2⟩:=hvals j c hc;exact⟨v,e1,e2.mono (F1.toMono.trans m)⟩
  ·have key:∀{i:Nat} {ro:Row} {b3 l3:Nat},(rs++[(⟨some (r,base,size-base),cs.length⟩:Row)])[i]?=some ro→ro.blk=some (r1,b3,l3)→(i<rs.length∧rs[i]?=some ro)∨(i=rs.length∧r1=r):=by
    intro i ro b3 l3 hi hbl;by_cases hk:i<rs.length
    ·rw[Qb hk]at hi;exact .inl ⟨hk,hi⟩
    ·rw[Qj (by omega)]at hi
     have hk0:i-rs.length=0:=by
      have:=(List.getElem?_eq_some_iff.1 hi).1;simp at this;omega
     rw[hk0]at hi;simp at hi;subst hi;simp at hbl;exact .inr ⟨by omega,hbl.1.symm⟩
   rcases key hr hb1 with⟨a1,a2⟩|⟨a1,a2⟩<;>rcases key hr' hb2 with⟨c1,c2⟩|⟨c1,c2⟩
   ·exact g4 k k' row row' r1 base1 lim1 base2 lim2 hkk a2 c2 hb1 hb2
   ·exact absurd ⟨row,Ql a2,base1,lim1,c2▸hb1⟩ hnoR
   ·exact absurd ⟨row',Ql c2,base2,lim2,a2▸hb2⟩ hnoR
   ·omega
 have RR:=R1.change Q (.rows (rs++[(⟨some (r,base,size-base),cs.length⟩:Row)])) (.rows (css++[cs])) St ((H.set b .dead).set Q (.rows (css++[cs]))) w m (Qe _) (by rw[Qk hQl]) (by simp)
  (fun b' e hne' hb'=>by rw[Qd (Jw hne')]) (fun _ _ _ _ _ _=>rfl) R1.stLt (fun _ _ hs=>.inl hs) (fun r' he b' e hne' hb'=>hno b' e hne' hb' r' he) (show vZ5 N _ St w (HObj.rows (css++[cs])) (Ent.rows (rs++[(⟨some (r,base,size-base),cs.length⟩:Row)]))from hent)
 refine⟨RR, ?_, ?_⟩
 ·refine{toMono:=F1.toMono.trans m,size:=Qe _,stNew:=fun _ _ hs=> .inl hs,blkNew:= ?_,keepBlk:=fun _ _ _=>rfl,idNew:= ?_,os:=rfl,output:=rfl,tape:=rfl}
  ·intro b' e r' hb' he
   by_cases hbk:b'=Q
   ·subst hbk;rw[zQg]at hb';simp at hb';subst hb'
    obtain⟨row,hm,base',lim',hblk⟩:=he;rcases Qy.1 hm with hm|hm
    ·exact .inl ⟨b',_,hQ,row,hm,base',lim',hblk⟩
    ·simp at hm;subst hm
     simp at hblk;obtain⟨rfl,_⟩:=hblk;exact .inl ⟨b,_,hφ,rfl⟩
   ·rw[zQc _ _ _ _ hbk]at hb';exact F1.blkNew b' e r' hb' he
  ·intro b' hb' hn
   rw[zQc _ _ _ _ (by rintro rfl;rw[hQ]at hn;simp at hn)];exact F1.idNew b' hb' hn
 ·refine⟨by simp,fun b' hb' hn=> ?_⟩
  rw[Qd (by rintro rfl;rw[hQ]at hn;simp at hn),Qd (by rintro rfl;rw[hφ]at hn;simp at hn)]
theorem wY8{b Q esz len cap r base size:Nat}{ex:Bool}{rs:List Row}{cs:List CV}{u:Value}(hφ:φ b=some (.own r base size))(hl:len*esz=cs.length)(hu:VR φ St w (.sref esz b 0 len cap ex) u):
  VR ((φ.put b .dead).put Q (.rows (rs++[⟨some (r,base,size-base),cs.length⟩]))) St w (.gref esz Q rs.length 0 len (len*esz)) u:=by
 cases hu with
 |sref _ _ _ _ _ _ r' base' size' rcap h h1 h2 h3 h4=>
  rw[hφ]at h;simp only[Qa,Ent.own.injEq]at h;obtain⟨rfl,rfl,rfl⟩:=h;refine .gref _ _ _ _ _ _ _ _ _ (zQg _ _ _) (by omega) (.inr ⟨by simp,fun row hr=>?_⟩)
  rw[Qj (Qe _),Nat.sub_self]at hr;simp at hr;subst hr;exact⟨by show len*esz≤cs.length;omega,fun _=>⟨rfl,by omega⟩⟩
 |srefDead _ _ _ _ _ _ _ _ h=>rw[hφ]at h;simp at h
theorem Rel.vJg{b:Nat}{rs:List Row}(R:Rel N φ St H w)(hφ:φ b=some (.rows rs)):
  Rel N (φ.put b .dead) St (H.set b .dead) w∧Frm H.length φ St w (φ.put b .dead) St w:=by
 have hbl:=R.dom b _ hφ;have m:Mono φ St w (φ.put b .dead) St w:=by
  refine⟨fun b'=>?_,fun _ _ hs=>hs,fun _ _ _=>rfl⟩
  by_cases hb:b'=b
  ·subst hb;rw[zQg,hφ];exact .die _
  ·rw[zQc _ _ _ _ hb];exact .refl _
 refine⟨R.change b .dead .dead St (H.set b .dead) w m (Qe _) (by rw[Qk hbl]) (by simp) (fun b' e hne _=>by rw[Qd (Jw hne)])
  (fun _ _ _ _ _ _=>rfl) R.stLt (fun _ _ hs=>.inl hs) (fun r hr=>by simp[Ent.has]at hr) rfl, ?_⟩
 refine{toMono:=m,size:=Qe _,stNew:=fun _ _ hs=>.inl hs,blkNew:=?_,keepBlk:=fun _ _ _=>rfl,idNew:=?_,os:=rfl,output:=rfl,tape:=rfl}
 ·intro b' e r' hb he
  by_cases hbb:b'=b
  ·subst hbb;rw[zQg]at hb;simp at hb;subst hb;simp[Ent.has]at he
  ·rw[zQc _ _ _ _ hbb]at hb;exact .inl ⟨b',e,hb,he⟩
 ·intro b' hb hn
  by_cases hbb:b'=b
  ·subst hbb;rw[hφ]at hn;simp at hn
  ·rw[zQc _ _ _ _ hbb];exact hn
theorem Rel.merge{b Q:Nat}{rs rs2:List Row}{css css2:List (List CV)}(R:Rel N φ St H w)(hne:b≠Q)(hφ:φ b=some (.rows rs2))(hb:H[b]? =some (.rows css2))(hQ:φ Q=some (.rows rs))(hHQ:H[Q]? =some (.rows css)):
  Left N φ St H w ((H.set b .dead).set Q (.rows (css++css2))) ((φ.put b .dead).put Q (.rows (rs++rs2))) St w:=by
 obtain⟨R1,F1⟩:=R.vJg hφ;have hQ1:(φ.put b .dead) Q=some (.rows rs):=by rw[zQc _ _ _ _ (Jw hne)];exact hQ
 have hHQ1:(H.set b .dead)[Q]?=some (.rows css):=by rw[Qd hne];exact hHQ
 have hQl:Q<(H.set b HObj.dead).length:=R1.dom _ _ hQ1;obtain⟨css2',q1,q2,q3,q4⟩:=R.rows _ _ hφ;rw[hb]at q1;simp at q1;subst q1;have m:Mono (φ.put b .dead) St w ((φ.put b .dead).put Q (.rows (rs++rs2))) St w:=by
  refine⟨fun b'=>?_,fun _ _ hs=>hs,fun _ _ _=>rfl⟩
  by_cases hb':b'=Q
  ·subst hb';rw[zQg,hQ1]
   refine .rows _ _ fun k row hk=>⟨row, ?_, .inl rfl⟩
   rw[Qb (List.getElem?_eq_some_iff.1 hk).1];exact hk
  ·rw[zQc _ _ _ _ hb'];exact .refl _
 have hcross:∀{r:Nat},(Ent.rows rs).has r→(Ent.rows rs2).has r→False:=fun h1 h2=>hne (R.inj b Q _ _ _ hφ hQ h2 h1)
 have hno:∀b' e,b'≠Q→(φ.put b .dead) b'=some e→∀r',(Ent.rows (rs++rs2)).has r'→¬e.has r':=by
  intro b' e hb' he r' ⟨row,hm,base',lim',hblk⟩ hr';by_cases hbb:b'=b
  ·subst hbb;rw[zQg]at he;simp at he;subst he;simp[Ent.has]at hr'
  ·rw[zQc _ _ _ _ hbb]at he
   rcases Qy.1 hm with hm|hm
   ·exact hb' (R.inj b' Q _ _ r' he hQ hr' ⟨row,hm,base',lim',hblk⟩)
   ·exact hbb (R.inj b' b _ _ r' he hφ hr' ⟨row,hm,base',lim',hblk⟩)
 have hrows:=R1.rows _ _ hQ1;rw[hHQ1]at hrows;obtain⟨css0,g1,g2,g3,g4⟩:=hrows;simp at g1;subst g1;have hent:zKx N ((φ.put b .dead).put Q (.rows (rs++rs2))) St w (rs++rs2) (some (.rows (css++css2))):=by
  refine⟨_,rfl,by simp[g2,q2],fun k row cs1 hr hc=>?_,fun k k' row row' r1 base1 lim1 base2 lim2 hkk hr hr' hb1 hb2=>?_⟩
  ·by_cases hk:k<rs.length
   ·rw[Qb hk]at hr
    rw[Qb (by omega)]at hc
    have ho:=g3 k row cs1 hr hc;exact ho.step m fun r1 base1 lim1 hb1=>⟨zJp.same rfl,(ho.2.2 r1 base1 lim1 hb1).2.2.2⟩
   ·rw[Qj (by omega)]at hr
    rw[Qj (by omega),g2]at hc
    have ho:=q3 _ row cs1 hr hc;exact ho.step (F1.toMono.trans m) fun r1 base1 lim1 hb1=>⟨zJp.same rfl,(ho.2.2 r1 base1 lim1 hb1).2.2.2⟩
  ·have key:∀{i:Nat} {ro:Row},(rs++rs2)[i]?=some ro→(i<rs.length∧rs[i]?=some ro)∨(rs.length≤i∧rs2[i-rs.length]?=some ro):=by
    intro i ro hi;by_cases hk:i<rs.length
    ·rw[Qb hk]at hi;exact .inl ⟨hk,hi⟩
    ·rw[Qj (by omega)]at hi;exact .inr ⟨by omega,hi⟩
   rcases key hr with⟨a1,a2⟩|⟨a1,a2⟩<;>rcases key hr' with⟨c1,c2⟩|⟨c1,c2⟩
   ·exact g4 k k' row row' r1 base1 lim1 base2 lim2 hkk a2 c2 hb1 hb2
   ·exact(hcross ⟨row,Ql a2,base1,lim1,hb1⟩ ⟨row',Ql c2,base2,lim2,hb2⟩).elim
   ·exact(hcross ⟨row',Ql c2,base2,lim2,hb2⟩ ⟨row,Ql a2,base1,lim1,hb1⟩).elim
   ·exact q4 _ _ row row' r1 base1 lim1 base2 lim2 (by omega) a2 c2 hb1 hb2
 have RR:=R1.change Q (.rows (rs++rs2)) (.rows (css++css2)) St ((H.set b .dead).set Q (.rows (css++css2))) w m (Qe _) (by rw[Qk hQl]) (by simp)
  (fun b' e hne' hb'=>by rw[Qd (Jw hne')]) (fun _ _ _ _ _ _=>rfl) R1.stLt (fun _ _ hs=>.inl hs) (fun r' he b' e hne' hb'=>hno b' e hne' hb' r' he) (show vZ5 N _ St w (HObj.rows (css++css2)) (Ent.rows (rs++rs2))from hent)
 refine⟨RR, ?_, ?_⟩
 ·refine{toMono:=F1.toMono.trans m,size:=Qe _,stNew:=fun _ _ hs=> .inl hs,blkNew:= ?_,keepBlk:=fun _ _ _=>rfl,idNew:= ?_,os:=rfl,output:=rfl,tape:=rfl}
  ·intro b' e r' hb' he
   by_cases hbk:b'=Q
   ·subst hbk;rw[zQg]at hb';simp at hb';subst hb'
    obtain⟨row,hm,base',lim',hblk⟩:=he;rcases Qy.1 hm with hm|hm
    ·exact .inl ⟨b',_,hQ,row,hm,base',lim',hblk⟩
    ·exact .inl ⟨b,_,hφ,row,hm,base',lim',hblk⟩
   ·rw[zQc _ _ _ _ hbk]at hb';exact F1.blkNew b' e r' hb' he
  ·intro b' hb' hn
   rw[zQc _ _ _ _ (by rintro rfl;rw[hQ]at hn;simp at hn)];exact F1.idNew b' hb' hn
 ·refine⟨by simp,fun b' hb' hn=> ?_⟩
  rw[Qd (by rintro rfl;rw[hQ]at hn;simp at hn),Qd (by rintro rfl;rw[hφ]at hn;simp at hn)]
theorem vKc{b Q esz k off len gen:Nat}{rs rs2:List Row}{u:Value}(hφ:φ b=some (.rows rs2))(hu:VR φ St w (.gref esz b k off len gen) u):
  VR ((φ.put b .dead).put Q (.rows (rs++rs2))) St w (.gref esz Q (rs.length+k) off len gen) u:=by
 cases hu with
 |gref _ _ _ _ _ _ rs0 a cap h hcap hrow=>
  rw[hφ]at h;simp only[Qa,Ent.rows.injEq]at h;subst h;refine .gref _ _ _ _ _ _ _ _ _ (zQg _ _ _) hcap (hrow.imp id fun⟨h1,h2⟩=>⟨by rw[Q5];omega,fun row hr=>?_⟩)
  rw[Qj (Nat.le_add_right _ _),Ki]at hr;exact h2 row hr
 |grefDead _ _ _ _ _ _ _ _ h=>rw[hφ]at h;simp at h
end
def yQp(vs:List VV)(h:zQa)(vs':List VV)(h':zQa):Prop:=∀N φ St w us,Rel N φ St (hc h) w→VRL φ St w (vs.map VV.cv) us→∃φ',Left N φ St (hc h) w (hc h') φ' St w∧VRL φ' St w (vs'.map VV.cv) us
theorem yK4{β:Type}{r:β}{Qs:C→Option Nat}:∀(o:OC) (d:El o.code) {h:zQa} {K:List VV→zQa→Nat→Option β},o.xW5 Qs d h K=some r→∃vs h',K vs h' o.owns.length=some r∧h'.length=h.length∧
  (∀b,b<h.length→(∀c∈o.owns,Qs c≠some b)→h'[b]?=h[b]?)∧
  ∀(A B:zQa),yQp (o.zQr d (h.length+A.length)).1 (h++(A++(o.zQr d (h.length+A.length)).2++B)) vs (h'++(A++List.replicate (o.zQr d 0).2.length .dead++B))
 | .plain c,d,h,K,he=>⟨_,h,he,rfl,fun _ _ _=>rfl,fun A B N φ St w us R hu=>⟨φ,by simpa[OC.zQr]using Left.refl R,hu⟩⟩
 | .own c,d,h,K,he=>by
  simp only[OC.xW5]at he;split at he<;>(try (simp at he;done))
  rename_i Q hQs;split at he<;>(try (simp at he;done))
  rename_i c' dss hQ;split at he<;>(try (simp at he;done))
  rename_i hcc;subst hcc;have hQl:Q<h.length:=(List.getElem?_eq_some_iff.1 hQ).1;by_cases hz:d.length=0
  ·have e0:∀n,(OC.own c').zQr d n=([.sl c' d none false],[]):=fun n=>by simp[OC.zQr,hz]
   refine⟨_,_,he,by simp,fun b hb hn=>?_,fun A B N φ St w us R hu=>?_⟩
   ·rw[Qd (fun e=>hn c' (by simp[OC.owns]) (by rw[←e];exact hQs))]
   ·rw[e0]at R hu
    simp only[e0];have hQ2:(hc (h++(A++[]++B)))[Q]?=some (.rows (dss.map (vecC c'))):=by
     rw[zQ6,Qb hQl,hQ];rfl
    obtain⟨rs,hφQ⟩:=R.rdom _ _ hQ2;have L:=R.addEmpty hφQ hQ2;have hd:d=[]:=Qr.1 hz;have hh:(hc (h++(A++[]++B))).set Q (.rows (dss.map (vecC c')++[[]]))=hc (h.set Q (.rows c' (Z.app dss [d]))++(A++List.replicate 0 VObj.dead++B)):=by
     have e1:(HObj.rows (dss.map (vecC c')++[[]]))=(VObj.rows c' (Z.app dss [d])).ho:=by simp[VObj.ho,hd,vecC]
     rw[e1,←zQy];congr 1;rw[List.set_append_left _ _ hQl];simp
    rw[hh]at L;refine⟨_,by simpa using L, ?_⟩
    have hcv:[VV.mix Q c' (Z.xrow (Z.len dss) d)].map VV.cv=[VV.sl c' d none false].map VV.cv:=by
     simp only[Z.xrow,hz,if_true];rfl
    rw[hcv];exact hu.mono L.frm.toMono
  ·have e0:∀n,(OC.own c').zQr d n=([.sref n 0 d.length d.length false c'],[.vec c' d]):=fun n=>by simp[OC.zQr,hz]
   refine⟨_,_,he,by simp,fun b hb hn=>?_,fun A B N φ St w us R hu=>?_⟩
   ·rw[Qd (fun e=>hn c' (by simp[OC.owns]) (by rw[←e];exact hQs))]
   ·rw[e0]at R hu
    simp only[e0];simp only[Qg,Q8]at hu;cases hu with|cons _ u _ us a1 a2=>
    cases a2;have hb:(hc (h++(A++[VObj.vec c' d]++B)))[h.length+A.length]?=some (.cells (vecC c' d)):=by
     rw[zQ6,Qj (by omega),Ki,Jn,Qj (Qe _),Nat.sub_self]
     rfl
    have hQ2:(hc (h++(A++[VObj.vec c' d]++B)))[Q]?=some (.rows (dss.map (vecC c'))):=by
     rw[zQ6,Qb hQl,hQ];rfl
    obtain⟨rs,hφQ⟩:=R.rdom _ _ hQ2;have hlen:rs.length=dss.length:=by
     obtain⟨css0,g1,g2,_⟩:=R.rows _ _ hφQ;rw[hQ2]at g1;simp at g1;subst g1;simpa using g2.symm
    simp only[VV.cv,Nat.zero_mul]at a1;obtain⟨r0,base,size,rcap,hφ,_⟩:=zQn R a1 (by unfold live;rw[hb])
    have L:=R.move hφ hb hφQ hQ2;refine⟨(φ.put (h.length+A.length) .dead).put Q (.rows (rs++[(⟨some (r0,base,size-base),(vecC c' d).length⟩:Row)])), ?_, .cons _ _ _ _ ?_ .nil⟩
    ·have hh:((hc (h++(A++[VObj.vec c' d]++B))).set (h.length+A.length) .dead).set Q (.rows (dss.map (vecC c')++[vecC c' d]))=hc (h.set Q (.rows c' (Z.app dss [d]))++(A++List.replicate 1 VObj.dead++B)):=by
      have e1:(HObj.rows (dss.map (vecC c')++[vecC c' d]))=(VObj.rows c' (Z.app dss [d])).ho:=by simp[VObj.ho]
      have e2:HObj.dead=(VObj.dead).ho:=rfl;rw[e1,e2,←zQy,←zQy];congr 1;rw[List.set_append_right _ _ (by omega),Ki,Jn,List.set_append_right _ _ (Qe _),Nat.sub_self,List.set_append_left _ _ hQl]
      simp
     rw[hh]at L;simpa using L
    ·have:=wY8 (Q:=Q) (rs:=rs) hφ (by rw[zQp]) a1
     rw[hlen]at this;have hx:Z.xrow (Z.len dss) d=.ref dss.length 0 d.length d.length:=by simp only[Z.xrow,Qi hz,Z.len]
     simp only[hx];simpa[VV.cv,valC,mixC]using this
 | .pair a b,d,h,K,he=>by
  simp only[OC.xW5]at he;obtain⟨va,h1,k1,k2,k2',k3⟩:=yK4 a d.1 he;obtain⟨vb,h2,g1,g2,g2',g3⟩:=yK4 b d.2 k1;have hla:∀n,(a.zQr d.1 n).2=(a.zQr d.1 0).2:=fun n=>OC.zKa a d.1 n 0
  have hlb:∀n,(b.zQr d.2 n).2=(b.zQr d.2 0).2:=fun n=>OC.zKa b d.2 n 0
  refine⟨_,h2,by simpa[OC.owns]using g1,by omega,fun x hx hn=>?_,fun A B N φ St w us R hu=>?_⟩
  ·rw[g2' x (by omega) (fun c hc=>hn c (by simp[OC.owns,hc])),k2' x hx (fun c hc=>hn c (by simp[OC.owns,hc]))]
  ·simp only[OC.zQr]at R hu⊢
   rw[Qw]at hu;have u1:=hu.take ((a.zQr d.1 (h.length+A.length)).1.map VV.cv).length;have u2:=hu.drop ((a.zQr d.1 (h.length+A.length)).1.map VV.cv).length;simp only[Kz,Ky]at u1 u2
   rw[hla,hlb]at R;have R':Rel N φ St (hc (h++(A++(a.zQr d.1 (h.length+A.length)).2++((b.zQr d.2 0).2++B)))) w:=by rw[hla];simpa using R
   obtain⟨φ1,L1,v1⟩:=k3 A ((b.zQr d.2 0).2++B) N φ St w _ R' u1;have u2':=u2.mono L1.frm.toMono;have hn:h.length+A.length+(a.zQr d.1 (h.length+A.length)).2.length=h1.length+(A++List.replicate (a.zQr d.1 0).2.length VObj.dead).length:=by rw[hla];simp;omega
   rw[hn]at u2';have R1:Rel N φ1 St (hc (h1++((A++List.replicate (a.zQr d.1 0).2.length VObj.dead)++(b.zQr d.2 (h1.length+(A++List.replicate (a.zQr d.1 0).2.length VObj.dead).length)).2++B))) w:=by
    rw[hlb];simpa using L1.rel
   obtain⟨φ2,L2,v2⟩:=g3 (A++List.replicate (a.zQr d.1 0).2.length VObj.dead) B N φ1 St w _ R1 u2';refine⟨φ2, ?_, ?_⟩
   ·have LL1:Left N φ St (hc (h++(A++((a.zQr d.1 0).2++(b.zQr d.2 0).2)++B))) w (hc (h1++((A++List.replicate (a.zQr d.1 0).2.length VObj.dead)++(b.zQr d.2 (h1.length+(A++List.replicate (a.zQr d.1 0).2.length VObj.dead).length)).2++B))) φ1 St w:=by
     rw[hla]at L1;rw[hlb (h1.length+(A++List.replicate (a.zQr d.1 0).2.length VObj.dead).length)];simpa using L1
    have:=LL1.trans L2;have e3:=hlb ((a.zQr d.1 0).2.length);have e4:=hlb (h.length+A.length+(a.zQr d.1 0).2.length);rw[hla (h.length+A.length),e4];simpa[Wu,e3]using this
   ·rw[Qw,←Ja ((a.zQr d.1 (h.length+A.length)).1.map VV.cv).length us]
    exact(v1.mono L2.frm.toMono).append v2
theorem vQa{β:Type}{r:β}{Qs:C→Option Nat}(o:OC)(d:El o.code){h:zQa}{K:VV→zQa→Nat→Option β}(he:o.valS Qs d h K=some r):∃v h',K v h' o.owns.length=some r∧h'.length=h.length∧
  (∀b,b<h.length→(∀c∈o.owns,Qs c≠some b)→h'[b]?=h[b]?)∧
  ∀(A B:zQa),yQp [(o.val0 d (h.length+A.length)).1] (h++(A++(o.val0 d (h.length+A.length)).2++B)) [v] (h'++(A++List.replicate (o.val0 d 0).2.length .dead++B)):=by
 match o,d with
 | .plain c,d=>exact⟨_,h,he,rfl,fun _ _ _=>rfl,fun A B N φ St w us R hu=>⟨φ,by simpa[OC.val0]using Left.refl R,hu⟩⟩
 | .own c,d=>
  simp only[OC.valS]at he;obtain⟨vs,h',k1,k2,k3,k4⟩:=yK4 (.own c) d he;have e1:∀n,(OC.own c).val0 d n=(((OC.own c).zQr d n).1.headD .undef,((OC.own c).zQr d n).2)∧((OC.own c).zQr d n).1=[((OC.own c).val0 d n).1]:=fun n=>by
   simp only[OC.val0,OC.zQr];split<;>exact⟨rfl,rfl⟩
  have e2:∀n,((OC.own c).val0 d n).2=((OC.own c).zQr d n).2:=fun n=>by rw[(e1 n).1]
  split at k1<;>(try (simp at k1;done))
  rename_i v;refine⟨v,h',k1,k2,k3,fun A B=>?_⟩
  have:=k4 A B;rw[(e1 _).2]at this;rw[e2,e2];exact this
 | .pair a b,d=>
  simp only[OC.valS]at he;obtain⟨vs,h',k1,k2,k3,k4⟩:=yK4 (.pair a b) d he;refine⟨.agg vs,h',k1,k2,k3,fun A B N φ St w us R hu=>?_⟩
  simp only[OC.val0,Qg,Q8,VV.cv,VV.zQx]at R hu⊢;cases hu with|cons _ u _ us a1 a2=>
  cases a2;cases a1 with|agg _ us0 hus=>
  obtain⟨φ',L,v'⟩:=k4 A B N φ St w us0 R hus;exact⟨φ',L, .cons _ _ _ _ (.agg _ _ v') .nil⟩
theorem wJu(o:OC)(d:El o.code)(n:Nat):(o.val0 d n).2=(o.val0 d 0).2:=OC.yWk o d n 0
theorem wXl(os:List OC)(d:Els (zZl os))(n:Nat):(zQ7 os d n).2=(zQ7 os d 0).2:=yX0 os d n 0
theorem wKr{β:Type}{r:β}{Qs:C→Option Nat}:∀(os:List OC) (d:Els (zZl os)) {h:zQa} {K:List VV→zQa→Nat→Option β},wXk Qs os d h K=some r→∃vs h',K vs h' (os.flatMap OC.owns).length=some r∧h'.length=h.length∧
  (∀b,b<h.length→(∀c∈os.flatMap OC.owns,Qs c≠some b)→h'[b]?=h[b]?)∧vs.length=os.length∧
  ∀(A B:zQa),yQp (zQ7 os d (h.length+A.length)).1 (h++(A++(zQ7 os d (h.length+A.length)).2++B)) vs (h'++(A++List.replicate (zQ7 os d 0).2.length .dead++B))
 |[],d,h,K,he=>⟨[],h,he,rfl,fun _ _ _=>rfl,rfl,fun A B N φ St w us R hu=>⟨φ,by simpa[zQ7]using Left.refl R,hu⟩⟩
 |[o],d,h,K,he=>by
  simp only[wXk]at he;obtain⟨v,h',k1,k2,k3,k4⟩:=vQa o d he;exact⟨[v],h',by simpa using k1,k2,fun b hb hn=>k3 b hb fun c hc=>hn c (by simpa using hc),rfl,k4⟩
 | o::p::os,d,h,K,he=>by
  simp only[wXk]at he;obtain⟨v,h1,k1,k2,k2',k3⟩:=vQa o d.1 he;obtain⟨vs,h2,g1,g2,g2',gl,g3⟩:=wKr (p::os) d.2 k1;have hla:∀n,(o.val0 d.1 n).2=(o.val0 d.1 0).2:=wJu o d.1
  have hlb:∀n,(zQ7 (p::os) d.2 n).2=(zQ7 (p::os) d.2 0).2:=wXl (p::os) d.2;have e3:=hlb ((o.val0 d.1 0).2.length);refine⟨v::vs,h2, ?_,by omega,fun x hx hn=>?_,by simp only[Jc]at gl⊢;omega,fun A B N φ St w us R hu=>?_⟩
  ·rw[Qo,Q5];exact g1
  ·rw[g2' x (by omega) (fun c hc=>hn c (by rw[Qo];exact Q7 _ hc)),k2' x hx (fun c hc=>hn c (by rw[Qo];exact Qv _ hc))]
  ·simp only[zQ7]at R hu⊢
   simp only[Qg]at hu;cases hu with|cons _ u _ us u1 u2=>
   have e4:=hlb (h.length+A.length+(o.val0 d.1 (h.length+A.length)).2.length);rw[e4]at R;have R':Rel N φ St (hc (h++(A++(o.val0 d.1 (h.length+A.length)).2++((zQ7 (p::os) d.2 0).2++B)))) w:=by simpa using R
   obtain⟨φ1,L1,v1⟩:=k3 A ((zQ7 (p::os) d.2 0).2++B) N φ St w [u] R' (.cons _ _ _ _ u1 .nil);have u2':=u2.mono L1.frm.toMono;have hn:h.length+A.length+(o.val0 d.1 (h.length+A.length)).2.length=h1.length+(A++List.replicate (o.val0 d.1 0).2.length VObj.dead).length:=by rw[hla];simp;omega
   rw[hn]at u2';have e5:=hlb (h1.length+(A++List.replicate (o.val0 d.1 0).2.length VObj.dead).length);have R1:Rel N φ1 St (hc (h1++((A++List.replicate (o.val0 d.1 0).2.length VObj.dead)++(zQ7 (p::os) d.2 (h1.length+(A++List.replicate (o.val0 d.1 0).2.length VObj.dead).length)).2++B))) w:=by
    rw[e5];simpa using L1.rel
   obtain⟨φ2,L2,v2⟩:=g3 (A++List.replicate (o.val0 d.1 0).2.length VObj.dead) B N φ1 St w us R1 u2';refine⟨φ2, ?_, ?_⟩
   ·have LL1:Left N φ St (hc (h++(A++((o.val0 d.1 (h.length+A.length)).2++(zQ7 (p::os) d.2 0).2)++B))) w (hc (h1++((A++List.replicate (o.val0 d.1 0).2.length VObj.dead)++(zQ7 (p::os) d.2 (h1.length+(A++List.replicate (o.val0 d.1 0).2.length VObj.dead).length)).2++B))) φ1 St w:=by
     rw[e5];simpa using L1
    have:=LL1.trans L2;rw[e4];simp only[Jo,Q5];rw[e3];simpa[Wu]using this
   ·cases v1 with|cons _ _ _ _ v1 v1'=>
    exact .cons _ _ _ _ (v1.mono L2.frm.toMono) v2
theorem xW9:∀(o:OC) (d:El o.code) (n:Nat),(o.zQr d n).2.length≤o.owns.length
 | .plain c,d,n=>by simp[OC.zQr]
 | .own c,d,n=>by simp only[OC.zQr];split<;>simp[OC.owns]
 | .pair a b,d,n=>by
  have h1:=xW9 a d.1 n;have h2:=xW9 b d.2 (n+(a.zQr d.1 n).2.length);simp only[OC.zQr,OC.owns,Q5];omega
theorem vQc(o:OC)(d:El o.code)(n:Nat):(o.val0 d n).2.length≤o.owns.length:=by
 cases o with
 |plain c=>simp[OC.val0]
 |own c=>simp only[OC.val0];split<;>simp[OC.owns]
 |pair a b=>exact xW9 (.pair a b) d n
theorem wKt:∀(os:List OC) (d:Els (zZl os)) (n:Nat),(zQ7 os d n).2.length≤(os.flatMap OC.owns).length
 |[],d,n=>by simp[zQ7]
 |[o],d,n=>by simpa[zQ7]using vQc o d n
 |o::p::os,d,n=>by
  have h1:=vQc o d.1 n;have h2:=wKt (p::os) d.2 (n+(o.val0 d.1 n).2.length);simp only[zQ7,Q5];rw[Qo,Q5];omega
section
variable {P:Program} {c:Cfg}
theorem zQo.vJp{f:Who}{args:List CV}{H H1 H2:Heap}{v v2:CV}(hF:zQo P c f args H .ret [v] H1)(hf:∃g,f= .fn g)
  (hG:∀N φ St w u,Rel N φ St H1 w→VR φ St w v u→∃φ',Left N φ St H1 w H2 φ' St w∧VR φ' St w v2 u):zQo P c f args H .ret [v2] H2:=by
 obtain⟨g,rfl⟩:=hf;obtain⟨hent,hC⟩:=hF;refine⟨hent,fun N φ St w us R hg hu=>(hC N φ St w us R hg hu).mono ?_⟩
 intro e w' hp;cases e with
 |outgrown=>exact hp.elim
 |panicked ch=>obtain⟨_,_,_,_,_,h3,_⟩:=hp;simp at h3
 |returned u=>
  obtain⟨φ',St',l,c1,h2,h3,hv⟩:=hp;simp at h3;subst h3;obtain⟨φ2,L,v'⟩:=hG _ _ _ _ _ l.rel hv;exact⟨φ2,St',l.trans L,v2,rfl,rfl,v'⟩
theorem yQp.one{vs0 vs:List VV}{h h':zQa}(hl:vs.length=vs0.length)(g:yQp vs0 h vs h'):∀N φ St w u,Rel N φ St (hc h) w→VR φ St w (oneV vs0).cv u→∃φ',Left N φ St (hc h) w (hc h') φ' St w∧VR φ' St w (oneV vs).cv u:=by
 intro N φ St w u R hu;rw[zXa]at hu⊢
 match vs0,vs,hl with
 |[],[],_=>
  cases hu with|tuple _ us hus=>
  obtain⟨φ',L,v'⟩:=g N φ St w us R hus;exact⟨φ',L, .tuple _ _ v'⟩
 |[a],[b],_=>
  obtain⟨φ',L,v'⟩:=g N φ St w [u] R (.cons _ _ _ _ hu .nil);cases v' with|cons _ _ _ _ v1 _=>exact⟨φ',L,v1⟩
 |a::a2::l,b::b2::l2,_=>
  cases hu with|tuple _ us hus=>
  obtain⟨φ',L,v'⟩:=g N φ St w us R hus;exact⟨φ',L, .tuple _ _ v'⟩
theorem vJ5{f:FuncId}{o:OFn}(ho:OwnD P c f o)(hg:zZa c){β:Type}{args:List VV}{h:zQa}{m:List Nat}{K:KVal β}{r:β}(he:uXp o args h m K=some r):
  ∃v h' m',K v h' m'=some r∧zQo P c (.fn f) (args.map VV.cv) (hc h) .ret [v.cv] (hc h')∧zQe m' h h'∧(∀x∈m,x∈m'):=by
 unfold uXp at he;split at he
 ·simp at he
 rename_i hpl0;have hpl:(o.ores.all fun x=>x.code.pl)=true∧o.args.all C.pl=true:=by simpa using hpl0
 obtain⟨d,h1,h2,_⟩:=yZz he;have shv:∀rr,(oneV (zQ7 o.ores rr 0).1).cv.shift (hc h).length=(oneV (zQ7 o.ores rr h.length).1).cv:=fun rr=>by
  rw[zW8,zXa,zXa,yZs,yZr _ _ _ _ hpl.1,Ks]
 have sho:∀rr,(hc (zQ7 o.ores rr 0).2).map (HObj.shift (hc h).length)=hc (zQ7 o.ores rr h.length).2:=fun rr=>by
  rw[(zZp o.ores rr 0 hpl.1).shift,yX0 o.ores rr 0 h.length]
 have last:∀(rr:Els (zZl o.ores)) (g:zQa) (m2:List Nat),g.length=h.length→zQe m2 h g→(∀x∈m,x∈m2)→zQo P c (.fn f) (args.map VV.cv) (hc h) .ret [(oneV (zQ7 o.ores rr h.length).1).cv] (hc (g++(zQ7 o.ores rr h.length).2))→
   (wXk (yKb h) o.ores rr g fun vs h' k=>K (oneV vs) (h'++List.replicate k .dead) ((o.ores.flatMap OC.owns).filterMap (yKb h)++m2))=some r→
   ∃v h' m',K v h' m'=some r∧zQo P c (.fn f) (args.map VV.cv) (hc h) .ret [v.cv] (hc h')∧zQe m' h h'∧(∀x∈m,x∈m'):=by
  intro rr g m2 hgl hst hm hF hs;obtain⟨vs,h',k1,k2,k3,k4,k5⟩:=wKr o.ores rr hs;have k6:=k5 [] [];simp only[K2,Jq,Wa,Ks,hgl]at k6;have hle:=wKt o.ores rr 0;have hgr:List.replicate (o.ores.flatMap OC.owns).length VObj.dead=List.replicate (zQ7 o.ores rr 0).2.length VObj.dead++List.replicate ((o.ores.flatMap OC.owns).length-(zQ7 o.ores rr 0).2.length) VObj.dead:=by
   rw[Wu];congr 1;omega
  have hG2:yQp vs (h'++List.replicate (zQ7 o.ores rr 0).2.length VObj.dead) vs (h'++List.replicate (o.ores.flatMap OC.owns).length VObj.dead):=by
   intro N φ St w us R hu;refine⟨φ, ?_,hu⟩;rw[hgr,←Jn,zWb (h'++List.replicate (zQ7 o.ores rr 0).2.length VObj.dead) (List.replicate ((o.ores.flatMap OC.owns).length-(zQ7 o.ores rr 0).2.length) VObj.dead)]
   refine⟨R.longer _ fun x hx css=>?_,Frm.refl _ _ _ _,Keep.append _ _ _⟩
   simp only[hc,Wb]at hx;rw[(List.mem_replicate.1 hx).2];simp[VObj.ho]
  refine⟨_,_,_,k1,(hF.vJp ⟨f,rfl⟩ (k6.one (by rw[k4,xWf]))).vJp ⟨f,rfl⟩ (hG2.one rfl), ?_,fun x hx=>Q7 _ (hm x hx)⟩
  refine(zQe.trans (hst.mono fun x hx=>Q7 _ hx) ?_ fun _ h=>h).push _
  exact⟨by omega,fun b hb hn=>k3 b hb fun c hc e=>hn (Qv _ (List.mem_filterMap.2 ⟨c,hc,e⟩))⟩
 simp only[Z.bind]at h1;cases hd:o.fn d with
 |none=>simp[hd]at h1
 | some rr=>
  simp only[hd,Kc]at h1;split at h1
  ·rename_i hfree
   obtain⟨f1,f2⟩:=yJl o.ores rr 0 hfree;have hF:=(ho d rr hd).vZj hg h2 (zZp o.ores rr 0 hpl.1).simple (by rw[zXa];exact SF.oneOf f1) (by
    intro x hx;obtain⟨y,hy,rfl⟩:=Ji.1 hx;exact f2 y hy)
   rw[shv,sho,←zWb]at hF;exact last rr h m rfl (zQe.refl _ _) (fun _ h=>h) hF h1
  ·rename_i hnf
   split at h1
   ·simp at h1
   rename_i hmx;obtain⟨d',h1',h2'⟩:=zYv (by simpa using hmx) he
   simp only[Z.bind]at h1';cases hd':o.fn d' with
   |none=>simp[hd']at h1'
   |some rr'=>
    simp only[hd',Kc]at h1';rw[Qi hnf,Qi hmx]at h1';have hF:=(ho d' rr' hd').wYp hg h2' (zZp o.ores rr' 0 hpl.1).simple;rw[shv,sho,←zJz,←zWb]at hF;exact last rr' _ _ (by rw[←zW8,zJz,zKs,zW8]) ((zZg _ _).mono fun x hx=>Qv _ hx) (fun x hx=>Q7 _ hx) hF h1'
end
end Go.Eng
/- Rows of one's own in an answer that come to be rows of places. -/
namespace Go.Eng
set_option linter.unusedVariables false
section
variable {φ φ':Phi} {St:Stab} {w:World}
theorem wWw{vs:List VV}{us:List Value}{p:Nat×Option Nat}{v:VV}(hg:getP vs p=some v)(hu:VRL φ St w (vs.map VV.cv) us):∃u,VR φ St w v.cv u:=by
 obtain⟨i,q⟩:=p;unfold getP at hg;split at hg
 ·obtain⟨u,_,h2⟩:=hu.get i v.cv (by rw[Qt];simp only at hg;rw[hg];rfl)
  exact⟨u,h2⟩
 ·rename_i j hj
  split at hg<;>(try (simp at hg;done))
  rename_i ws hws;simp only at hws;obtain⟨u,_,h2⟩:=hu.get i (VV.agg ws).cv (by rw[Qt,hws];rfl)
  rw[VV.cv,VV.zQx]at h2;cases h2 with|agg _ us0 hus=>
  obtain⟨u,_,h2⟩:=hus.get j v.cv (by rw[Qt,hg];rfl)
  exact⟨u,h2⟩
theorem yZ6(m:Mono φ St w φ' St w){vs:List VV}{us:List Value}{p:Nat×Option Nat}{v v':VV}(hg:getP vs p=some v)(hu:VRL φ St w (vs.map VV.cv) us)(hv:∀u,VR φ St w v.cv u→VR φ' St w v'.cv u):VRL φ' St w ((setP vs p v').map VV.cv) us:=by
 obtain⟨i,q⟩:=p;unfold getP at hg;unfold setP;split at hg
 ·rename_i hq
  simp only at hq hg;subst hq;obtain⟨u,h1,h2⟩:=hu.get i v.cv (by rw[Qt,hg];rfl)
  have:=(hu.mono m).set i (hv u h2);rw[set_self h1]at this;simp only[Jb];exact this
 ·rename_i j hj
  simp only at hj;subst hj;split at hg<;>(try (simp at hg;done))
  rename_i ws hws;simp only at hws⊢;obtain⟨u,h1,h2⟩:=hu.get i (VV.agg ws).cv (by rw[Qt,hws];rfl)
  have key:VR φ' St w (VV.agg (ws.set j v')).cv u:=by
   rw[VV.cv,VV.zQx]at h2⊢;cases h2 with|agg _ us0 hus=>
   obtain⟨u,k1,k2⟩:=hus.get j v.cv (by rw[Qt,hg];rfl)
   have:=(hus.mono m).set j (hv u k2);rw[set_self k1]at this;rw[Jb];exact .agg _ _ this
  have:=(hu.mono m).set i key;rw[set_self h1]at this;simp only[Jb];exact this
end
theorem yKc(vs:List VV)(p:Nat×Option Nat)(v:VV):(setP vs p v).length=vs.length:=by
 unfold setP;split
 ·simp
 ·split<;>simp
theorem yQp.refl(vs:List VV)(h:zQa):yQp vs h vs h:=fun N φ St w us R hu=>⟨φ,Left.refl R,hu⟩
theorem yQp.trans{vs vs1 vs2:List VV}{h h1 h2:zQa}(g:yQp vs h vs1 h1)(k:yQp vs1 h1 vs2 h2):yQp vs h vs2 h2:=by
 intro N φ St w us R hu;obtain⟨φ1,L1,u1⟩:=g N φ St w us R hu;obtain⟨φ2,L2,u2⟩:=k N φ1 St w us L1.rel u1;exact⟨φ2,L1.trans L2,u2⟩
theorem vXc{β:Type}{r:β}{p:Nat×Option Nat}{vs:List VV}{h:zQa}{m:List Nat}{K:List VV→zQa→List Nat→Option β}(he:layP p vs h m K=some r):
  ∃vs' h' m',K vs' h' m'=some r∧vs'.length=vs.length∧yQp vs h vs' h'∧zQe m' h h'∧∀y∈m,y∈m':=by
 have same:K vs h m=some r→∃vs' h' m',K vs' h' m'=some r∧vs'.length=vs.length∧yQp vs h vs' h'∧zQe m' h h'∧∀y∈m,y∈m':=
  fun hk=>⟨vs,h,m,hk,rfl,yQp.refl _ _,zQe.refl _ _,fun _ h=>h⟩
 unfold layP at he;split at he
 ·rename_i b off len cap ex c hg
  split at he
  ·rename_i c' ds hb
   split at he<;>(try (simp at he;done))
   rename_i hcc;split at he<;>(try (simp at he;done))
   rename_i h0;replace h0:off=0:=h0;subst h0;have hcv:(VV.sref b 0 len cap ex c).cv=.sref c'.cells b 0 len cap ex:=by simp[VV.cv,hcc]
   split at he
   rotate_left
   ·split at he<;>(try (simp at he;done))
    split at he<;>(try (simp at he;done))
    rename_i hl;replace hl:len≤ds.length:=hl;refine⟨_,_,_,he,yKc _ _ _,fun N φ St w us R hu=>?_,(zQe.set (m:=b::m) (b:=b) (by simp) .dead).push _,fun y hy=>by simp[hy]⟩
    obtain⟨u,hu2⟩:=wWw hg hu;rw[hcv]at hu2;obtain⟨r,base,size,rcap,hφ,_⟩:=zQn R hu2 (by unfold live;rw[zWr hb])
    obtain⟨R1,F1⟩:=R.yQx (off:=0) (n:=len*c'.cells) hφ (zWr hb) (by rw[zQp,Jo];exact Qn _ hl)
    have l1:Left N φ St (hc h) w _ _ St w:=⟨R1,F1,(Keep.set (by rw[hφ];simp) _).append' _⟩
    refine⟨_, ?_,yZ6 F1.toMono hg hu fun u hu=>?_⟩
    ·have e:(hc h).set b .dead++[HObj.rows [((vecC c' ds).drop 0).take (len*c'.cells)]]=hc (h.set b .dead++[.rows c' [Z.seg ds 0 len]]):=by
      have:((vecC c' ds).drop 0).take (len*c'.cells)=vecC c' (Z.seg ds 0 len):=by
       rw[Jt,zWp];rfl
      rw[this,zWb,zQy];rfl
     rw[←e];exact l1
    ·rw[hcv]at hu
     have:=xKa (φ':=(φ.put b .dead).put (hc h).length (.rows [⟨some (r,base+0,size-(base+0)),len*c'.cells⟩])) (n:=(hc h).length) hφ (zQg _ _ _) hu;simpa[VV.cv,valC,mixC,Z.xnew,zW8]using this
   rename_i hl;replace hl:len=ds.length:=hl;split at he
   ·rename_i Q hQ
    split at he<;>(try (simp at he;done))
    rename_i c2 dss hHQ;split at he<;>(try (simp at he;done))
    rename_i h2;subst h2;refine⟨_,_,_,he,yKc _ _ _,fun N φ St w us R hu=>?_,(zQe.set (m:=b::Q::m) (b:=b) (by simp) .dead).trans (zQe.set (m:=b::Q::m) (b:=Q) (by simp) _) (fun _ h=>h),fun y hy=>by simp[hy]⟩
    obtain⟨u,hu2⟩:=wWw hg hu;rw[hcv]at hu2;obtain⟨r,base,size,rcap,hφ,_⟩:=zQn R hu2 (by unfold live;rw[zWr hb])
    have hHQ':(hc h)[Q]?=some (.rows (dss.map (vecC c2))):=by rw[zQ6,hHQ];rfl
    obtain⟨rs,hφQ⟩:=R.rdom Q _ hHQ';have hrl:rs.length=dss.length:=by
     have:=R.rows _ _ hφQ;rw[hHQ']at this;obtain⟨css,g1,g2,_⟩:=this;simp at g1;subst g1;simpa using g2.symm
    have L:=R.move hφ (zWr hb) hφQ hHQ';refine⟨_, ?_,yZ6 L.frm.toMono hg hu fun u hu=>?_⟩
    ·rw[zQy,zQy]
     simpa[VObj.ho,Z.app]using L
    ·rw[hcv]at hu
     have:=wY8 (Q:=Q) (rs:=rs) (cs:=vecC c2 ds) hφ (by rw[zQp,hl]) hu
     simpa[VV.cv,valC,mixC,Z.xnew,hrl,Z.len]using this
   ·refine⟨_,_,_,he,yKc _ _ _,fun N φ St w us R hu=> ?_,(zQe.set (m:=b::m) (b:=b) (by simp) .dead).push _,fun y hy=>by simp[hy]⟩
    obtain⟨u,hu2⟩:=wWw hg hu;rw[hcv]at hu2;obtain⟨r,base,size,rcap,hφ,_⟩:=zQn R hu2 (by unfold live;rw[zWr hb])
    obtain⟨R1,F1⟩:=R.yQx (off:=0) (n:=len*c'.cells) hφ (zWr hb) (by rw[zQp,hl];omega)
    have l1:Left N φ St (hc h) w _ _ St w:=⟨R1,F1,(Keep.set (by rw[hφ];simp) _).append' _⟩
    refine⟨_, ?_,yZ6 F1.toMono hg hu fun u hu=>?_⟩
    ·have e:(hc h).set b .dead++[HObj.rows [((vecC c' ds).drop 0).take (len*c'.cells)]]=hc (h.set b .dead++[.rows c' [ds]]):=by
      have:((vecC c' ds).drop 0).take (len*c'.cells)=vecC c' ds:=by
       rw[Jt,Q9 (by rw[zQp,hl];omega)]
      rw[this,zWb,zQy];rfl
     rw[←e];exact l1
    ·rw[hcv]at hu
     have:=xKa (φ':=(φ.put b .dead).put (hc h).length (.rows [⟨some (r,base+0,size-(base+0)),len*c'.cells⟩])) (n:=(hc h).length) hφ (zQg _ _ _) hu;simpa[VV.cv,valC,mixC,Z.xnew,zW8]using this
  ·exact same he
 ·rename_i c ds hg
  split at he
  ·rename_i h0
   have hd:ds=[]:=Qr.1 h0;subst hd;refine⟨_,_,_,he,yKc _ _ _,fun N φ St w us R hu=>⟨φ,Left.refl R,yZ6 (Mono.refl _ _ _) hg hu fun u hv=>?_⟩,zQe.refl _ _,fun _ h=>h⟩
   simp only[VV.cv,Q8]at hv⊢;cases hv with|slice _ _ _ _ a cap vs hat hvs hsz hcap hfull htok=>exact .slice _ _ _ _ _ _ vs (.inl rfl) hvs (by simp) hcap (fun h=>by simp at h) trivial
  ·cases he
 ·rename_i b c d hg
  split at he
  ·rename_i c' dss hb
   split at he
   ·rename_i Q hQ
    split at he
    ·rename_i c2 dss2 hHQ
     split at he
     ·rename_i h2
      obtain⟨rfl,rfl,hne⟩:=h2;refine⟨_,_,_,he,yKc _ _ _,fun N φ St w us R hu=>?_,(zQe.set (m:=b::Q::m) (b:=b) (by simp) .dead).trans (zQe.set (m:=b::Q::m) (b:=Q) (by simp) _) (fun _ h=>h),fun y hy=>by simp[hy]⟩
      have hb':(hc h)[b]?=some (.rows (dss.map (vecC c'))):=by rw[zQ6,hb];rfl
      obtain⟨rs2,hφ⟩:=R.rdom b _ hb';have hHQ':(hc h)[Q]?=some (.rows (dss2.map (vecC c'))):=by rw[zQ6,hHQ];rfl
      obtain⟨rs,hφQ⟩:=R.rdom Q _ hHQ';have hrl:rs.length=dss2.length:=by
       have:=R.rows _ _ hφQ;rw[hHQ']at this;obtain⟨css,g1,g2,_⟩:=this;simp at g1;subst g1;simpa using g2.symm
      have L:=R.merge hne hφ hb' hφQ hHQ';refine⟨_, ?_,yZ6 L.frm.toMono hg hu fun u hu=>?_⟩
      ·rw[zQy,zQy]
       simpa[VObj.ho,Z.app]using L
      ·cases d with
       |data ds=>simpa[VV.cv,valC,mixC,Z.wZy]using hu.mono L.frm.toMono
       |nil=>simpa[VV.cv,valC,mixC,Z.wZy]using hu.mono L.frm.toMono
       |ref k off n gen=>
        have hu':VR φ St w (.gref c'.cells b k (off*c'.cells) n (gen*c'.cells)) u:=by simpa[VV.cv,valC,mixC]using hu
        have:=vKc (Q:=Q) (rs:=rs) hφ hu';simpa[VV.cv,valC,mixC,Z.wZy,hrl,Z.len]using this
     ·exact same he
    ·exact same he
   ·exact same he
  ·exact same he
 ·exact same he
theorem wXx{β:Type}{r:β}:∀(l:List (Nat×Option Nat)) {vs:List VV} {h:zQa} {m:List Nat} {K:List VV→zQa→List Nat→Option β},layL l vs h m K=some r→
  ∃vs' h' m',K vs' h' m'=some r∧vs'.length=vs.length∧yQp vs h vs' h'∧zQe m' h h'∧∀y∈m,y∈m'
 |[],vs,h,m,K,he=>⟨vs,h,m,he,rfl,yQp.refl _ _,zQe.refl _ _,fun _ h=>h⟩
 |p::l,vs,h,m,K,he=>by
  obtain⟨vs1,h1,m1,k0,k1,k2,k3,k4⟩:=vXc he;obtain⟨vs2,h2,m2,g0,g1,g2,g3,g4⟩:=wXx l k0;exact⟨vs2,h2,m2,g0,g1.trans k1,k2.trans g2,k3.trans g3 g4,fun y hy=>g4 y (k4 y hy)⟩
end Go.Eng
/- Calls: all kinds. -/
namespace Go.Eng
set_option linter.unusedVariables false
section
variable {P:Program} {c:Cfg}
def MvD(P:Program)(c:Cfg)(f:FuncId)(o:MFn):Prop:=∀(ds:List (El o.elt)) (d:Els o.args) (vs l:List (El o.elt)),(∀k,ds.length≤k→o.fn k ds d vs=some l)→(ds.length=0→o.fn0 d vs=some l)→
 vY6 P c f o.elt.cells ds.length (vecC o.elt ds) ((zQ5 o.args d).map VV.cv) vs.length (vecC o.elt vs) l.length (vecC o.elt l)
theorem wQx{α:Type}{xs:List α}{x:α}(h:xs.getLast?=some x):xs=xs.dropLast++[x]:=by
 obtain⟨ys,rfl⟩:=List.getLast?_eq_some_iff.1 h;simp
theorem vYa{f:FuncId}{o:MFn}(ho:MvD P c f o)(hg:zZa c){β:Type}{args:List VV}{h:zQa}{m:List Nat}{K:KVal β}{r:β}(he:uXs o args h m K=some r):
  ∃v h' m',K v h' m'=some r∧zQo P c (.fn f) (args.map VV.cv) (hc h) .ret [v.cv] (hc h')∧zQe m' h h'∧(∀x∈m,x∈m'):=by
 unfold uXs at he;split at he<;>(try (simp at he;done))
 rename_i b c0 d0 xs;split at he<;>(try (simp at he;done))
 rename_i b2 off2 n2 cap2 ex2 c2 hlast;split at he<;>(try (simp at he;done))
 rename_i c' dss c3 vs hb hb2;split at he<;>(try (simp at he;done))
 rename_i hcc;obtain⟨q1,q2,q3,q4,hq,hpos⟩:=hcc;subst q1;subst q2;subst q3;subst q4;simp only[Qc,J3]at hq;obtain⟨⟨⟨⟨p1,p2⟩,p3⟩,p4⟩,p5⟩:=hq;split at he<;>(try (simp at he;done))
 rename_i hgr;split at he<;>(try (simp at he;done))
 rename_i hone;split at he<;>(try (simp at he;done))
 rename_i hle;replace hle:off2+n2≤vs.length:=hle;replace hone:dss.length=1:=hone;obtain⟨k,n,hdd,g1,g2⟩:=wWr hgr;replace hdd:d0=.ref k 0 n n:=hdd;subst hdd
 replace g1:k<dss.length:=g1;replace g2:n=(dss.getD k []).length:=g2;have hk0:k=0:=by omega
 subst hk0;obtain⟨dat,rfl⟩:∃x,dss=[x]:=by
  match dss,hone with
  |[x],_=>exact⟨x,rfl⟩
 replace g2:n=dat.length:=g2;obtain⟨d,h1,h2⟩:=zYv p3 he;simp only[Z.bind]at h1;have hget:Z.xget [dat] (MixE.ref 0 0 n n)=dat:=by
  show(dat.drop 0).take n=_;rw[Jt,g2,Jj]
 cases hl:Z.yXm n (fun k=>o.fn k (Z.xget [dat] (MixE.ref 0 0 n n)) d (Z.seg vs off2 n2)) (o.fn0 d (Z.seg vs off2 n2))with
 |none=>simp[hl]at h1
 | some l=>
  simp only[hl,Kc]at h1;split at h1<;>(try (simp at h1;done))
  rename_i hlt;replace hlt:n<l.length:=hlt;obtain⟨hall,hz⟩:=Z.yJ6.1 hl;rw[hget]at hall;have hlen:(Z.seg vs off2 n2).length=n2:=by show((vs.drop off2).take n2).length=n2;rw[Jf,J6];omega
  have hM:=ho dat d (Z.seg vs off2 n2) l (fun k hk=>hall k (by omega)) (fun h0=>hz (by omega))
  rw[hlen]at hM;have hF:=uWr (b:=b) (b2:=b2) (off2:=off2*o.elt.cells) (cap2:=cap2) (ex2:=ex2) hM hg hpos (zJn hb) (by rw[zQp]) (zWr hb2) (by rw[zQp,←Qz];exact Qn _ hle)
   (by rw[zWh,zWp]) (zZx p1 _) (zZx p1 _) (zZx p1 _) h2 (by simpa using p4) (by simpa using p5) (by omega)
  refine⟨_,_,_,h1, ?_, ?_,fun x hx=>Qp _ (Qp _ (Q7 _ hx))⟩
  ·have e:hc (((yW9 (zQz xs.dropLast) h).set b2 .dead).set b (.rows o.elt [l]))=((zZv (zQz xs.dropLast) (hc h)).set b2 .dead).set b (.rows [vecC o.elt l]):=by
    rw[zQy,zQy,zJz];rfl
   rw[e];have hx:xs.map VV.cv=xs.dropLast.map VV.cv++[.sref o.elt.cells b2 (off2*o.elt.cells) n2 cap2 ex2]:=by
    conv=>lhs;rw[wQx hlast]
    rw[Qw];rfl
   rw[Qg,hx];subst g2;simpa[VV.cv,valC,mixC]using hF
  ·exact(((zZg _ _).mono fun x hx=>Qp _ (Qp _ (Qv _ hx))).trans (zQe.set (Qp _ (Jg ..)) _) (fun _ h=>h)).trans (zQe.set (Jg ..) _) (fun _ h=>h)
def MvQ(P:Program)(c:Cfg)(f:FuncId)(o:QFn):Prop:=∀(qs:List (List (El o.qc))) (ds:List (El o.elt)) (d:Els o.args) (vs:List (El o.elt)) (l:List (List (El o.qc))×List (El o.elt)),(∀k,ds.length≤k→o.fn k qs ds d vs=some l)→(ds.length=0→o.fn0 qs d vs=some l)→
 vZ4 P c f o.elt.cells ds.length (vecC o.elt ds) ((zQ5 o.args d).map VV.cv) vs.length (vecC o.elt vs) (qs.map (vecC o.qc)) l.2.length (vecC o.elt l.2) (l.1.map (vecC o.qc))
theorem vKs{β:Type}{h:zQa}{c:C}{b off n:Nat}{c2:C}{K:List (El c)→Option β}{r:β}(he:rowAt h c b off n c2 K=some r):
  ∃cs ds,K ds=some r∧(hc h)[b]?=some (.cells cs)∧c2.cells=c.cells∧off*c.cells+n*c.cells≤cs.length∧(cs.drop (off*c.cells)).take (n*c.cells)=vecC c ds∧ds.length=n:=by
 unfold rowAt at he;split at he<;>(try (simp at he;done))
 ·rename_i c3 vs hb
  split at he<;>(try (simp at he;done))
  rename_i hcc;obtain⟨q1,q2⟩:=hcc;subst q1;subst q2;split at he<;>(try (simp at he;done))
  rename_i hle;replace hle:off+n≤vs.length:=hle;refine⟨_,_,he,zWr hb,rfl, ?_, ?_, ?_⟩
  ·rw[zQp,←Qz];exact Qn _ hle
  ·rw[zWh,zWp]
  ·show((vs.drop off).take n).length=n
   rw[Jf,J6];omega
 ·rename_i vs hb
  split at he<;>(try (simp at he;done))
  rename_i hcc;split at he<;>(try (simp at he;done))
  rename_i hle;split at he<;>(try (simp at he;done))
  rename_i ds hds;have hl:((vs.drop (off*c.cells)).take (n*c.cells)).length=n*c.cells:=by rw[Jf,J6];omega
  refine⟨vs.map VV.cv,ds,he,by simp[hc,hb,VObj.ho],hcc,by simpa using hle, ?_,xJ4 hds⟩
  rw[←J9,←J1];exact xW1 hds hl
theorem vZh{f:FuncId}{o:QFn}(ho:MvQ P c f o)(hg:zZa c){β:Type}{args:List VV}{h:zQa}{m:List Nat}{K:KVal β}{r:β}(he:vZi o args h m K=some r):
  ∃v h' m',K v h' m'=some r∧zQo P c (.fn f) (args.map VV.cv) (hc h) .ret [v.cv] (hc h')∧zQe m' h h'∧(∀x∈m,x∈m'):=by
 unfold vZi at he;split at he<;>(try (simp at he;done))
 rename_i b c0 d0 xs;split at he<;>(try (simp at he;done))
 rename_i b2 off2 n2 cap2 ex2 c2 q hlast hat;split at he<;>(try (simp at he;done))
 rename_i c' dss cq qs hb hbq;split at he<;>(try (simp at he;done))
 rename_i hcc;obtain⟨q1,q2,q5,hq,hpos⟩:=hcc;subst q1;subst q2;subst q5;simp only[Qc,J3]at hq;obtain⟨⟨⟨⟨⟨⟨⟨p0,p1⟩,p2⟩,p3⟩,p4⟩,p5⟩,p6⟩,p7⟩:=hq;have hqb:q≠b:=by simpa using p7
 split at he<;>(try (simp at he;done))
 rename_i hgr;split at he<;>(try (simp at he;done))
 rename_i hone;obtain⟨cs20,vs,he,hb2,hc2,hin2,hseg,hlen⟩:=vKs he;replace hone:dss.length=1:=hone;obtain⟨k,n,hdd,g1,g2⟩:=wWr hgr;replace hdd:d0=.ref k 0 n n:=hdd
 subst hdd;replace g1:k<dss.length:=g1;replace g2:n=(dss.getD k []).length:=g2;have hk0:k=0:=by omega
 subst hk0;obtain⟨dat,rfl⟩:∃x,dss=[x]:=by
  match dss,hone with
  |[x],_=>exact⟨x,rfl⟩
 replace g2:n=dat.length:=g2;obtain⟨d,h1,h2⟩:=zYv p3 he;simp only[Z.bind]at h1;have hget:Z.xget [dat] (MixE.ref 0 0 n n)=dat:=by
  show(dat.drop 0).take n=_;rw[Jt,g2,Jj]
 cases hl:Z.yXm n (fun k=>o.fn k qs (renL (fun _=>q) o.elt (Z.xget [dat] (MixE.ref 0 0 n n))) d (renL (fun _=>q) o.elt vs)) (o.fn0 qs d (renL (fun _=>q) o.elt vs))with
 |none=>simp[hl]at h1
 | some l=>
  simp only[hl,Kc]at h1;split at h1<;>(try (simp at h1;done))
  rename_i hlt;replace hlt:n<l.2.length:=hlt;obtain⟨hall,hz⟩:=Z.yJ6.1 hl;rw[hget]at hall;have hlenR:=(wKk (fun _=>q) o.elt vs).trans hlen
  have hdatR:=wKk (fun _=>q) o.elt dat
  have hM:=ho qs (renL (fun _=>q) o.elt dat) d (renL (fun _=>q) o.elt vs) l (fun k hk=>hall k (by omega)) (fun h0=>hz (by omega))
  rw[hlenR]at hM;have hrow:=zJn hb;have eQ:∀ds:List (El (o.elt.ren fun _=>q)),(vecC o.elt (renL (fun _=>q) o.elt ds)).map (onQ q)=vecC (o.elt.ren fun _=>q) ds:=fun ds=>wZ6 (fun _=>rfl) p0 _ _ (wKl _ _ _)
  have hcl:(o.elt.ren fun _=>q).cells=o.elt.cells:=zQ9 _ _
  have hF:=vK5 (b:=b) (b2:=b2) (q:=q) (off2:=off2*o.elt.cells) (cap2:=cap2) (ex2:=ex2) (cs20:=cs20) hM hg hpos (by rw[eQ];exact zJn hb) (by rw[zQp]) hb2 (by rw[←hcl];exact hin2)
   (by rw[eQ,←hcl];exact hseg) (zJn hbq) (xKd p0 _) (xKd p0 _) (xKd p0 _)
   (fun x hx=>by obtain⟨y,_,rfl⟩:=Ji.1 hx;exact zZx p1 y) (fun x hx=>by obtain⟨y,_,rfl⟩:=Ji.1 hx;exact zZx p1 y) h2 (by simpa using p4) (by simpa using p5) (by simpa using p6) hqb (by omega)
  refine⟨_,_,_,h1, ?_, ?_,fun x hx=>Qp _ (Qp _ (Qp _ (Q7 _ hx)))⟩
  ·have e:hc ((((yW9 (zQz xs.dropLast) h).set b2 .dead).set b (.rows (o.elt.ren fun _=>q) [renK (fun _=>q) o.elt l.2])).set q (.rows o.qc l.1))=(((zZv (zQz xs.dropLast) (hc h)).set b2 .dead).set b (.rows [(vecC o.elt l.2).map (onQ q)])).set q (.rows (l.1.map (vecC o.qc))):=by
    rw[zQy,zQy,zQy,zJz,wZ6 (fun _=>rfl) p0 l.2 _ (vKu _ _ _)];rfl
   rw[e];have hx:xs.map VV.cv=xs.dropLast.map VV.cv++[.sref o.elt.cells b2 (off2*o.elt.cells) n2 cap2 ex2]:=by
    conv=>lhs;rw[wQx hlast]
    rw[Qw];simp[VV.cv,hc2,hcl]
   rw[Qg,hx];rw[hdatR]at hF;subst g2;simpa[VV.cv,valC,mixC,hcl]using hF
  ·refine((((zZg _ _).mono fun x hx=> ?_).trans (zQe.set ?_ _) (fun _ h=>h)).trans (zQe.set ?_ _) (fun _ h=>h)).trans (zQe.set (Jg ..) _) (fun _ h=>h)
   ·exact Qp _ (Qp _ (Qp _ (Qv _ hx)))
   ·exact Qp _ (Qp _ (Jg ..))
   ·exact Qp _ (Jg ..)
def wWo(P:Program)(f:FuncId):Prop:=∀(esz b off len cap:Nat) (ex:Bool) (esz2 b2 off2 len2 cap2:Nat) (ex2:Bool) (H:Heap),b≠b2→live H b=true→(∃cs2,H[b2]? =some (.cells cs2)∧cs2≠ [])→
 xXi P (.fn f) [.sref esz b off len cap ex, .sref esz2 b2 off2 len2 cap2 ex2] H .ret [.bool false] H
structure VCfg.Ok (P:Program) (c:Cfg) (vc:VCfg):Prop where
 base:c.Ok P
 globs:zZa c
 ty:vc.ty=c.ty
 glob:∀i,c.glob i=(vc.glob i).map VV.cv
 pf:∀f p,vc.pf f=some p→zXl P c f p
 opf:∀f o,vc.opf f=some o→OwnD P c f o
 rpf:∀f o,vc.rpf f=some o→OwnR P c f o
 code:∀f yf,vc.code f=some yf→∃xf,c.code f=some xf∧xf.ntmps=yf.ntmps∧xf.results=yf.results∧xf.body=yf.body.x
 xpf:∀f,vc.xpf f=true→wWo P f
 mpf:∀f o,vc.mpf f=some o→MvD P c f o
 qpf:∀f o,vc.qpf f=some o→MvQ P c f o
def yXo(P:Program)(c:Cfg){β:Type}(call:xXk β):Prop:=
 ∀f args h m (K KP:KVal β) r,call f args h m K KP=some r→(∃v h' m',K v h' m'=some r∧zQo P c f (args.map VV.cv) (hc h) .ret [v.cv] (hc h')∧zQe m' h h'∧(∀x∈m,x∈m')∧
  ∀l,f=.yl l→∃o,(hc h)[l]?=some o∧∀N φ St w,Rel N φ St (hc h) w→φ l≠some .dead)∨
  ∃v h' m',KP v h' m'=some r∧zQo P c f (args.map VV.cv) (hc h) (.panic v.cv) [] (hc h')∧zQe m' h h'∧(∀x∈m,x∈m')
theorem vJ8{vc:VCfg}(ok:vc.Ok P c){β:Type}{f:FuncId}{p:PFn}(hp:vc.pf f=some p){args:List VV}{h:zQa}{m:List Nat}{K:KVal β}{r:β}(he:vZg p args h m K=some r):
  ∃v h' m',K v h' m'=some r∧zQo P c (.fn f) (args.map VV.cv) (hc h) .ret [v.cv] (hc h')∧zQe m' h h'∧(∀x∈m,x∈m')∧((args.all (fun v=>!zW1 v)||p.res.all C.scalar)=true→h'=h):=by
 unfold vZg at he;split at he
 ·simp at he
 rename_i hpl0;have hpl:p.res.all C.pl=true∧p.args.all C.pl=true:=by simpa using hpl0
 split at he
 ·rename_i hcond
  simp only[Qc]at hcond;obtain⟨d,h1,h2⟩:=xJ5 he;simp only[Z.bind]at h1;cases hd:p.fn d with
  |none=>simp[hd]at h1
  |some rr=>
   simp only[hd,Kc]at h1;have hF:=ok.pf f p hp d rr hd;refine⟨_,_,_,h1, ?_,zQe.refl _ _,fun _ h=>h,fun _=>rfl⟩
   refine hF.vZj ok.globs h2 ?_;rw[zXa];exact HI.oneOf (yJd _ _ hcond.1)
 ·split at he
  ·rename_i hcond
   obtain⟨d,h1,h2,h3⟩:=yZz he;simp only[Z.bind]at h1;cases hd:p.fn d with
   |none=>simp[hd]at h1
   | some rr=>
    simp only[hd,Kc]at h1;have hF:=ok.pf f p hp d rr hd;refine⟨_,_,_,h1, ?_,zQe.refl _ _,fun _ h=>h,fun _=>rfl⟩
    simp only[Kp]at hcond;rcases hcond with hc1|hc1
    ·refine hF.callW ok.globs (h3 hc1) (zY4 _ _ hpl.2) ?_ _
     rw[zXa];exact xZk (zY4 _ _ hpl.1)
    ·refine hF.vZj ok.globs h2 ?_
     rw[zXa];exact HI.oneOf (yJd _ _ hc1)
  ·rename_i hcond
   split at he
   ·simp at he
   rename_i hmx;obtain⟨d,h1,h2⟩:=zYv (by simpa using hmx) he
   simp only[Z.bind]at h1;cases hd:p.fn d with
   |none=>simp[hd]at h1
   | some rr=>
    simp only[hd,Kc]at h1;have hF:=ok.pf f p hp d rr hd;refine⟨_,_,_,h1, ?_,(zZg _ _).mono (fun x hx=>Qv _ hx),fun x hx=>Q7 _ hx,fun hk=>?_⟩
    ·rw[zJz]
     refine hF.wYp ok.globs h2 ?_;rw[zXa];exact xZk (zY4 _ _ hpl.1)
    ·exact absurd hk hcond
theorem vJ9{vc:VCfg}(ok:vc.Ok P c){β:Type}{f:FuncId}{o:OFn}(hp:vc.opf f=some o){args:List VV}{h:zQa}{m:List Nat}{K:KVal β}{r:β}(he:uXr o args h m K=some r):
  ∃v h' m',K v h' m'=some r∧zQo P c (.fn f) (args.map VV.cv) (hc h) .ret [v.cv] (hc h')∧zQe m' h h'∧(∀x∈m,x∈m'):=by
 unfold uXr at he;split at he
 ·simp at he
 rename_i hpl0;have hpl:(o.ores.all fun x=>x.code.pl)=true∧o.args.all C.pl=true:=by simpa using hpl0
 obtain⟨d,h1,h2,_⟩:=yZz he;have key:∀d (hh:(Z.bind (o.fn d) fun r=>wJ9 o.ores r h.length fun vs os=>if(args.all (fun v=>!zW1 v)||o.ores.all OC.free)=true then K (oneV vs) (h++os) m else if args.any zJk=true then none else K (oneV vs) (yW9 (zQz args) h++os) (zQz args++m))=some r),
   ∃rr,o.fn d=some rr∧(if(args.all (fun v=>!zW1 v)||o.ores.all OC.free)=true then K (oneV (zQ7 o.ores rr h.length).1) (h++(zQ7 o.ores rr h.length).2) m else if args.any zJk=true then none else K (oneV (zQ7 o.ores rr h.length).1) (yW9 (zQz args) h++(zQ7 o.ores rr h.length).2) (zQz args++m))=some r:=by
  intro d hh;simp only[Z.bind]at hh;cases hd:o.fn d with
  |none=>simp[hd]at hh
  |some rr=>simp only[hd,Kc,wKs]at hh;exact⟨rr,rfl,hh⟩
 have shv:∀rr,(oneV (zQ7 o.ores rr 0).1).cv.shift (hc h).length=(oneV (zQ7 o.ores rr h.length).1).cv:=fun rr=>by
  rw[zW8,zXa,zXa,yZs,yZr _ _ _ _ hpl.1,Ks]
 have sho:∀rr,(hc (zQ7 o.ores rr 0).2).map (HObj.shift (hc h).length)=hc (zQ7 o.ores rr h.length).2:=fun rr=>by
  rw[(zZp o.ores rr 0 hpl.1).shift,yX0 o.ores rr 0 h.length]
 by_cases hcond:(args.all (fun v=>!zW1 v)||o.ores.all OC.free)=true
 ·by_cases hn:args.all (fun v=>!zW1 v)=true
  ·have hmx:args.any zJk=false:=by
    rw[Kx];intro v hv;have:=Qq.1 hn v hv;simp only[J3]at this;rw[wQl this];simp
   obtain⟨d',h1',h2'⟩:=zYv hmx he;obtain⟨rr,hd,h3⟩:=key d' h1';rw[Qf hcond]at h3;have hb:zQz args=[]:=by
    unfold zQz;rw[List.flatMap_eq_nil_iff];intro v hv;have:=Qq.1 hn v hv;simp at this;simp[this]
   have hF:=(ok.opf f o hp d' rr hd).wYp ok.globs h2' (zZp o.ores rr 0 hpl.1).simple;rw[shv,sho,hb]at hF;exact⟨_,_,_,h3,by rw[zWb];exact hF,(zQe.refl _ _).push _,fun _ h=>h⟩
  ·obtain⟨rr,hd,h3⟩:=key d h1
   rw[Qf hcond]at h3;have hfree:o.ores.all OC.free=true:=by simpa[hn]using hcond
   obtain⟨f1,f2⟩:=yJl o.ores rr 0 hfree;have hF:=(ok.opf f o hp d rr hd).vZj ok.globs h2 (zZp o.ores rr 0 hpl.1).simple (by rw[zXa];exact SF.oneOf f1) (by
    intro x hx;obtain⟨y,hy,rfl⟩:=Ji.1 hx;exact f2 y hy)
   rw[shv,sho]at hF;exact⟨_,_,_,h3,by rw[zWb];exact hF,(zQe.refl _ _).push _,fun _ h=>h⟩
 ·by_cases hmx:args.any zJk=true
  ·obtain⟨rr,hd,h3⟩:=key d h1
   rw[Qi hcond,Qf hmx]at h3;simp at h3
  ·obtain⟨d',h1',h2'⟩:=zYv (by simpa using hmx) he
   obtain⟨rr,hd,h3⟩:=key d' h1';rw[Qi hcond,Qi hmx]at h3;have hF:=(ok.opf f o hp d' rr hd).wYp ok.globs h2' (zZp o.ores rr 0 hpl.1).simple;rw[shv,sho]at hF;exact⟨_,_,_,h3,by rw[zWb,zJz];exact hF,((zZg _ _).mono fun x hx=>Qv _ hx).push _,fun x hx=>Q7 _ hx⟩
theorem vJ4{vc:VCfg}(ok:vc.Ok P c){β:Type}{call:xXk β}(hcall:yXo P c call){f:FuncId}{args:List VV}{h:zQa}{m:List Nat}{K KP:KVal β}{r:β}(he:uXo vc call f args h m K KP=some r):
  (∃v h' m',K v h' m'=some r∧(zQo P c (.fn f) (args.map VV.cv) (hc h) .ret [v.cv] (hc h')∨xXi P (.fn f) (args.map VV.cv) (hc h) .ret [v.cv] (hc h'))∧zQe m' h h'∧(∀x∈m,x∈m')∧(zYs vc f args=true→h'=h))∨
  ∃v h' m',KP v h' m'=some r∧zQo P c (.fn f) (args.map VV.cv) (hc h) (.panic v.cv) [] (hc h')∧zQe m' h h'∧(∀x∈m,x∈m'):=by
 have plain:∀p,vc.pf f=some p→vZg p args h m K=some r→(zYs vc f args=true→(args.all (fun v=>!zW1 v)||p.res.all C.scalar)=true)→∃v h' m',K v h' m'=some r∧(zQo P c (.fn f) (args.map VV.cv) (hc h) .ret [v.cv] (hc h')∨xXi P (.fn f) (args.map VV.cv) (hc h) .ret [v.cv] (hc h'))∧zQe m' h h'∧(∀x∈m,x∈m')∧(zYs vc f args=true→h'=h):=by
  intro p hp he hk;obtain⟨v,h',m',k1,k2,k3,k4,k5⟩:=vJ8 ok hp he;exact⟨v,h',m',k1, .inl k2,k3,k4,fun q=>k5 (hk q)⟩
 unfold uXo at he;split at he
 ·rename_i hx
  unfold ovlV at he;split at he<;>(try (simp at he;done))
  rename_i b off len cap ex ce b2 off2 len2 cap2 ex2 ce2;split at he<;>(try (simp at he;done))
  rename_i c2 ds hb2;split at he<;>(try (simp at he;done))
  rename_i hcd;obtain⟨q1,q2,q3⟩:=hcd;split at he<;>(try (simp at he;done))
  rename_i q4;have hv:=zWr hb2;refine .inl ⟨_,_,_,he, .inr (ok.xpf f hx _ _ _ _ _ _ _ _ _ _ _ _ _ q1 (by rw[zWf];exact q2) ⟨_,hv,fun e=>?_⟩),zQe.refl _ _,fun _ h=>h,fun _=>rfl⟩
  have:=Kr List.length e;rw[zQp,Wa,Nat.mul_eq_zero]at this;rcases this with h|h
  ·exact q4 h
  ·exact q3 h
 split at he
 ·rename_i o hp
  obtain⟨v,h',m',k1,k2,k3,k4⟩:=vYa (ok.mpf f o hp) ok.globs he;exact .inl ⟨v,h',m',k1, .inl k2,k3,k4,by simp[zYs,hp]⟩
 rename_i hmpf;split at he
 ·rename_i o hp
  split at he
  ·obtain⟨v,h',m',k1,k2,k3,k4⟩:=vJ5 (ok.opf f o hp) ok.globs he
   exact .inl ⟨v,h',m',k1, .inl k2,k3,k4,by simp[zYs,hp]⟩
  ·obtain⟨v,h',m',k1,k2,k3,k4⟩:=vJ9 ok hp he
   exact .inl ⟨v,h',m',k1, .inl k2,k3,k4,by simp[zYs,hp]⟩
 rename_i hopf;split at he
 ·rename_i o hp
  obtain⟨v,h',m',k1,k2,k3,k4⟩:=vJ6 (ok.rpf f o hp) ok.globs he;exact .inl ⟨v,h',m',k1, .inl k2,k3,k4,by simp[zYs,hmpf,hopf,hp]⟩
 rename_i hrpf;split at he
 ·rename_i p hp
  split at he
  ·rename_i ho
   have hkf:zYs vc f args=true→False:=by simp[zYs,hmpf,hopf,hrpf,hp,ho]
   obtain⟨d,h1,_⟩:=yZz he;split at h1<;>(try (simp at h1;done))
   split at h1
   ·exact .inl (plain p hp h1 fun q=>(hkf q).elim)
   ·rcases hcall _ _ _ _ _ _ _ h1 with⟨v,h',m',k1,k2,k3,k4,_⟩|hp
    ·exact .inl ⟨v,h',m',k1, .inl k2,k3,k4,fun q=>(hkf q).elim⟩
    ·exact .inr hp
  ·rename_i ho
   exact .inl (plain p hp he fun q=>by simpa[zYs,hmpf,hopf,hrpf,hp,ho]using q)
 ·rename_i hp
  split at he
  ·rename_i o hqp
   obtain⟨v,h',m',k1,k2,k3,k4⟩:=vZh (ok.qpf f o hqp) ok.globs he;exact .inl ⟨v,h',m',k1, .inl k2,k3,k4,by simp[zYs,hmpf,hopf,hrpf,hp]⟩
  rcases hcall _ _ _ _ _ _ _ he with⟨v,h',m',k1,k2,k3,k4,_⟩|hq
  rotate_left
  ·exact .inr hq
  exact .inl ⟨v,h',m',k1, .inl k2,k3,k4,by simp[zYs,hmpf,hopf,hrpf,hp]⟩
end
end Go.Eng
/- slices.overlaps. -/
namespace Go.Eng
theorem ovFact {P : Program} {f : FuncId} {fn : Func} {tS tR e : TypeId} {size : Nat} (hf : P.funcs[f]? = some fn) (hname : (fn.name == "runtime.NumGoroutine") = false) (hb : fn.body.isNone = true) (hn : Extern.findNext fn = none)
  (he:Extern.find fn=some (Extern.SlicesOverlaps.overlaps #[tS,tS] #[tR])) (ht:P.underlying tS=some (.slice e)) (hz:∀w,(sizeOf e).run P w=.ok size w):wWo P f:=by
 intro esz b off len cap ex esz2 b2 off2 len2 cap2 ex2 H hne hl ⟨cs0,hb0,hcs0⟩;refine⟨f, .bool false,rfl,rfl,rfl,rfl,fun N φ St w us R hu=>?_⟩
 cases hu with|cons _ u1 _ us h1 hus=>
 cases hus with|cons _ u2 _ us h2 hus=>
 cases hus;obtain⟨r,base,size1,rcap,hφ,rfl,_⟩:=zQn R h1 hl;obtain⟨r2,base2,size2,rcap2,hφ2,rfl,g1,g2,_,g4⟩:=zQn R h2 (by simp[live,hb0])
 have hrr:r≠r2:=fun e=>hne (R.inj b b2 _ _ r hφ hφ2 rfl (by rw[e];rfl))
 obtain⟨_,cs,arr,⟨elem,lo,hi⟩,_,hw,⟨hs,hz1⟩,_⟩:=R.own b r base size1 hφ;have hz1:lo=hi:=hz1;obtain⟨_,cs2,arr2,elem2,hcs2,hw2,⟨hs2,hz2⟩,hle2,_⟩:=R.own b2 r2 base2 size2 hφ2
 refine⟨.bool false, ?_, .bool false⟩;rw[run_callFunc_extern hf hname hb hn he];have hfz:∀j,w.frozen? {block:=r,off:=j}=false:=fun j=>by
  simp only[World.frozen?,hw];simp;omega
 have key:(Extern.SlicesOverlaps.overlaps #[tS,tS] #[tR] #[.slice (some ⟨r,base+off,none⟩) len rcap, .slice (some ⟨r2,base2+off2,none⟩) len2 rcap2]).run P w=.ok (.bool false) w:=by
  have hk:arr2.size≠0:=fun h0=>by
   rw[hb0]at hcs2;simp only[Qa,HObj.cells.injEq]at hcs2;subst hcs2;have:cs0.length=0:=by omega
   exact hcs0 (Qr.1 this)
  exact Lib.run_overlaps_apart w tS tR e ht size hz ⟨r,base+off,none⟩ ⟨r2,base2+off2,none⟩ len rcap len2 rcap2 hrr elem elem2.1 arr.size arr2.size (by simp[World.shape?,hw]) (by simp[World.shape?,hw2]) hk (hfz _) (hfz _)
 show((Extern.SlicesOverlaps.overlaps #[tS,tS] #[tR] #[.slice (some ⟨r,base+off,none⟩) len rcap, .slice (some ⟨r2,base2+off2,none⟩) len2 rcap2]).run P w).andThen _=_;rw[key]
 rfl
end Go.Eng
