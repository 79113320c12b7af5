/- Harms: a device that is harmed. -/
import Derived.Test.YtghnechjgchajaaHarmA
namespace Go.Proofs.Ytghnechjgchajaa
open Go.Eng
set_option linter.unusedVariables false
set_option linter.unusedSimpArgs false
open Classical in
noncomputable def hrm(c:CfgT)(d:List Lev)(l:List SeeT)(h:xJt):Option (List Lev):=
 if h.1=5 then(if 0≤h.2.2.2.2.1∧h.2.2.2.2.1≤(wrL l).length then some (reps (nwS c) ((wrL l).take h.2.2.2.2.1.toNat))else none)
 else if plD d h.2.1 [h.2.2.1]then
  (if h.1=1 then(if h.2.2.2.2.2.1≠0∧0≤h.2.2.2.2.1∧h.2.2.2.2.1<(bkt d h.2.1 h.2.2.1).length then some (wrB d h.2.1 h.2.2.1 ((bkt d h.2.1 h.2.2.1).set h.2.2.2.2.1.toNat (Z.bxor .u8 ((bkt d h.2.1 h.2.2.1).getD h.2.2.2.2.1.toNat 0) h.2.2.2.2.2.1)))else none)
  else if h.1=2 then(if plD d h.2.1 [h.2.2.2.1]then some (wrB (wrB d h.2.1 h.2.2.1 (bkt d h.2.1 h.2.2.2.1)) h.2.1 h.2.2.2.1 (bkt d h.2.1 h.2.2.1))else none)
  else if h.1=4 then(if(vers l h.2.1 h.2.2.1).length=1 then some (wrB d h.2.1 h.2.2.1 (List.replicate (bkt d h.2.1 h.2.2.1).length 0))else if 2≤(vers l h.2.1 h.2.2.1).length then some (wrB d h.2.1 h.2.2.1 ((vers l h.2.1 h.2.2.1).getD ((vers l h.2.1 h.2.2.1).length-2) []))else none)
  else if h.1=3 then(if 0≤h.2.2.2.2.1∧h.2.2.2.2.1<(vers l h.2.1 h.2.2.1).length then some (wrB d h.2.1 h.2.2.1 ((vers l h.2.1 h.2.2.1).getD h.2.2.2.2.1.toNat []))else none)
  else none)
 else none
open Classical in
theorem yWf(c:CfgT)(d:List Lev)(l:List SeeT)(h:xJt)(h5:¬h.1=5)(hp:plD d h.2.1 [h.2.2.1]):hrm c d l h=
  (if h.1=1 then(if h.2.2.2.2.2.1≠0∧0≤h.2.2.2.2.1∧h.2.2.2.2.1<(bkt d h.2.1 h.2.2.1).length then some (wrB d h.2.1 h.2.2.1 ((bkt d h.2.1 h.2.2.1).set h.2.2.2.2.1.toNat (Z.bxor .u8 ((bkt d h.2.1 h.2.2.1).getD h.2.2.2.2.1.toNat 0) h.2.2.2.2.2.1)))else none)
  else if h.1=2 then(if plD d h.2.1 [h.2.2.2.1]then some (wrB (wrB d h.2.1 h.2.2.1 (bkt d h.2.1 h.2.2.2.1)) h.2.1 h.2.2.2.1 (bkt d h.2.1 h.2.2.1))else none)
  else if h.1=4 then(if(vers l h.2.1 h.2.2.1).length=1 then some (wrB d h.2.1 h.2.2.1 (List.replicate (bkt d h.2.1 h.2.2.1).length 0))else if 2≤(vers l h.2.1 h.2.2.1).length then some (wrB d h.2.1 h.2.2.1 ((vers l h.2.1 h.2.2.1).getD ((vers l h.2.1 h.2.2.1).length-2) []))else none)
  else if h.1=3 then(if 0≤h.2.2.2.2.1∧h.2.2.2.2.1<(vers l h.2.1 h.2.2.1).length then some (wrB d h.2.1 h.2.2.1 ((vers l h.2.1 h.2.2.1).getD h.2.2.2.2.1.toNat []))else none)
  else none):=by
 unfold hrm;rw[if_neg h5,if_pos hp]
noncomputable def hrmA:Option (List Lev)→(List Lev×Unit)×Int
 |some d=>((d,()),0)
 |none=>(([],()),2)
open Classical in
noncomputable def hrmD(c:CfgT)(d:List Lev)(l:List SeeT)(h:xJt):(List Lev×Unit)×Int:=
 if zK0 c d then(if∀x∈l,zZj d x then hrmA (hrm c d l h)else(([],()),2))else(([],()),8)
theorem wZ8{c:CfgT}{d:List Lev}{l:List SeeT}(hok:zK0 c d)(hall:∀x∈l,zZj d x):zK0 c (nwS c)∧∀x∈l,zZj (nwS c) x:=
 ⟨vQt hok.1,fun x hx=>(wWf (vQp hok (vQt hok.1)) x).1 (hall x hx)⟩
theorem vJj{c:CfgT}{d:List Lev}{l:List SeeT}(hok:zK0 c d)(hall:∀x∈l,zZj d x):repD c d l=((reps d l,()),0):=by
 unfold repD;rw[if_pos hok,if_pos hall]
theorem wJx{l:List SeeT}{x:SeeT}(h:x∈wrL l):x∈l:=(Kj.1 h).1
theorem wY6{c:CfgT}{d:List Lev}{l:List SeeT}(hok:zK0 c d)(hall:∀x∈l,zZj d x)(n:Nat)(hl:l.length≤1000000):zZe (c,((nwS c,()),(wrL l).take n))=some ((reps (nwS c) ((wrL l).take n),()),0):=by
 obtain⟨k1,k2⟩:=wZ8 hok hall;obtain⟨b1,b2⟩:=yKg k1;rw[yWq c (nwS c) _ (by omega) (fun L hL=>by have:=(b2 L hL).1;omega) (by
  have:=vJe l l.length;rw[Ja]at this;rw[J7];omega)]
 rw[vJj k1 fun x hx=>k2 x (wJx (Kb hx))]
theorem wJg (c:CfgT)(d:List Lev)(l:List SeeT)(h:xJt)(hl:d.length≤1000000000)(hL:∀L∈d,L.length≤100000000)(ha:l.length≤1000000):xK4 (c,((d,()),(l,h)))=some (hrmD c d l h):=by
  unfold xK4;dsimp only;refine zQs (yWq c d l hl hL ha) ?_;unfold hrmD;by_cases hok:zK0 c d
  · rw [if_pos hok]
    by_cases hall:∀x∈l,zZj d x
    · rw [if_pos hall,vJj hok hall]
      refine zQo rfl ?_;obtain⟨b1,b2⟩:=yKg hok;have hbl:∀x∈l,x.2.2.2.1.length≤1000000:=fun x hx=>by
        have hm:=hall x hx;obtain⟨i,hi,k,hk,e1,e2⟩:=pl1.1 hm.2.1;have:=hm.2.2;rw[e1,e2,yWw hi hk]at this;have:=(b2 _ (Qt hi)).2 _ (Qt hk);omega
      obtain⟨kind,lv,A,B,At,mask,u⟩:=h;dsimp only;by_cases h5:kind=5
      · refine zQt (by simp[Z.ieq,h5]) ?_
        have e:hrm c d l (kind,(lv,(A,(B,(At,(mask,u))))))=if 0≤At∧At≤(wrL l).length then some (reps (nwS c) ((wrL l).take At.toNat))else none:=by
          unfold hrm;rw[if_pos h5]
        rw[e];refine zQa rfl ?_;refine zWd (fun(s:List SeeT×Int)=>∃i:Nat,i≤l.length∧s=(wrL (l.take i),(i:Int))) (fun s=>l.length-s.2.toNat) ?_ ⟨0,Jm _,rfl⟩ (zJy _ _ (by omega))
        rintro s k ⟨i,hi,rfl⟩ hk;dsimp only;by_cases hlt:i<l.length
        · have hs:=vZe l hlt
          have hle:=vJe l i;have dec:l.length-((i+1:Nat):Int).toNat<l.length-((i:Int)).toNat:=by omega
          refine zQt (decide_eq_true (by simp only[Z.ofN,Z.len];omega)) ?_
          refine zQa (ixND hlt) (zQd (zKb l hlt _) ?_);by_cases h2:l[i].1=2
          · refine zQt (by simp[Z.ieq,h2]) ?_
            rw[if_pos h2]at hs;refine zQa (Qf _) ?_;refine zKa (bigD (by simp only[Z.len];omega) (by show 1≤2000000;omega) (by omega)) ?_
            refine zQa rfl ?_;refine zQd (y:=wrL (l.take (i+1))) (by rw[hs];rfl) ?_
            refine zQd (zX6 (by omega)) (zQa rfl ?_)
            exact hk _ ⟨i+1,hlt,rfl⟩ dec
          · refine zQo (by simp[Z.ieq,h2]) ?_
            rw[if_neg h2]at hs;refine zQd (zX6 (by omega)) (zQa rfl ?_)
            exact hk _ ⟨i+1,hlt,by rw[hs]⟩ dec
        · refine zQo (decide_eq_false (by simp only[Z.ofN,Z.len];omega)) ?_
          rw[Qm (by omega)]
          by_cases a0:0≤At
          · refine zQt (decide_eq_true a0) ?_
            by_cases a1:At≤(wrL l).length
            · refine zQo (by simp only[Z.bnot,Z.zQh,Z.ile,Z.ofN,Z.len];simpa using a1) ?_
              rw[if_pos ⟨a0,a1⟩];refine zQs (xZc c) ?_;have en:newD c=((nwS c,()),0):=by unfold newD;rw[if_pos hok.1]
              rw[en];refine zQo rfl ?_;refine zQa ⟨a0,a1⟩ (iteP rfl ?_);have esl:Z.slice (wrL l) 0 (Z.toN At)=(wrL l).take At.toNat:=Jw;have fin:(Z.bind (zZe (c,((nwS c,()),(wrL l).take At.toNat))) fun(x30:((List (List (List (Int))))×(Unit))×(Int))=>
 (bif (Z.bnot (Z.ieq x30.2 0))then some ((([]:List (List (List (Int)))),()),2)
 else some ((x30.1.1,()),0)))=some (hrmA (some (reps (nwS c) ((wrL l).take At.toNat)))):=by
                refine zQs (wY6 hok hall At.toNat ha) ?_;exact zQo rfl rfl
              by_cases a2:Z.EqN (Z.toN At) (Z.len (wrL l))
              · rw[if_pos a2]
                exact zQd esl fin
              · rw[if_neg a2]
                exact zQd esl fin
            · refine zQt (by simp only[Z.bnot,Z.zQh,Z.ile,Z.ofN,Z.len];simp;omega) ?_
              rw[if_neg fun hh=>a1 hh.2];rfl
          · refine zQo (decide_eq_false a0) ?_
            rw[if_neg fun hh=>a0 hh.1];rfl
      · refine zQo (by simp[Z.ieq,h5]) ?_
        refine zQs (zJt d (wW4 hok)) ?_;dsimp only;have no:¬plD d lv [A]→hrm c d l (kind,(lv,(A,(B,(At,(mask,u))))))=none:=fun hn=>by
          unfold hrm;rw[if_neg h5,if_neg hn]
        have bad:hrm c d l (kind,(lv,(A,(B,(At,(mask,u))))))=none→some ((([]:List (List (List (Int)))),()),(2:Int))=some (hrmA (hrm c d l (kind,(lv,(A,(B,(At,(mask,u)))))))):=fun hn=>by rw[hn];rfl
        by_cases l0:0≤lv
        rotate_left
        ·exact zQo (decide_eq_false l0) (bad (no fun hh=>l0 hh.1.1))
        refine zQt (decide_eq_true l0) ?_;by_cases l1:lv<d.length
        rotate_left
        ·refine zQt (by simp only[Z.bnot,Z.zQh,Z.ilt,Z.ofN,Z.xlen];simp;omega) (bad (no fun hh=>l1 hh.1.2))
        refine zQo (by simp only[Z.bnot,Z.zQh,Z.ilt,Z.ofN,Z.xlen];simpa using l1) ?_
        obtain⟨i,rfl⟩:∃i:Nat,lv=(i:Int):=⟨lv.toNat,by omega⟩
        have hi:i<d.length:=by omega
        obtain⟨p1,p2,p3⟩:=vQ6 hi;have hget:d.getD (i:Int).toNat []=d[i]:=by simp[List.getD,hi]
        by_cases A0:1≤A
        rotate_left
        ·exact zQo (decide_eq_false A0) (bad (no fun hh=>A0 (hh.2 A (by simp)).1))
        refine zQt (decide_eq_true A0) ?_;refine zQa p1 (zQa p2 (zQa p2 (zQd p3 ?_)));by_cases A1:A≤d[i].length
        rotate_left
        ·refine zQt (by simp only[Z.bnot,Z.zQh,Z.ile,Z.ofN,Z.xlen];simp;omega) (bad (no fun hh=>A1 (by have:=(hh.2 A (by simp)).2;rw[hget]at this;exact this)))
        refine zQo (by simp only[Z.bnot,Z.zQh,Z.ile,Z.ofN,Z.xlen];simpa using A1) ?_
        refine zQa p1 (zQa p2 (zQa p2 (zQd p3 ?_)));obtain⟨x,rfl⟩:∃x:Nat,A=((x+1:Nat):Int):=⟨(A-1).toNat,by omega⟩
        have hx:x<d[i].length:=by omega
        have hpA:plD d (i:Int) [((x+1:Nat):Int)]:=pl1.2 ⟨i,hi,x,hx,rfl,rfl⟩;refine zQd (sub1 (by have:=(b2 _ (Qt hi)).1;omega)) ?_
        obtain⟨q1,q2,q3⟩:=xJl hi hx;refine zQa q1 (zQa q2 (zQa q2 (zQd q3 ?_)));refine zQs (yYb l _ _ (by omega) hbl) ?_
        have hbA:bkt d (i:Int) ((x+1:Nat):Int)=d[i][x]:=yWw hi hx;have hB:=(b2 _ (Qt hi)).2 _ (Qt hx);have hvl:=wXp hall (level:=(i:Int)) (bucket:=((x+1:Nat):Int))
        rw[hbA]at hvl;have hxl:Z.xlen (bkD i d[i] x)=d[i][x].length:=vXp i d[i] hx;have unf:=yWf c d l (kind,((i:Int),(((x+1:Nat):Int),(B,(At,(mask,u)))))) h5 hpA
        dsimp only at unf;rw[hbA]at unf;have viewE:∀(d':List Lev) (e:List Byt),dims d=dims d'→hrm c d l (kind,((i:Int),(((x+1:Nat):Int),(B,(At,(mask,u))))))=some d'→(if(Z.XOk [p2D d d.length] (.ref 0 0 d.length d.length:MixE (MixE (MixE Int))))then Z.bind (Z.mapO (fun(e76:MixE (MixE (Int)))=>
 if(Z.XOk (p1D d d.length) e76)then Z.bind (Z.mapO (fun(e79:MixE (Int))=>
 if(Z.XOk (qD d'++e) e79)then Z.bnd (Z.xget (qD d'++e) e79) fun(x82:List (Int))=>
 some x82
 else none) (Z.xget (p1D d d.length) e76)) fun(x83:List (List (Int)))=>
 some x83
 else none) (Z.xget [p2D d d.length] (.ref 0 0 d.length d.length:MixE (MixE (MixE Int))))) fun(x84:List (List (List (Int))))=>
 some ((x84,()),(0:Int))
 else none)=some (hrmA (hrm c d l (kind,((i:Int),(((x+1:Nat):Int),(B,(At,(mask,u)))))))):=by
          intro d' e hd' hh;obtain⟨v1,v2⟩:=vWu hd' e;rw[hh];exact zQa v1 (zQs v2 rfl)
        have view:∀(d':List Lev),dims d=dims d'→hrm c d l (kind,((i:Int),(((x+1:Nat):Int),(B,(At,(mask,u))))))=some d'→(if(Z.XOk [p2D d d.length] (.ref 0 0 d.length d.length:MixE (MixE (MixE Int))))then Z.bind (Z.mapO (fun(e76:MixE (MixE (Int)))=>
 if(Z.XOk (p1D d d.length) e76)then Z.bind (Z.mapO (fun(e79:MixE (Int))=>
 if(Z.XOk (qD d') e79)then Z.bnd (Z.xget (qD d') e79) fun(x82:List (Int))=>
 some x82
 else none) (Z.xget (p1D d d.length) e76)) fun(x83:List (List (Int)))=>
 some x83
 else none) (Z.xget [p2D d d.length] (.ref 0 0 d.length d.length:MixE (MixE (MixE Int))))) fun(x84:List (List (List (Int))))=>
 some ((x84,()),(0:Int))
 else none)=some (hrmA (hrm c d l (kind,((i:Int),(((x+1:Nat):Int),(B,(At,(mask,u)))))))):=by
          intro d' hd' hh;have:=viewE d' [] hd' hh;rw[Je]at this;exact this
        have put1:∀b:Byt,b.length=d[i][x].length→Z.XW (qD d) (bkD i d[i] x)∧Z.xput (qD d) (bkD i d[i] x) (Z.take (Z.minN (Z.len b) (Z.xlen (bkD i d[i] x))) b)=qD (wrB d (i:Int) ((x+1:Nat):Int) b)∧dims d=dims (wrB d (i:Int) ((x+1:Nat):Int) b):=fun b hb=>yYe rfl hi hx b hb (by omega)
        by_cases k1:kind=1
        · rw[if_pos k1]at unf
          refine zQt (by simp[Z.ieq,k1]) ?_
          by_cases m0:mask=0
          ·exact zQo (by simp[Z.ine,m0]) (bad (by rw[unf,if_neg fun hh=>hh.1 m0]))
          refine zQt (by simp[Z.ine,m0]) ?_
          by_cases a0:0≤At
          rotate_left
          ·exact zQo (by simp only[Z.zQh,Z.ige];simpa using a0) (bad (by rw[unf,if_neg fun hh=>a0 hh.2.1]))
          refine zQt (by simp only[Z.zQh,Z.ige];simpa using a0) ?_
          by_cases a1:At<d[i][x].length
          rotate_left
          ·refine zQt (by rw[hxl];simp only[Z.bnot,Z.zQh,Z.ilt,Z.ofN];simp;omega) (bad (by rw[unf,if_neg fun hh=>a1 hh.2.2]))
          refine zQo (by rw[hxl];simp only[Z.bnot,Z.zQh,Z.ilt,Z.ofN];simpa using a1) ?_
          obtain⟨n,rfl⟩:∃n:Nat,At=(n:Int):=⟨At.toNat,by omega⟩
          have hn:n<d[i][x].length:=by omega
          rw[if_pos ⟨m0,a0,a1⟩]at unf;obtain⟨t1,t2,_⟩:=uZh (d:=d) (d':=d) rfl hi hx hn;obtain⟨s1,s2⟩:=vK7 (d:=d) (d':=d) rfl hi hx hn hi hx hn (Z.bxor .u8 d[i][x][n] mask)
          refine zQa t1 (zQa t2 (zQa t2 (zQd s2 ?_)));refine zQd (y:=Z.bxor .u8 d[i][x][n] mask) rfl ?_;refine zQa t1 (zQa t2 (zQa t2 (zQd s1 ?_)));have eg:d[i][x].getD (n:Int).toNat 0=d[i][x][n]:=by simp[List.getD,hn]
          rw[eg,wXm hi]at unf;exact view _ (yYr rfl hi hx _ (by simp)) unf
        refine zQo (by simp[Z.ieq,k1]) ?_
        rw[if_neg k1]at unf;by_cases k2:kind=2
        · rw[if_pos k2]at unf
          refine zQt (by simp[Z.ieq,k2]) ?_
          have noB:¬plD d (i:Int) [B]→hrm c d l (kind,((i:Int),(((x+1:Nat):Int),(B,(At,(mask,u))))))=none:=fun hn=>by rw[unf,if_neg hn]
          refine zQt (decide_eq_true l0) ?_;refine zQo (by simp only[Z.bnot,Z.zQh,Z.ilt,Z.ofN,Z.xlen];simpa using l1) ?_
          by_cases B0:1≤B
          rotate_left
          ·exact zQo (decide_eq_false B0) (bad (noB fun hh=>B0 (hh.2 B (by simp)).1))
          refine zQt (decide_eq_true B0) ?_;refine zQa p1 (zQa p2 (zQa p2 (zQd p3 ?_)));by_cases B1:B≤d[i].length
          rotate_left
          ·refine zQt (by simp only[Z.bnot,Z.zQh,Z.ile,Z.ofN,Z.xlen];simp;omega) (bad (noB fun hh=>B1 (by have:=(hh.2 B (by simp)).2;rw[hget]at this;exact this)))
          refine zQo (by simp only[Z.bnot,Z.zQh,Z.ile,Z.ofN,Z.xlen];simpa using B1) ?_
          refine zQa p1 (zQa p2 (zQa p2 (zQd p3 ?_)));obtain⟨y,rfl⟩:∃y:Nat,B=((y+1:Nat):Int):=⟨(B-1).toNat,by omega⟩
          have hy:y<d[i].length:=by omega
          have hpB:plD d (i:Int) [((y+1:Nat):Int)]:=pl1.2 ⟨i,hi,y,hy,rfl,rfl⟩;rw[if_pos hpB]at unf;refine zQd (sub1 (by have:=(b2 _ (Qt hi)).1;omega)) ?_
          obtain⟨r1,r2,r3⟩:=xJl hi hy;refine zQa r1 (zQa r2 (zQa r2 (zQd r3 ?_)));have hbB:bkt d (i:Int) ((y+1:Nat):Int)=d[i][y]:=yWw hi hy;rw[hbB]at unf
          have hyl:Z.xlen (bkD i d[i] y)=d[i][y].length:=vXp i d[i] hy;have hi':i<(shS c).length:=by have:=hok.2.1;omega
          have hsame:d[i][y].length=d[i][x].length:=by
            obtain⟨_,hq⟩:=hok.2.2 i hi hi';have q1:=hq _ (Qt hx);have q2:=hq _ (Qt hy);omega
          obtain⟨g1,g2⟩:=xJm (d:=d) (d':=d) rfl hi hi hx hx;refine zQa g1 (zQd g2 ?_);refine zQs (yJm _ (by omega)) ?_
          refine zQd (y:=qD d++[d[i][x]]) rfl ?_;obtain⟨g3,g4⟩:=xJm (d:=d) (d':=d) rfl hi hi hy hy;refine zQa (xZp g3).1 (zQd ((xZp g3).2.trans g4) ?_);obtain⟨w1,w2,w3⟩:=put1 d[i][y] (by omega)
          refine zQa (wXj w1 []).1 (zQd (y:=qD (wrB d (i:Int) ((x+1:Nat):Int) d[i][y])++[d[i][x]]) ((wXj w1 _).2.trans (by rw[w2])) ?_)
          have er:Z.xrow (Z.len (qD d)) d[i][x]=.ref (Z.len (qD d)) 0 d[i][x].length d[i][x].length:=vJ8 (by omega)
          have hql:(qD d).length=d.length:=by simp[qD]
          have hd1:=w3;generalize hD1:wrB d (i:Int) ((x+1:Nat):Int) d[i][y]=d1 at *;have hn1:=zJg hd1;have hql1:(qD d1).length=d1.length:=by simp[qD]
          have hrow:(qD d1++[d[i][x]]).getD (Z.len (qD d)) []=d[i][x]:=by
            show(qD d1++[d[i][x]]).getD (qD d).length []=_;rw[List.getD_eq_getElem?_getD,Qj (by omega),show(qD d).length-(qD d1).length=0 by omega]
            rfl
          have hxk:Z.XOk (qD d1++[d[i][x]]) (Z.xrow (Z.len (qD d)) d[i][x]):=by
            rw[er];simp only[Z.XOk,MixE.xok,hrow,Qb,decide_eq_true_eq,beq_iff_eq,and_true];exact⟨by rw[Q4,List.length_singleton];show(qD d).length<_;omega,by simp⟩
          have hxg:Z.xget (qD d1++[d[i][x]]) (Z.xrow (Z.len (qD d)) d[i][x])=d[i][x]:=by
            rw[er];show(((qD d1++[d[i][x]]).getD (Z.len (qD d)) []).drop 0).take d[i][x].length=_;rw[hrow,Jw,Ja]
          refine zQa hxk (zQd hxg ?_);obtain⟨u1,u2,u3⟩:=yYe hd1 hi hy d[i][x] (by omega) (by omega)
          refine zQa (wXj u1 []).1 (zQd (y:=qD (wrB d1 (i:Int) ((y+1:Nat):Int) d[i][x])++[d[i][x]]) ((wXj u1 _).2.trans (by rw[u2])) ?_)
          exact viewE _ [d[i][x]] u3 unf
        refine zQo (by simp[Z.ieq,k2]) ?_
        rw[if_neg k2]at unf;have hvb:(vers l (i:Int) ((x+1:Nat):Int)).length≤1000000:=by
          have:=wJ7 l (i:Int) ((x+1:Nat):Int) l.length;rw[Ja]at this;omega
        generalize vers l (i:Int) ((x+1:Nat):Int)=V at *;by_cases k4:kind=4
        · rw [if_pos k4]at unf
          refine zQt (by simp[Z.ieq,k4]) ?_
          by_cases v1:V.length=1
          · refine zQt (by simp only[Z.ieq,Z.ofN,Z.len,v1];rfl) ?_
            rw[if_pos v1]at unf;obtain⟨w1,w2,w3⟩:=put1 (List.replicate d[i][x].length 0) (by simp)
            refine zQa w1 (zQd (y:=qD (wrB d (i:Int) ((x+1:Nat):Int) (List.replicate d[i][x].length 0))) ?_ ?_)
            · rw[←w2,hxl]
              congr 1;show List.replicate _ (0:Int)=List.take (min (List.replicate d[i][x].length (0:Int)).length d[i][x].length) _;rw[List.length_replicate,Nat.min_self,Qm (by simp)]
            ·exact view _ w3 unf
          refine zQo (by simp only[Z.ieq,Z.ofN,Z.len];simp;omega) ?_
          rw[if_neg v1]at unf;refine zQd (y:=(V.length:Int)-2) ((yJ5 (by simp only[Z.sub,Z.ofN,Z.len];omega)).trans rfl) ?_
          by_cases v2:2≤V.length
          · refine zQt (decide_eq_true (by omega)) ?_
            refine zQo (by simp only[Z.bnot,Z.zQh,Z.ilt,Z.ofN,Z.len];simp;omega) ?_
            rw[if_pos v2]at unf;obtain⟨m,hm⟩:∃m:Nat,V.length=m+2:=⟨V.length-2,by omega⟩
            have hmV:m<V.length:=by omega
            have em:(V.length:Int)-2=(m:Int):=by omega
            rw[em];refine zQa (ixND hmV) (zQd (zKb V hmV _) ?_);have eg:V.getD (V.length-2) []=V[m]:=by rw[show V.length-2=m by omega];simp[List.getD,hmV]
            rw[eg]at unf;obtain⟨w1,w2,w3⟩:=put1 V[m] (hvl _ (Qt hmV));exact zQa w1 (zQd w2 (view _ w3 unf))
          ·refine zQo (decide_eq_false (by omega)) (bad (by rw[unf,if_neg v2]))
        refine zQo (by simp[Z.ieq,k4]) ?_
        rw[if_neg k4]at unf;by_cases k3:kind=3
        · rw[if_pos k3]at unf
          refine zQt (by simp[Z.ieq,k3]) ?_
          by_cases a0:0≤At
          rotate_left
          ·exact zQo (decide_eq_false a0) (bad (by rw[unf,if_neg fun hh=>a0 hh.1]))
          refine zQt (decide_eq_true a0) ?_;by_cases a1:At<V.length
          rotate_left
          ·refine zQt (by simp only[Z.bnot,Z.zQh,Z.ilt,Z.ofN,Z.len];simp;omega) (bad (by rw[unf,if_neg fun hh=>a1 hh.2]))
          refine zQo (by simp only[Z.bnot,Z.zQh,Z.ilt,Z.ofN,Z.len];simpa using a1) ?_
          obtain⟨m,rfl⟩:∃m:Nat,At=(m:Int):=⟨At.toNat,by omega⟩
          have hmV:m<V.length:=by omega
          rw[if_pos ⟨a0,a1⟩]at unf;refine zQa (ixND hmV) (zQd (zKb V hmV _) ?_);have eg:V.getD (m:Int).toNat []=V[m]:=by simp[List.getD,hmV]
          rw[eg]at unf;obtain⟨w1,w2,w3⟩:=put1 V[m] (hvl _ (Qt hmV));exact zQa w1 (zQd w2 (view _ w3 unf))
        refine zQo (by simp[Z.ieq,k3]) ?_
        rw[if_neg k3]at unf;exact bad unf
    · rw[if_neg hall]
      have e:repD c d l=(([],()),2):=by unfold repD;rw[if_pos hok,if_neg hall]
      rw[e];exact zQt rfl rfl
  · rw[if_neg hok]
    have e:repD c d l=(([],()),8):=by unfold repD;rw[if_neg hok]
    rw[e];exact zQt rfl rfl
end Go.Proofs.Ytghnechjgchajaa
