/- Harms: a device that is harmed. -/
import Derived.Test.YtghnechjgchajaaHarmA
namespace Go.Proofs.Ytghnechjgchajaa
open Go.Eng
set_option linter.unusedVariables false
set_option linter.unusedSimpArgs false
open Classical in
noncomputable def hrm(c:CfgT)(d:List Lev)(l:List SeeT)(h:xYk):Option (List Lev):=
 if h.1=5 then(if 0≤h.2.2.2.2.1∧h.2.2.2.2.1≤(wrL l).length then some (reps (nwS c) ((wrL l).take h.2.2.2.2.1.toNat))else none)
 else if plD d h.2.1 [h.2.2.1]then
  (if h.1=1 then(if h.2.2.2.2.2.1≠0∧0≤h.2.2.2.2.1∧h.2.2.2.2.1<(bkt d h.2.1 h.2.2.1).length then some (wrB d h.2.1 h.2.2.1 ((bkt d h.2.1 h.2.2.1).set h.2.2.2.2.1.toNat (Z.bxor .u8 ((bkt d h.2.1 h.2.2.1).getD h.2.2.2.2.1.toNat 0) h.2.2.2.2.2.1)))else none)
  else if h.1=2 then(if plD d h.2.1 [h.2.2.2.1]then some (wrB (wrB d h.2.1 h.2.2.1 (bkt d h.2.1 h.2.2.2.1)) h.2.1 h.2.2.2.1 (bkt d h.2.1 h.2.2.1))else none)
  else if h.1=4 then(if(vers l h.2.1 h.2.2.1).length=1 then some (wrB d h.2.1 h.2.2.1 (List.replicate (bkt d h.2.1 h.2.2.1).length 0))else if 2≤(vers l h.2.1 h.2.2.1).length then some (wrB d h.2.1 h.2.2.1 ((vers l h.2.1 h.2.2.1).getD ((vers l h.2.1 h.2.2.1).length-2) []))else none)
  else if h.1=3 then(if 0≤h.2.2.2.2.1∧h.2.2.2.2.1<(vers l h.2.1 h.2.2.1).length then some (wrB d h.2.1 h.2.2.1 ((vers l h.2.1 h.2.2.1).getD h.2.2.2.2.1.toNat []))else none)
  else none)
 else none
open Classical in
theorem wKx(c:CfgT)(d:List Lev)(l:List SeeT)(h:xYk)(h5:¬h.1=5)(hp:plD d h.2.1 [h.2.2.1]):hrm c d l h=
  (if h.1=1 then(if h.2.2.2.2.2.1≠0∧0≤h.2.2.2.2.1∧h.2.2.2.2.1<(bkt d h.2.1 h.2.2.1).length then some (wrB d h.2.1 h.2.2.1 ((bkt d h.2.1 h.2.2.1).set h.2.2.2.2.1.toNat (Z.bxor .u8 ((bkt d h.2.1 h.2.2.1).getD h.2.2.2.2.1.toNat 0) h.2.2.2.2.2.1)))else none)
  else if h.1=2 then(if plD d h.2.1 [h.2.2.2.1]then some (wrB (wrB d h.2.1 h.2.2.1 (bkt d h.2.1 h.2.2.2.1)) h.2.1 h.2.2.2.1 (bkt d h.2.1 h.2.2.1))else none)
  else if h.1=4 then(if(vers l h.2.1 h.2.2.1).length=1 then some (wrB d h.2.1 h.2.2.1 (List.replicate (bkt d h.2.1 h.2.2.1).length 0))else if 2≤(vers l h.2.1 h.2.2.1).length then some (wrB d h.2.1 h.2.2.1 ((vers l h.2.1 h.2.2.1).getD ((vers l h.2.1 h.2.2.1).length-2) []))else none)
  else if h.1=3 then(if 0≤h.2.2.2.2.1∧h.2.2.2.2.1<(vers l h.2.1 h.2.2.1).length then some (wrB d h.2.1 h.2.2.1 ((vers l h.2.1 h.2.2.1).getD h.2.2.2.2.1.toNat []))else none)
  else none):=by
 unfold hrm;rw[if_neg h5,if_pos hp]
noncomputable def hrmA:Option (List Lev)→(List Lev×Unit)×Int
 |some d=>((d,()),0)
 |none=>(([],()),2)
open Classical in
noncomputable def hrmD(c:CfgT)(d:List Lev)(l:List SeeT)(h:xYk):(List Lev×Unit)×Int:=
 if zZl c d then(if∀x∈l,zXc d x then hrmA (hrm c d l h)else(([],()),2))else(([],()),8)
theorem xQa{c:CfgT}{d:List Lev}{l:List SeeT}(hok:zZl c d)(hall:∀x∈l,zXc d x):zZl c (nwS c)∧∀x∈l,zXc (nwS c) x:=
 ⟨wXa hok.1,fun x hx=>(yZi (xK6 hok (wXa hok.1)) x).1 (hall x hx)⟩
theorem vQ6{c:CfgT}{d:List Lev}{l:List SeeT}(hok:zZl c d)(hall:∀x∈l,zXc d x):repD c d l=((reps d l,()),0):=by
 unfold repD;rw[if_pos hok,if_pos hall]
theorem xKi{l:List SeeT}{x:SeeT}(h:x∈wrL l):x∈l:=(J7.1 h).1
theorem vQ7{c:CfgT}{d:List Lev}{l:List SeeT}(hok:zZl c d)(hall:∀x∈l,zXc d x)(n:Nat)(hl:l.length≤1000000):zX6 (c,((nwS c,()),(wrL l).take n))=some ((reps (nwS c) ((wrL l).take n),()),0):=by
 obtain⟨k1,k2⟩:=xQa hok hall;obtain⟨b1,b2⟩:=zYe k1;rw[zJz c (nwS c) _ (by omega) (fun L hL=>by have:=(b2 L hL).1;omega) (by
  have:=wYw l l.length;rw[Q7]at this;rw[J9];omega)]
 rw[vQ6 k1 fun x hx=>k2 x (xKi (J1 hx))]
theorem yJt (c:CfgT)(d:List Lev)(l:List SeeT)(h:xYk)(hl:d.length≤1000000000)(hL:∀L∈d,L.length≤100000000)(ha:l.length≤1000000):yJu (c,((d,()),(l,h)))=some (hrmD c d l h):=by
  unfold yJu;dsimp only;refine zQt (zJz c d l hl hL ha) ?_;unfold hrmD;by_cases hok:zZl c d
  · rw [if_pos hok]
    by_cases hall:∀x∈l,zXc d x
    · rw [if_pos hall,vQ6 hok hall]
      refine zQg rfl ?_;obtain⟨b1,b2⟩:=zYe hok;have hbl:∀x∈l,x.2.2.2.1.length≤1000000:=fun x hx=>by
        have hm:=hall x hx;obtain⟨i,hi,k,hk,e1,e2⟩:=pl1.1 hm.2.1;have:=hm.2.2;rw[e1,e2,zY6 hi hk]at this;have:=(b2 _ (Qo hi)).2 _ (Qo hk);omega
      obtain⟨kind,lv,A,B,At,mask,u⟩:=h;dsimp only;by_cases h5:kind=5
      · refine zQl (by simp[Z.ieq,h5]) ?_
        have e:hrm c d l (kind,(lv,(A,(B,(At,(mask,u))))))=if 0≤At∧At≤(wrL l).length then some (reps (nwS c) ((wrL l).take At.toNat))else none:=by
          unfold hrm;rw[if_pos h5]
        rw[e];refine zQa rfl ?_;refine zQx (fun(s:List SeeT×Int)=>∃i:Nat,i≤l.length∧s=(wrL (l.take i),(i:Int))) (fun s=>l.length-s.2.toNat) ?_ ⟨0,Jd _,rfl⟩ (zZ3 _ _ (by omega))
        rintro s k ⟨i,hi,rfl⟩ hk;dsimp only;by_cases hlt:i<l.length
        · have hs:=wZk l hlt
          have hle:=wYw l i;have dec:l.length-((i+1:Nat):Int).toNat<l.length-((i:Int)).toNat:=by omega
          refine zQl (decide_eq_true (by simp only[Z.ofN,Z.len];omega)) ?_
          refine zQa (ixND hlt) (zQc (zXf l hlt _) ?_);by_cases h2:l[i].1=2
          · refine zQl (by simp[Z.ieq,h2]) ?_
            rw[if_pos h2]at hs;refine zQa (Qf _) ?_;refine zKf (bigD (by simp only[Z.len];omega) (by show 1≤2000000;omega) (by omega)) ?_
            refine zQa rfl ?_;refine zQc (y:=wrL (l.take (i+1))) (by rw[hs];rfl) ?_
            refine zQc (zWx (by omega)) (zQa rfl ?_)
            exact hk _ ⟨i+1,hlt,rfl⟩ dec
          · refine zQg (by simp[Z.ieq,h2]) ?_
            rw[if_neg h2]at hs;refine zQc (zWx (by omega)) (zQa rfl ?_)
            exact hk _ ⟨i+1,hlt,by rw[hs]⟩ dec
        · refine zQg (decide_eq_false (by simp only[Z.ofN,Z.len];omega)) ?_
          rw[Qg (by omega)]
          by_cases a0:0≤At
          · refine zQl (decide_eq_true a0) ?_
            by_cases a1:At≤(wrL l).length
            · refine zQg (by simp only[Z.bnot,Z.zQs,Z.ile,Z.ofN,Z.len];simpa using a1) ?_
              rw[if_pos ⟨a0,a1⟩];refine zQt (yJz c) ?_;have en:newD c=((nwS c,()),0):=by unfold newD;rw[if_pos hok.1]
              rw[en];refine zQg rfl ?_;refine zQa ⟨a0,a1⟩ (iteP rfl ?_);have esl:Z.slice (wrL l) 0 (Z.toN At)=(wrL l).take At.toNat:=Jv;have fin:(Z.bind (zX6 (c,((nwS c,()),(wrL l).take At.toNat))) fun(x30:((List (List (List (Int))))×(Unit))×(Int))=>
 (bif (Z.bnot (Z.ieq x30.2 0))then some ((([]:List (List (List (Int)))),()),2)
 else some ((x30.1.1,()),0)))=some (hrmA (some (reps (nwS c) ((wrL l).take At.toNat)))):=by
                refine zQt (vQ7 hok hall At.toNat ha) ?_;exact zQg rfl rfl
              by_cases a2:Z.EqN (Z.toN At) (Z.len (wrL l))
              · rw[if_pos a2]
                exact zQc esl fin
              · rw[if_neg a2]
                exact zQc esl fin
            · refine zQl (by simp only[Z.bnot,Z.zQs,Z.ile,Z.ofN,Z.len];simp;omega) ?_
              rw[if_neg fun hh=>a1 hh.2];rfl
          · refine zQg (decide_eq_false a0) ?_
            rw[if_neg fun hh=>a0 hh.1];rfl
      · refine zQg (by simp[Z.ieq,h5]) ?_
        refine zQt (zJy d (wX1 hok)) ?_;dsimp only;have no:¬plD d lv [A]→hrm c d l (kind,(lv,(A,(B,(At,(mask,u))))))=none:=fun hn=>by
          unfold hrm;rw[if_neg h5,if_neg hn]
        have bad:hrm c d l (kind,(lv,(A,(B,(At,(mask,u))))))=none→some ((([]:List (List (List (Int)))),()),(2:Int))=some (hrmA (hrm c d l (kind,(lv,(A,(B,(At,(mask,u)))))))):=fun hn=>by rw[hn];rfl
        by_cases l0:0≤lv
        rotate_left
        ·exact zQg (decide_eq_false l0) (bad (no fun hh=>l0 hh.1.1))
        refine zQl (decide_eq_true l0) ?_;by_cases l1:lv<d.length
        rotate_left
        ·refine zQl (by simp only[Z.bnot,Z.zQs,Z.ilt,Z.ofN,Z.xlen];simp;omega) (bad (no fun hh=>l1 hh.1.2))
        refine zQg (by simp only[Z.bnot,Z.zQs,Z.ilt,Z.ofN,Z.xlen];simpa using l1) ?_
        obtain⟨i,rfl⟩:∃i:Nat,lv=(i:Int):=⟨lv.toNat,by omega⟩
        have hi:i<d.length:=by omega
        obtain⟨p1,p2,p3⟩:=vW5 hi;have hget:d.getD (i:Int).toNat []=d[i]:=by simp[List.getD,hi]
        by_cases A0:1≤A
        rotate_left
        ·exact zQg (decide_eq_false A0) (bad (no fun hh=>A0 (hh.2 A (by simp)).1))
        refine zQl (decide_eq_true A0) ?_;refine zQa p1 (zQa p2 (zQa p2 (zQc p3 ?_)));by_cases A1:A≤d[i].length
        rotate_left
        ·refine zQl (by simp only[Z.bnot,Z.zQs,Z.ile,Z.ofN,Z.xlen];simp;omega) (bad (no fun hh=>A1 (by have:=(hh.2 A (by simp)).2;rw[hget]at this;exact this)))
        refine zQg (by simp only[Z.bnot,Z.zQs,Z.ile,Z.ofN,Z.xlen];simpa using A1) ?_
        refine zQa p1 (zQa p2 (zQa p2 (zQc p3 ?_)));obtain⟨x,rfl⟩:∃x:Nat,A=((x+1:Nat):Int):=⟨(A-1).toNat,by omega⟩
        have hx:x<d[i].length:=by omega
        have hpA:plD d (i:Int) [((x+1:Nat):Int)]:=pl1.2 ⟨i,hi,x,hx,rfl,rfl⟩;refine zQc (sub1 (by have:=(b2 _ (Qo hi)).1;omega)) ?_
        obtain⟨q1,q2,q3⟩:=xYc hi hx;refine zQa q1 (zQa q2 (zQa q2 (zQc q3 ?_)));refine zQt (yQ3 l _ _ (by omega) hbl) ?_
        have hbA:bkt d (i:Int) ((x+1:Nat):Int)=d[i][x]:=zY6 hi hx;have hB:=(b2 _ (Qo hi)).2 _ (Qo hx);have hvl:=wZo hall (level:=(i:Int)) (bucket:=((x+1:Nat):Int))
        rw[hbA]at hvl;have hxl:Z.xlen (bkD i d[i] x)=d[i][x].length:=vZr i d[i] hx;have unf:=wKx c d l (kind,((i:Int),(((x+1:Nat):Int),(B,(At,(mask,u)))))) h5 hpA
        dsimp only at unf;rw[hbA]at unf;have viewE:∀(d':List Lev) (e:List Byt),dims d=dims d'→hrm c d l (kind,((i:Int),(((x+1:Nat):Int),(B,(At,(mask,u))))))=some d'→(if(Z.XOk [p2D d d.length] (.ref 0 0 d.length d.length:MixE (MixE (MixE Int))))then Z.bind (Z.mapO (fun(e76:MixE (MixE (Int)))=>
 if(Z.XOk (p1D d d.length) e76)then Z.bind (Z.mapO (fun(e79:MixE (Int))=>
 if(Z.XOk (qD d'++e) e79)then Z.bnd (Z.xget (qD d'++e) e79) fun(x82:List (Int))=>
 some x82
 else none) (Z.xget (p1D d d.length) e76)) fun(x83:List (List (Int)))=>
 some x83
 else none) (Z.xget [p2D d d.length] (.ref 0 0 d.length d.length:MixE (MixE (MixE Int))))) fun(x84:List (List (List (Int))))=>
 some ((x84,()),(0:Int))
 else none)=some (hrmA (hrm c d l (kind,((i:Int),(((x+1:Nat):Int),(B,(At,(mask,u)))))))):=by
          intro d' e hd' hh;obtain⟨v1,v2⟩:=vXt hd' e;rw[hh];exact zQa v1 (zQt v2 rfl)
        have view:∀(d':List Lev),dims d=dims d'→hrm c d l (kind,((i:Int),(((x+1:Nat):Int),(B,(At,(mask,u))))))=some d'→(if(Z.XOk [p2D d d.length] (.ref 0 0 d.length d.length:MixE (MixE (MixE Int))))then Z.bind (Z.mapO (fun(e76:MixE (MixE (Int)))=>
 if(Z.XOk (p1D d d.length) e76)then Z.bind (Z.mapO (fun(e79:MixE (Int))=>
 if(Z.XOk (qD d') e79)then Z.bnd (Z.xget (qD d') e79) fun(x82:List (Int))=>
 some x82
 else none) (Z.xget (p1D d d.length) e76)) fun(x83:List (List (Int)))=>
 some x83
 else none) (Z.xget [p2D d d.length] (.ref 0 0 d.length d.length:MixE (MixE (MixE Int))))) fun(x84:List (List (List (Int))))=>
 some ((x84,()),(0:Int))
 else none)=some (hrmA (hrm c d l (kind,((i:Int),(((x+1:Nat):Int),(B,(At,(mask,u)))))))):=by
          intro d' hd' hh;have:=viewE d' [] hd' hh;rw[Jg]at this;exact this
        have put1:∀b:Byt,b.length=d[i][x].length→Z.XW (qD d) (bkD i d[i] x)∧Z.xput (qD d) (bkD i d[i] x) (Z.take (Z.minN (Z.len b) (Z.xlen (bkD i d[i] x))) b)=qD (wrB d (i:Int) ((x+1:Nat):Int) b)∧dims d=dims (wrB d (i:Int) ((x+1:Nat):Int) b):=fun b hb=>yYv rfl hi hx b hb (by omega)
        by_cases k1:kind=1
        · rw[if_pos k1]at unf
          refine zQl (by simp[Z.ieq,k1]) ?_
          by_cases m0:mask=0
          ·exact zQg (by simp[Z.ine,m0]) (bad (by rw[unf,if_neg fun hh=>hh.1 m0]))
          refine zQl (by simp[Z.ine,m0]) ?_
          by_cases a0:0≤At
          rotate_left
          ·exact zQg (by simp only[Z.zQs,Z.ige];simpa using a0) (bad (by rw[unf,if_neg fun hh=>a0 hh.2.1]))
          refine zQl (by simp only[Z.zQs,Z.ige];simpa using a0) ?_
          by_cases a1:At<d[i][x].length
          rotate_left
          ·refine zQl (by rw[hxl];simp only[Z.bnot,Z.zQs,Z.ilt,Z.ofN];simp;omega) (bad (by rw[unf,if_neg fun hh=>a1 hh.2.2]))
          refine zQg (by rw[hxl];simp only[Z.bnot,Z.zQs,Z.ilt,Z.ofN];simpa using a1) ?_
          obtain⟨n,rfl⟩:∃n:Nat,At=(n:Int):=⟨At.toNat,by omega⟩
          have hn:n<d[i][x].length:=by omega
          rw[if_pos ⟨m0,a0,a1⟩]at unf;obtain⟨t1,t2,_⟩:=uK0 (d:=d) (d':=d) rfl hi hx hn;obtain⟨s1,s2⟩:=vYc (d:=d) (d':=d) rfl hi hx hn hi hx hn (Z.bxor .u8 d[i][x][n] mask)
          refine zQa t1 (zQa t2 (zQa t2 (zQc s2 ?_)));refine zQc (y:=Z.bxor .u8 d[i][x][n] mask) rfl ?_;refine zQa t1 (zQa t2 (zQa t2 (zQc s1 ?_)));have eg:d[i][x].getD (n:Int).toNat 0=d[i][x][n]:=by simp[List.getD,hn]
          rw[eg,wZl hi]at unf;exact view _ (yY8 rfl hi hx _ (by simp)) unf
        refine zQg (by simp[Z.ieq,k1]) ?_
        rw[if_neg k1]at unf;by_cases k2:kind=2
        · rw[if_pos k2]at unf
          refine zQl (by simp[Z.ieq,k2]) ?_
          have noB:¬plD d (i:Int) [B]→hrm c d l (kind,((i:Int),(((x+1:Nat):Int),(B,(At,(mask,u))))))=none:=fun hn=>by rw[unf,if_neg hn]
          refine zQl (decide_eq_true l0) ?_;refine zQg (by simp only[Z.bnot,Z.zQs,Z.ilt,Z.ofN,Z.xlen];simpa using l1) ?_
          by_cases B0:1≤B
          rotate_left
          ·exact zQg (decide_eq_false B0) (bad (noB fun hh=>B0 (hh.2 B (by simp)).1))
          refine zQl (decide_eq_true B0) ?_;refine zQa p1 (zQa p2 (zQa p2 (zQc p3 ?_)));by_cases B1:B≤d[i].length
          rotate_left
          ·refine zQl (by simp only[Z.bnot,Z.zQs,Z.ile,Z.ofN,Z.xlen];simp;omega) (bad (noB fun hh=>B1 (by have:=(hh.2 B (by simp)).2;rw[hget]at this;exact this)))
          refine zQg (by simp only[Z.bnot,Z.zQs,Z.ile,Z.ofN,Z.xlen];simpa using B1) ?_
          refine zQa p1 (zQa p2 (zQa p2 (zQc p3 ?_)));obtain⟨y,rfl⟩:∃y:Nat,B=((y+1:Nat):Int):=⟨(B-1).toNat,by omega⟩
          have hy:y<d[i].length:=by omega
          have hpB:plD d (i:Int) [((y+1:Nat):Int)]:=pl1.2 ⟨i,hi,y,hy,rfl,rfl⟩;rw[if_pos hpB]at unf;refine zQc (sub1 (by have:=(b2 _ (Qo hi)).1;omega)) ?_
          obtain⟨r1,r2,r3⟩:=xYc hi hy;refine zQa r1 (zQa r2 (zQa r2 (zQc r3 ?_)));have hbB:bkt d (i:Int) ((y+1:Nat):Int)=d[i][y]:=zY6 hi hy;rw[hbB]at unf
          have hyl:Z.xlen (bkD i d[i] y)=d[i][y].length:=vZr i d[i] hy;have hi':i<(shS c).length:=by have:=hok.2.1;omega
          have hsame:d[i][y].length=d[i][x].length:=by
            obtain⟨_,hq⟩:=hok.2.2 i hi hi';have q1:=hq _ (Qo hx);have q2:=hq _ (Qo hy);omega
          obtain⟨g1,g2⟩:=xYd (d:=d) (d':=d) rfl hi hi hx hx;refine zQa g1 (zQc g2 ?_);refine zQt (yJ7 _ (by omega)) ?_
          refine zQc (y:=qD d++[d[i][x]]) rfl ?_;obtain⟨g3,g4⟩:=xYd (d:=d) (d':=d) rfl hi hi hy hy;refine zQa (xKg g3).1 (zQc ((xKg g3).2.trans g4) ?_);obtain⟨w1,w2,w3⟩:=put1 d[i][y] (by omega)
          refine zQa (wZh w1 []).1 (zQc (y:=qD (wrB d (i:Int) ((x+1:Nat):Int) d[i][y])++[d[i][x]]) ((wZh w1 _).2.trans (by rw[w2])) ?_)
          have er:Z.xrow (Z.len (qD d)) d[i][x]=.ref (Z.len (qD d)) 0 d[i][x].length d[i][x].length:=vY9 (by omega)
          have hql:(qD d).length=d.length:=by simp[qD]
          have hd1:=w3;generalize hD1:wrB d (i:Int) ((x+1:Nat):Int) d[i][y]=d1 at *;have hn1:=zKg hd1;have hql1:(qD d1).length=d1.length:=by simp[qD]
          have hrow:(qD d1++[d[i][x]]).getD (Z.len (qD d)) []=d[i][x]:=by
            show(qD d1++[d[i][x]]).getD (qD d).length []=_;rw[List.getD_eq_getElem?_getD,Qk (by omega),show(qD d).length-(qD d1).length=0 by omega]
            rfl
          have hxk:Z.XOk (qD d1++[d[i][x]]) (Z.xrow (Z.len (qD d)) d[i][x]):=by
            rw[er];simp only[Z.XOk,MixE.xok,hrow,Qb,decide_eq_true_eq,beq_iff_eq,and_true];exact⟨by rw[Q5,List.length_singleton];show(qD d).length<_;omega,by simp⟩
          have hxg:Z.xget (qD d1++[d[i][x]]) (Z.xrow (Z.len (qD d)) d[i][x])=d[i][x]:=by
            rw[er];show(((qD d1++[d[i][x]]).getD (Z.len (qD d)) []).drop 0).take d[i][x].length=_;rw[hrow,Jv,Q7]
          refine zQa hxk (zQc hxg ?_);obtain⟨u1,u2,u3⟩:=yYv hd1 hi hy d[i][x] (by omega) (by omega)
          refine zQa (wZh u1 []).1 (zQc (y:=qD (wrB d1 (i:Int) ((y+1:Nat):Int) d[i][x])++[d[i][x]]) ((wZh u1 _).2.trans (by rw[u2])) ?_)
          exact viewE _ [d[i][x]] u3 unf
        refine zQg (by simp[Z.ieq,k2]) ?_
        rw[if_neg k2]at unf;have hvb:(vers l (i:Int) ((x+1:Nat):Int)).length≤1000000:=by
          have:=wWp l (i:Int) ((x+1:Nat):Int) l.length;rw[Q7]at this;omega
        generalize vers l (i:Int) ((x+1:Nat):Int)=V at *;by_cases k4:kind=4
        · rw [if_pos k4]at unf
          refine zQl (by simp[Z.ieq,k4]) ?_
          by_cases v1:V.length=1
          · refine zQl (by simp only[Z.ieq,Z.ofN,Z.len,v1];rfl) ?_
            rw[if_pos v1]at unf;obtain⟨w1,w2,w3⟩:=put1 (List.replicate d[i][x].length 0) (by simp)
            refine zQa w1 (zQc (y:=qD (wrB d (i:Int) ((x+1:Nat):Int) (List.replicate d[i][x].length 0))) ?_ ?_)
            · rw[←w2,hxl]
              congr 1;show List.replicate _ (0:Int)=List.take (min (List.replicate d[i][x].length (0:Int)).length d[i][x].length) _;rw[List.length_replicate,Nat.min_self,Qg (by simp)]
            ·exact view _ w3 unf
          refine zQg (by simp only[Z.ieq,Z.ofN,Z.len];simp;omega) ?_
          rw[if_neg v1]at unf;refine zQc (y:=(V.length:Int)-2) ((yX8 (by simp only[Z.sub,Z.ofN,Z.len];omega)).trans rfl) ?_
          by_cases v2:2≤V.length
          · refine zQl (decide_eq_true (by omega)) ?_
            refine zQg (by simp only[Z.bnot,Z.zQs,Z.ilt,Z.ofN,Z.len];simp;omega) ?_
            rw[if_pos v2]at unf;obtain⟨m,hm⟩:∃m:Nat,V.length=m+2:=⟨V.length-2,by omega⟩
            have hmV:m<V.length:=by omega
            have em:(V.length:Int)-2=(m:Int):=by omega
            rw[em];refine zQa (ixND hmV) (zQc (zXf V hmV _) ?_);have eg:V.getD (V.length-2) []=V[m]:=by rw[show V.length-2=m by omega];simp[List.getD,hmV]
            rw[eg]at unf;obtain⟨w1,w2,w3⟩:=put1 V[m] (hvl _ (Qo hmV));exact zQa w1 (zQc w2 (view _ w3 unf))
          ·refine zQg (decide_eq_false (by omega)) (bad (by rw[unf,if_neg v2]))
        refine zQg (by simp[Z.ieq,k4]) ?_
        rw[if_neg k4]at unf;by_cases k3:kind=3
        · rw[if_pos k3]at unf
          refine zQl (by simp[Z.ieq,k3]) ?_
          by_cases a0:0≤At
          rotate_left
          ·exact zQg (decide_eq_false a0) (bad (by rw[unf,if_neg fun hh=>a0 hh.1]))
          refine zQl (decide_eq_true a0) ?_;by_cases a1:At<V.length
          rotate_left
          ·refine zQl (by simp only[Z.bnot,Z.zQs,Z.ilt,Z.ofN,Z.len];simp;omega) (bad (by rw[unf,if_neg fun hh=>a1 hh.2]))
          refine zQg (by simp only[Z.bnot,Z.zQs,Z.ilt,Z.ofN,Z.len];simpa using a1) ?_
          obtain⟨m,rfl⟩:∃m:Nat,At=(m:Int):=⟨At.toNat,by omega⟩
          have hmV:m<V.length:=by omega
          rw[if_pos ⟨a0,a1⟩]at unf;refine zQa (ixND hmV) (zQc (zXf V hmV _) ?_);have eg:V.getD (m:Int).toNat []=V[m]:=by simp[List.getD,hmV]
          rw[eg]at unf;obtain⟨w1,w2,w3⟩:=put1 V[m] (hvl _ (Qo hmV));exact zQa w1 (zQc w2 (view _ w3 unf))
        refine zQg (by simp[Z.ieq,k3]) ?_
        rw[if_neg k3]at unf;exact bad unf
    · rw[if_neg hall]
      have e:repD c d l=(([],()),2):=by unfold repD;rw[if_pos hok,if_neg hall]
      rw[e];exact zQl rfl rfl
  · rw[if_neg hok]
    have e:repD c d l=(([],()),8):=by unfold repD;rw[if_neg hok]
    rw[e];exact zQl rfl rfl
end Go.Proofs.Ytghnechjgchajaa
