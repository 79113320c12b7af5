/- Devices: the document's, and what is written over. -/
import Derived.Test.YtghnechjgchajaaDevE
namespace Go.Proofs.Ytghnechjgchajaa
open Go.Eng
set_option linter.unusedVariables false
set_option linter.unusedSimpArgs false
section
variable {d d':List Lev}
theorem vQu(q:Nat)(L:Lev){k:Nat}(h:k<L.length):Z.xlen (bkD q L k)=L[k].length:=by
 have o1:=zJ3 L h;by_cases h0:L.flatten.length=0
 ·rw[bkD_e h0]
  have:=yQm L h;show 0=_;omega
 ·rw[xJ0 h0]
  show offD L (k+1)-offD L k=_;omega
theorem wXy(L:Lev){k:Nat}(h:k<L.length){n:Nat}(hn:n<L[k].length)(x:Int):L.flatten.set (offD L k+n) x=(L.set k (L[k].set n x)).flatten:=by
 have e:L.flatten=(L.take k).flatten++(L[k]++(L.drop (k+1)).flatten):=by
  have h1:L=L.take k++(L[k]::L.drop (k+1)):=by rw[←Js h,Qt]
  conv=>lhs;rw[h1]
  rw[List.flatten_append,Jt]
 have e2:(L.set k (L[k].set n x)).flatten=(L.take k).flatten++(L[k].set n x++(L.drop (k+1)).flatten):=by
  rw[List.set_eq_take_append_cons_drop,if_pos h,List.flatten_append,Jt]
 rw[e,e2];unfold offD;rw[List.set_append_right _ _ (by omega),Je,List.set_append_left _ _ hn]
theorem vJ0(hd:dims d=dims d'){i k n:Nat}(hi:i<d.length)(hk:k<d[i].length)(hn:n<d[i][k].length):
  Z.Ix (n:Int) (Z.xlen (bkD i d[i] k))∧Z.XPt (qD d') (bkD i d[i] k) (Z.toN (n:Int))∧∀x,∃d'',Z.xset (qD d') (bkD i d[i] k) (Z.toN (n:Int)) x=qD d''∧dims d=dims d'':=by
 have hln:=zYu hd;have hi':i<d'.length:=by omega
 have hL:=zKd hd hi hi';have hk':k<d'[i].length:=by have:=yXx hL;omega
 have he:=yJs hL hk hk';have hq:i<(qD d').length:=by simp[qD,hi']
 have o1:=zJ3 d'[i] hk';have o2:=yYi d'[i] (k+1);have h0:d'[i].flatten.length≠0:=by omega
 refine⟨⟨by omega,by rw[vQu i d[i] hk];show(n:Int).toNat<_;omega⟩, ?_,fun x=>?_⟩
 ·rw[xZy i hL k,xJ0 h0]
  simp only[Z.XPt,MixE.xpt,yY4 hi',decide_eq_true hq];rw[decide_eq_true (show offD d'[i] k+(offD d'[i] (k+1)-offD d'[i] k)≤d'[i].flatten.length by omega),decide_eq_true (show Z.toN (n:Int)<offD d'[i] (k+1)-offD d'[i] k by show n<_;omega),beq_self_eq_true];rfl
 ·rw[xZy i hL k,xJ0 h0]
  refine⟨d'.set i (d'[i].set k (d'[i][k].set n x)), ?_,xWg hd hi' hk' _ (by simp)⟩
  show(qD d').set i (((qD d').getD i []).set (offD d'[i] k+n) x)=_;rw[yY4 hi',wXy d'[i] hk' (by omega) x]
  unfold qD;rw[Q6]
theorem vQ6{β:Type}(hb:DevB d)(d0:List Lev)(h0:dims d=dims d0){fin:Option β}{r:β}(hfin:fin=some r):Z.loop (fun(s31:(Int)×(List (List (Int)))) k32=>
 (bif (Z.ilt s31.1 (Z.ofN (Z.xlen (MixE.ref 0 0 d.length d.length:MixE (MixE (MixE Int))))))then Z.loop (fun(s33:(Int)×(List (List (Int)))) k34=>
 if(Z.Ix s31.1 (Z.xlen (MixE.ref 0 0 d.length d.length:MixE (MixE (MixE Int)))))then if(Z.XPt [p2D d d.length] (MixE.ref 0 0 d.length d.length) (Z.toN s31.1))then if(Z.XPt [p2D d d.length] (MixE.ref 0 0 d.length d.length) (Z.toN s31.1))then Z.bnd (Z.xat [p2D d d.length] (MixE.ref 0 0 d.length d.length) (Z.toN s31.1) (MixE.nil:MixE (MixE (Int)))) fun(x41:MixE (MixE (Int)))=>
 (bif (Z.ilt s33.1 (Z.ofN (Z.xlen x41)))then Z.loop (fun(s42:(Int)×(List (List (Int)))) k43=>
 if(Z.Ix s31.1 (Z.xlen (MixE.ref 0 0 d.length d.length:MixE (MixE (MixE Int)))))then if(Z.XPt [p2D d d.length] (MixE.ref 0 0 d.length d.length) (Z.toN s31.1))then if(Z.XPt [p2D d d.length] (MixE.ref 0 0 d.length d.length) (Z.toN s31.1))then Z.bnd (Z.xat [p2D d d.length] (MixE.ref 0 0 d.length d.length) (Z.toN s31.1) (MixE.nil:MixE (MixE (Int)))) fun(x50:MixE (MixE (Int)))=>
 if(Z.Ix s33.1 (Z.xlen x50))then if(Z.XPt (p1D d d.length) x50 (Z.toN s33.1))then if(Z.XPt (p1D d d.length) x50 (Z.toN s33.1))then Z.bnd (Z.xat (p1D d d.length) x50 (Z.toN s33.1) (MixE.nil:MixE (Int))) fun(x57:MixE (Int))=>
 (bif (Z.ilt s42.1 (Z.ofN (Z.xlen x57)))then if(Z.Ix s31.1 (Z.xlen (MixE.ref 0 0 d.length d.length:MixE (MixE (MixE Int)))))then if(Z.XPt [p2D d d.length] (MixE.ref 0 0 d.length d.length) (Z.toN s31.1))then if(Z.XPt [p2D d d.length] (MixE.ref 0 0 d.length d.length) (Z.toN s31.1))then Z.bnd (Z.xat [p2D d d.length] (MixE.ref 0 0 d.length d.length) (Z.toN s31.1) (MixE.nil:MixE (MixE (Int)))) fun(x64:MixE (MixE (Int)))=>
 if(Z.Ix s33.1 (Z.xlen x64))then if(Z.XPt (p1D d d.length) x64 (Z.toN s33.1))then if(Z.XPt (p1D d d.length) x64 (Z.toN s33.1))then Z.bnd (Z.xat (p1D d d.length) x64 (Z.toN s33.1) (MixE.nil:MixE (Int))) fun(x71:MixE (Int))=>
 if(Z.Ix s31.1 (Z.xlen (MixE.ref 0 0 d.length d.length:MixE (MixE (MixE Int)))))then if(Z.XPt [p2D d d.length] (MixE.ref 0 0 d.length d.length) (Z.toN s31.1))then if(Z.XPt [p2D d d.length] (MixE.ref 0 0 d.length d.length) (Z.toN s31.1))then Z.bnd (Z.xat [p2D d d.length] (MixE.ref 0 0 d.length d.length) (Z.toN s31.1) (MixE.nil:MixE (MixE (Int)))) fun(x78:MixE (MixE (Int)))=>
 if(Z.Ix s33.1 (Z.xlen x78))then if(Z.XPt (p1D d d.length) x78 (Z.toN s33.1))then if(Z.XPt (p1D d d.length) x78 (Z.toN s33.1))then Z.bnd (Z.xat (p1D d d.length) x78 (Z.toN s33.1) (MixE.nil:MixE (Int))) fun(x85:MixE (Int))=>
 if(Z.Ix s42.1 (Z.xlen x85))then if(Z.XPt s42.2 x85 (Z.toN s42.1))then if(Z.XPt s42.2 x85 (Z.toN s42.1))then Z.bnd (Z.xat s42.2 x85 (Z.toN s42.1) 0) fun(x92:Int)=>
 Z.bnd (Z.wrap .u8 (Z.add x92 1)) fun(x93:Int)=>
 if(Z.Ix s42.1 (Z.xlen x71))then if(Z.XPt s42.2 x71 (Z.toN s42.1))then if(Z.XPt s42.2 x71 (Z.toN s42.1))then Z.bnd (Z.xset s42.2 x71 (Z.toN s42.1) x93) fun(x100:List (List (Int)))=>
 Z.bnd (Z.wrap .i64 (Z.add s42.1 1)) fun(x101:Int)=>
 k43 (x101,x100)
 else none
 else none
 else none
 else none
 else none
 else none
 else none
 else none
 else none
 else none
 else none
 else none
 else none
 else none
 else none
 else none
 else none
 else none
 else Z.bnd (Z.wrap .i64 (Z.add s33.1 1)) fun(x102:Int)=>
 k34 (x102,s42.2))
 else none
 else none
 else none
 else none
 else none
 else none) (0,s33.2)
 else Z.bnd (Z.wrap .i64 (Z.add s31.1 1)) fun(x103:Int)=>
 k32 (x103,s33.2))
 else none
 else none
 else none) (0,s31.2)
 else fin)) (0,qD d0)=some r:=by
  have hn:=hb.many;refine zQn (fun(s:Int×List Byt)=>∃(i:Nat) (d':List Lev),i≤d.length∧s=((i:Int),qD d')∧dims d=dims d') (fun s=>d.length-s.1.toNat) ?_ ⟨0,d0,Qw _,rfl,h0⟩ (zXd _ _ (by omega))
  rintro s k1 ⟨i,d',hi,rfl,hd⟩ hk1;dsimp only;by_cases h:i<d.length
  · refine zQe (decide_eq_true (by simp only[Z.ofN,Z.xlen];omega)) ?_
    have hL:=hb.lev _ (Qh h);have hF:=hb.flat _ (Qh h);obtain⟨p1,p2,p3⟩:=wY5 h;refine zQn (fun(s:Int×List Byt)=>∃(q:Nat) (d':List Lev),q≤d[i].length∧s=((q:Int),qD d')∧dims d=dims d') (fun s=>d[i].length-s.1.toNat) ?_ ⟨0,d',Qw _,rfl,hd⟩ (zXd _ _ (by omega))
    clear hd;rintro s k2 ⟨q,d',hq,rfl,hd⟩ hk2;dsimp only;refine zQa p1 (zQa p2 (zQa p2 (zQb p3 ?_)));by_cases hqlt:q<d[i].length
    · refine zQe (decide_eq_true (by simp only[Z.ofN,Z.xlen];omega)) ?_
      obtain⟨q1,q2,q3⟩:=wWa h hqlt;have hB:=yQm d[i] hqlt;have hbl:=vQu i d[i] hqlt;refine zQn (fun(s:Int×List Byt)=>∃(n:Nat) (d':List Lev),n≤d[i][q].length∧s=((n:Int),qD d')∧dims d=dims d') (fun s=>d[i][q].length-s.1.toNat) ?_ ⟨0,d',Qw _,rfl,hd⟩ (zXd _ _ (by omega))
      clear hd;rintro s k3 ⟨n,d',hn,rfl,hd⟩ hk3;dsimp only;refine zQa p1 (zQa p2 (zQa p2 (zQb p3 ?_)));refine zQa q1 (zQa q2 (zQa q2 (zQb q3 ?_)));by_cases hnlt:n<d[i][q].length
      · refine zQe (decide_eq_true (by rw[hbl];simp only[Z.ofN];omega)) ?_
        obtain⟨b1,b2,b3⟩:=vJ0 hd h hqlt hnlt;refine zQa p1 (zQa p2 (zQa p2 (zQb p3 ?_)));refine zQa q1 (zQa q2 (zQa q2 (zQb q3 ?_)));refine zQa p1 (zQa p2 (zQa p2 (zQb p3 ?_)))
        refine zQa q1 (zQa q2 (zQa q2 (zQb q3 ?_)));refine zQa b1 (zQa b2 (zQa b2 (zQb rfl (zQb rfl ?_))));obtain⟨d2,e1,e2⟩:=b3 (Z.wrap .u8 (Z.add (Z.xat (qD d') (bkD i d[i] q) (Z.toN (n:Int)) 0) 1))
        refine zQa b1 (zQa b2 (zQa b2 (zQb e1 ?_)));refine zQb (zQ1 (by omega)) ?_
        exact hk3 _ ⟨n+1,d2,hnlt,rfl,e2⟩ (by show d[i][q].length-((n+1:Nat):Int).toNat<d[i][q].length-((n:Int)).toNat;omega)
      · refine zQd (decide_eq_false (by rw[hbl];simp only[Z.ofN];omega)) ?_
        refine zQb (zQ1 (by omega)) ?_
        exact hk2 _ ⟨q+1,d',hqlt,rfl,hd⟩ (by show d[i].length-((q+1:Nat):Int).toNat<d[i].length-((q:Int)).toNat;omega)
    · refine zQd (decide_eq_false (by simp only[Z.ofN,Z.xlen];omega)) ?_
      refine zQb (zQ1 (by omega)) ?_
      exact hk1 _ ⟨i+1,d',h,rfl,hd⟩ (by show d.length-((i+1:Nat):Int).toNat<d.length-((i:Int)).toNat;omega)
  · refine zQd (decide_eq_false (by simp only[Z.ofN,Z.xlen];omega)) ?_
    exact hfin
end
theorem wWv(c:CfgT)(d:List Lev)(hl:d.length≤1000000000)(hL:∀L∈d,L.length≤1000000000):yKw (c,(d,()))=some (Z.ieq (ckD c d) 0):=by
 unfold yKw;dsimp only;refine zQm (xKf c) ?_;cases hm:mayB c with
 |false=>
  refine zQe rfl ?_;rw[yJy fun h=>by rw[h.1]at hm;cases hm]
  rfl
 | true=>
  obtain⟨N,_⟩:=zJ6 hm;have hal:=zYw c;have hsl:=yZ6 c;refine zQd rfl ?_;refine zQm (y:=allS c) (zY4 N) ?_;have hsh:∀(i:Nat) (h:i<(allS c).length) (h':i<(shS c).length),(shS c)[i]=shp (allS c)[i]:=fun i h h'=>by simp[shS]
  by_cases hlen:d.length=(shS c).length
  ·refine zQd (by simp only[Z.ine,Z.ofN,Z.len];simp;omega) ?_
   refine zQn (fun(s:Int)=>∃i:Nat,s=(i:Int)∧i≤d.length∧∀(j:Nat) (h:j<d.length) (h':j<(shS c).length),j<i→(d[j].length:Int)=(shS c)[j].1∧∀b∈d[j],(b.length:Int)=(shS c)[j].2.1) (fun s=>d.length-s.toNat) ?_ ⟨0,rfl,Qw _,fun _ _ _ h=>absurd h (Nat.not_lt_zero _)⟩ (zXd _ _ (by omega))
   rintro s k ⟨i,rfl,hi,hq⟩ hk;by_cases h:i<d.length
   ·have h':i<(shS c).length:=by omega
    have ha:i<(allS c).length:=by omega
    have hs:=hsh i ha h';obtain⟨m1,m2,m3⟩:=wZh N _ (Qh ha);obtain⟨pw1,pw2⟩:=xZa m1;have hh:=yYl.1 m1;refine zQe (decide_eq_true (by simp only[Z.ofN,Z.len];omega)) ?_
    refine zQa (ixND h) (zQb (zWg d h _) ?_);refine zQa (ixND ha) (zQb (zWg (allS c) ha _) ?_);refine zQm (zJz _ (by omega) (by omega)) ?_
    have s1:(shS c)[i].1=2*2^(allS c)[i].2.2.1.toNat-1:=by rw[hs];rfl
    have s2:(shS c)[i].2.1=8+(allS c)[i].2.2.2.1:=by rw[hs];rfl
    have hLi:=hL _ (Qh h);generalize (2:Int)^(allS c)[i].2.2.1.toNat=pw at *;refine zQb (y:=2*pw) (zY1 (by simp only[Z.mul];omega)) ?_
    refine zQb (y:=2*pw-1) (zY1 (by simp only[Z.sub];omega)) ?_
    by_cases he:(d[i].length:Int)=(shS c)[i].1
    ·refine zQd (by simp only[Z.ine,Z.ofN,Z.len,he,s1];simp) ?_
     refine zQn (fun(s:Int)=>∃q:Nat,s=(q:Int)∧q≤d[i].length∧∀(j:Nat) (hj:j<d[i].length),j<q→(d[i][j].length:Int)=(shS c)[i].2.1) (fun s=>d[i].length-s.toNat) ?_ ⟨0,rfl,Qw _,fun _ _ h=>absurd h (Nat.not_lt_zero _)⟩ (zXd _ _ (by omega))
     rintro s k2 ⟨q,rfl,hqi,hqq⟩ hk2;refine zQa (ixND h) (zQb (zWg d h _) ?_);by_cases hlt:q<d[i].length
     ·refine zQe (decide_eq_true (by simp only[Z.ofN,Z.len];omega)) ?_
      refine zQa (ixND h) (zQb (zWg d h _) ?_);refine zQa (ixND hlt) (zQb (zWg d[i] hlt _) ?_);refine zQa (ixND ha) (zQb (zWg (allS c) ha _) ?_);refine zQb (y:=8+(allS c)[i].2.2.2.1) (zY1 (by simp only[Z.add];omega)) ?_
      by_cases he2:(d[i][q].length:Int)=(shS c)[i].2.1
      ·refine zQd (by simp only[Z.ine,Z.ofN,Z.len,he2,s2];simp) ?_
       refine zQb (zQ1 (by omega)) ?_
       refine hk2 _ ⟨q+1,rfl,hlt,fun j hj hji=>?_⟩ (by show d[i].length-((q+1:Nat):Int).toNat<d[i].length-((q:Int)).toNat;omega)
       by_cases e:j=q
       ·subst e;exact he2
       ·exact hqq j hj (by omega)
      ·refine zQe (by simp only[Z.ine,Z.ofN,Z.len,bne_iff_ne,ne_eq,←s2];exact he2) ?_
       rw[yJy fun hh=>he2 ((hh.2.2 i h h').2 _ (Qh hlt))]
       rfl
     ·refine zQd (decide_eq_false (by simp only[Z.ofN,Z.len];omega)) ?_
      refine zQb (zQ1 (by omega)) ?_
      refine hk _ ⟨i+1,rfl,h,fun j hj hj' hji=>?_⟩ (by show d.length-((i+1:Nat):Int).toNat<d.length-((i:Int)).toNat;omega)
      by_cases e:j=i
      ·subst e
       refine⟨he,fun b hb=>?_⟩
       obtain⟨x,hx,rfl⟩:=List.getElem_of_mem hb;exact hqq x hx (by omega)
      ·exact hq j hj hj' (by omega)
    ·refine zQe (by simp only[Z.ine,Z.ofN,Z.len,bne_iff_ne,ne_eq,←s1];exact he) ?_
     rw[yJy fun hh=>he (hh.2.2 i h h').1]
     rfl
   ·refine zQd (decide_eq_false (by simp only[Z.ofN,Z.len];omega)) ?_
    rw[vJu ⟨hm,hlen,fun i h h'=>hq i h h' (by omega)⟩]
    rfl
  ·refine zQe (by simp only[Z.ine,Z.ofN,Z.len,bne_iff_ne,ne_eq];omega) ?_
   rw[yJy fun h=>hlen h.2.1]
   rfl
theorem xKe{c:CfgT}(hm:mayB c=true):yQ4 c=some (nwS c,()):=by
 unfold yQ4;obtain⟨N,_⟩:=zJ6 hm;have hal:=zYw c;have hsl:=yZ6 c;have hnl:=yYj c;refine zQm (y:=allS c) (zY4 N) ?_;refine zQa rfl ?_;refine zQn (fun(s:Int×List Lev)=>∃i:Nat,i≤(allS c).length∧s=((i:Int),(nwS c).take i)) (fun s=>(allS c).length-s.1.toNat) ?_ ⟨0,Qw _,rfl⟩ (zXd _ _ (by omega))
 rintro s k ⟨i,hi,rfl⟩ hk;dsimp only;by_cases ha:i<(allS c).length
 ·have h':i<(shS c).length:=by omega
  obtain⟨m1,m2,m3⟩:=wZh N _ (Qh ha);obtain⟨pw1,pw2⟩:=xZa m1;have hh:=yYl.1 m1;have e:(nwS c)[i]'(by omega)=List.replicate (2*2^(allS c)[i].2.2.1.toNat-1:Int).toNat (List.replicate (8+(allS c)[i].2.2.2.1).toNat 0):=by simp[nwS,shS,shp]
  refine zQe (decide_eq_true (by simp only[Z.ofN,Z.len];omega)) ?_
  refine zQa rfl ?_;have hmany:=zJz (allS c)[i].2.2.1 (by omega) (by omega)
  obtain⟨B,hB⟩:∃B:Nat,(2:Int)^(allS c)[i].2.2.1.toNat=(B:Int):=⟨2^(allS c)[i].2.2.1.toNat,by simp⟩
  rw[hB]at pw1 pw2 e hmany;obtain⟨zn,hzn⟩:∃zn:Nat,8+(allS c)[i].2.2.2.1=(zn:Int):=⟨(8+(allS c)[i].2.2.2.1).toNat,by omega⟩
  rw[hzn]at e;have e1:(2*(B:Int)-1).toNat=2*B-1:=by omega
  rw[e1,Int.toNat_natCast]at e;refine zQn (fun(s:Lev×Int)=>∃q:Nat,q≤2*B-1∧s=(List.replicate q (List.replicate zn 0),((q+1:Nat):Int))) (fun s=>2*B-s.2.toNat) ?_ ⟨0,Qw _,rfl⟩ (zXd _ _ (by omega))
  rintro s k2 ⟨q,hq,rfl⟩ hk2;dsimp only;refine zQa (ixND ha) (zQb (zWg (allS c) ha _) ?_);refine zQm hmany ?_;refine zQb (y:=2*(B:Int)) (zY1 (by simp only[Z.mul];omega)) ?_
  by_cases hlt:q<2*B-1
  ·refine zQe (decide_eq_true (by omega)) ?_
   refine zQa (ixND ha) (zQb (zWg (allS c) ha _) ?_);refine zQb (y:=(zn:Int)) ((zY1 (by simp only[Z.add];omega)).trans (by simp only[Z.add];omega)) ?_
   refine zQa (Z.zKh.2 ⟨by omega,Int.le_refl _,by omega,by omega⟩) ?_
   refine zQa (by show 0+zn≤(List.replicate zn (0:Int)).length;simp) ?_
   have sg:Z.seg (Z.rep (α:=Int) (Z.toN (zn:Int)) 0) 0 (Z.toN (zn:Int))=List.replicate zn 0:=by
    show((List.replicate zn (0:Int)).drop 0).take zn=_;rw[Jb,Qf (by simp)]
   rw[sg];refine zWa (bigD (by simp only[Z.len,List.length_replicate];omega) (by show 1≤2000000;omega) (by omega)) ?_
   refine zQa rfl ?_;refine zQb (y:=List.replicate (q+1) (List.replicate zn 0)) (by rw[List.replicate_succ'];first|done|rfl) ?_
   refine zQb (zQ1 (by omega)) ?_
   refine zQa rfl ?_;exact hk2 _ ⟨q+1,by omega,rfl⟩ (by show 2*B-((q+1+1:Nat):Int).toNat<2*B-((q+1:Nat):Int).toNat;omega)
  ·refine zQd (decide_eq_false (by omega)) ?_
   have hq2:q=2*B-1:=by omega
   subst hq2;refine zQa (Qg _) ?_;refine zWa (bigD (by simp only[Z.len,J1];omega) (by show 1≤2000000;omega) (by omega)) ?_
   refine zQa rfl ?_;refine zQb (y:=(nwS c).take (i+1)) ?_ ?_
   ·show(nwS c).take i++[List.replicate (2*B-1) (List.replicate zn 0)]=_
    rw[Qr (by omega),e]
   refine zQb (zQ1 (by omega)) ?_
   refine zQa rfl ?_;exact hk _ ⟨i+1,ha,rfl⟩ (by show(allS c).length-((i+1:Nat):Int).toNat<(allS c).length-((i:Int)).toNat;omega)
 ·refine zQd (decide_eq_false (by simp only[Z.ofN,Z.len];omega)) ?_
  rw[Qf (by omega)]
end Go.Proofs.Ytghnechjgchajaa
