/- DevDoes answers true. -/
import Derived.Test.YtnbmjkbbppcbcaaDevX
namespace Go.Proofs.Ytnbmjkbbppcbcaa
open Go.Eng
set_option linter.unusedVariables false
set_option linter.unusedSimpArgs false
structure RdOk (rows:Lev) (ms:List (List (MixE Int))) (xx:MixE (MixE Int)):Prop where
  ok:Z.XOk ms xx
  view:Z.mapO (fun(e14:MixE (Int))=>
 if(Z.XOk rows e14)then Z.bnd (Z.xget rows e14) fun(x17:List (Int))=>
 some x17
 else none) (Z.xget ms xx)=some rows
  over:∀(fin:Option Bool),fin=some true→Z.loop (fun(s110:(Int)×(List (List (Int)))) k111=>
 (bif (Z.ilt s110.1 (Z.ofN (Z.xlen xx)))then Z.loop (fun(s112:(Int)×(List (List (Int)))) k113=>
 if(Z.Ix s110.1 (Z.xlen xx))then if(Z.XPt ms xx (Z.toN s110.1))then if(Z.XPt ms xx (Z.toN s110.1))then Z.bnd (Z.xat ms xx (Z.toN s110.1) (MixE.nil:MixE (Int))) fun(x120:MixE (Int))=>
 (bif (Z.ilt s112.1 (Z.ofN (Z.xlen x120)))then if(Z.Ix s110.1 (Z.xlen xx))then if(Z.XPt ms xx (Z.toN s110.1))then if(Z.XPt ms xx (Z.toN s110.1))then Z.bnd (Z.xat ms xx (Z.toN s110.1) (MixE.nil:MixE (Int))) fun(x127:MixE (Int))=>
 if(Z.Ix s110.1 (Z.xlen xx))then if(Z.XPt ms xx (Z.toN s110.1))then if(Z.XPt ms xx (Z.toN s110.1))then Z.bnd (Z.xat ms xx (Z.toN s110.1) (MixE.nil:MixE (Int))) fun(x134:MixE (Int))=>
 if(Z.Ix s112.1 (Z.xlen x134))then if(Z.XPt s112.2 x134 (Z.toN s112.1))then if(Z.XPt s112.2 x134 (Z.toN s112.1))then Z.bnd (Z.xat s112.2 x134 (Z.toN s112.1) 0) fun(x141:Int)=>
 Z.bnd (Z.wrap .u8 (Z.add x141 1)) fun(x142:Int)=>
 if(Z.Ix s112.1 (Z.xlen x127))then if(Z.XPt s112.2 x127 (Z.toN s112.1))then if(Z.XPt s112.2 x127 (Z.toN s112.1))then Z.bnd (Z.xset s112.2 x127 (Z.toN s112.1) x142) fun(x149:List (List (Int)))=>
 Z.bnd (Z.wrap .i64 (Z.add s112.1 1)) fun(x150:Int)=>
 k113 (x150,x149)
 else none
 else none
 else none
 else none
 else none
 else none
 else none
 else none
 else none
 else none
 else none
 else none
 else Z.bnd (Z.wrap .i64 (Z.add s110.1 1)) fun(x151:Int)=>
 k111 (x151,s112.2))
 else none
 else none
 else none) (0,s110.2)
 else fin)) (0,rows)=some true
structure WrOk (qs:Lev) (p1:List (List (MixE Int))) (p2:List (List (MixE (MixE Int)))) (xx:MixE (MixE (MixE Int))) (D:List Lev):Prop where
  ok:Z.XOk p2 xx
  view:Z.mapO (fun(e25:MixE (MixE (Int)))=>
 if(Z.XOk p1 e25)then Z.bind (Z.mapO (fun(e28:MixE (Int))=>
 if(Z.XOk qs e28)then Z.bnd (Z.xget qs e28) fun(x31:List (Int))=>
 some x31
 else none) (Z.xget p1 e25)) fun(x32:List (List (Int)))=>
 some x32
 else none) (Z.xget p2 xx)=some D
  over:∀(fin:Option Bool),fin=some true→Z.loop (fun(s37:(Int)×(List (List (Int)))) k38=>
 (bif (Z.ilt s37.1 (Z.ofN (Z.xlen xx)))then Z.loop (fun(s39:(Int)×(List (List (Int)))) k40=>
 if(Z.Ix s37.1 (Z.xlen xx))then if(Z.XPt p2 xx (Z.toN s37.1))then if(Z.XPt p2 xx (Z.toN s37.1))then Z.bnd (Z.xat p2 xx (Z.toN s37.1) (MixE.nil:MixE (MixE (Int)))) fun(x47:MixE (MixE (Int)))=>
 (bif (Z.ilt s39.1 (Z.ofN (Z.xlen x47)))then Z.loop (fun(s48:(Int)×(List (List (Int)))) k49=>
 if(Z.Ix s37.1 (Z.xlen xx))then if(Z.XPt p2 xx (Z.toN s37.1))then if(Z.XPt p2 xx (Z.toN s37.1))then Z.bnd (Z.xat p2 xx (Z.toN s37.1) (MixE.nil:MixE (MixE (Int)))) fun(x56:MixE (MixE (Int)))=>
 if(Z.Ix s39.1 (Z.xlen x56))then if(Z.XPt p1 x56 (Z.toN s39.1))then if(Z.XPt p1 x56 (Z.toN s39.1))then Z.bnd (Z.xat p1 x56 (Z.toN s39.1) (MixE.nil:MixE (Int))) fun(x63:MixE (Int))=>
 (bif (Z.ilt s48.1 (Z.ofN (Z.xlen x63)))then if(Z.Ix s37.1 (Z.xlen xx))then if(Z.XPt p2 xx (Z.toN s37.1))then if(Z.XPt p2 xx (Z.toN s37.1))then Z.bnd (Z.xat p2 xx (Z.toN s37.1) (MixE.nil:MixE (MixE (Int)))) fun(x70:MixE (MixE (Int)))=>
 if(Z.Ix s39.1 (Z.xlen x70))then if(Z.XPt p1 x70 (Z.toN s39.1))then if(Z.XPt p1 x70 (Z.toN s39.1))then Z.bnd (Z.xat p1 x70 (Z.toN s39.1) (MixE.nil:MixE (Int))) fun(x77:MixE (Int))=>
 if(Z.Ix s37.1 (Z.xlen xx))then if(Z.XPt p2 xx (Z.toN s37.1))then if(Z.XPt p2 xx (Z.toN s37.1))then Z.bnd (Z.xat p2 xx (Z.toN s37.1) (MixE.nil:MixE (MixE (Int)))) fun(x84:MixE (MixE (Int)))=>
 if(Z.Ix s39.1 (Z.xlen x84))then if(Z.XPt p1 x84 (Z.toN s39.1))then if(Z.XPt p1 x84 (Z.toN s39.1))then Z.bnd (Z.xat p1 x84 (Z.toN s39.1) (MixE.nil:MixE (Int))) fun(x91:MixE (Int))=>
 if(Z.Ix s48.1 (Z.xlen x91))then if(Z.XPt s48.2 x91 (Z.toN s48.1))then if(Z.XPt s48.2 x91 (Z.toN s48.1))then Z.bnd (Z.xat s48.2 x91 (Z.toN s48.1) 0) fun(x98:Int)=>
 Z.bnd (Z.wrap .u8 (Z.add x98 1)) fun(x99:Int)=>
 if(Z.Ix s48.1 (Z.xlen x77))then if(Z.XPt s48.2 x77 (Z.toN s48.1))then if(Z.XPt s48.2 x77 (Z.toN s48.1))then Z.bnd (Z.xset s48.2 x77 (Z.toN s48.1) x99) fun(x106:List (List (Int)))=>
 Z.bnd (Z.wrap .i64 (Z.add s48.1 1)) fun(x107:Int)=>
 k49 (x107,x106)
 else none
 else none
 else none
 else none
 else none
 else none
 else none
 else none
 else none
 else none
 else none
 else none
 else none
 else none
 else none
 else none
 else none
 else none
 else Z.bnd (Z.wrap .i64 (Z.add s39.1 1)) fun(x108:Int)=>
 k40 (x108,s48.2))
 else none
 else none
 else none
 else none
 else none
 else none) (0,s39.2)
 else Z.bnd (Z.wrap .i64 (Z.add s37.1 1)) fun(x109:Int)=>
 k38 (x109,s39.2))
 else none
 else none
 else none) (0,s37.2)
 else fin)) (0,qs)=some true
theorem rdNil:RdOk [] [] .nil:=by
 refine⟨by simp[Z.XOk,MixE.xok],rfl,fun fin hf=>?_⟩
 refine zQt (fun(s:Int×List Byt)=>s.1=0) (fun s=>0) ?_ rfl (by omega)
 rintro s k hs hk;exact zQm (by rw[hs];rfl) hf
theorem wrNil:WrOk [] [] [] .nil []:=by
 refine⟨by simp[Z.XOk,MixE.xok],rfl,fun fin hf=>?_⟩
 refine zQt (fun(s:Int×List Byt)=>s.1=0) (fun s=>0) ?_ rfl (by omega)
 rintro s k hs hk;exact zQm (by rw[hs];rfl) hf
theorem wrGood{d D:List Lev}(hb:DevB d)(hd:dims d=dims D):WrOk (qD D) (p1D d d.length) [p2D d d.length] (.ref 0 0 d.length d.length) D:=
 ⟨(wKx hd).1,(wKx hd).2,fun fin hf=>wJh hb D hd hf⟩
theorem wZv(l:List Byt){i:Nat}(h:i<l.length)(hp:0<l[i].length)(h':i<(zJ3 l l.length).length):(zJ3 l l.length)[i]=.ref i 0 l[i].length l[i].length:=by
 rw[←wQ1 (j:=i) (L:=l[i]) (by omega)]
 simp[zJ3,List.getD,h]
theorem rdGood(l:List Byt)(hl:l.length≤1000000)(hp:∀b∈l,0<b.length∧b.length≤1000000):RdOk l [zJ3 l l.length] (.ref 0 0 l.length l.length):=by
 have hx:Z.xget [zJ3 l l.length] (.ref 0 0 l.length l.length:MixE (MixE Int))=zJ3 l l.length:=by
  show((zJ3 l l.length).drop 0).take l.length=_;rw[J3,Qg (by rw[zK6];omega)]
 refine⟨by simp[Z.XOk,MixE.xok,zK6], ?_,fun fin hf=>?_⟩
 ·rw[hx]
  refine yQ3 (by rw[zK6]) fun i h h'=>?_
  have hb:=hp _ (Qr h');rw[wZv l h' hb.1 h];have hgD:l.getD i []=l[i]:=by simp[List.getD,h']
  refine zQa (by simp only[Z.XOk,MixE.xok,hgD,decide_eq_true h'];simp) ?_
  refine zQc (y:=l[i]) ?_ rfl;show((l.getD i []).drop 0).take l[i].length=l[i];rw[hgD,J3,Qg (by omega)]
 ·have at_i:∀{i:Nat} (h:i<l.length),Z.Ix (i:Int) (Z.xlen (.ref 0 0 l.length l.length:MixE (MixE Int)))∧Z.XPt [zJ3 l l.length] (.ref 0 0 l.length l.length:MixE (MixE Int)) (Z.toN (i:Int))∧Z.xat [zJ3 l l.length] (.ref 0 0 l.length l.length:MixE (MixE Int)) (Z.toN (i:Int)) (MixE.nil:MixE Int)=.ref i 0 l[i].length l[i].length:=fun{i} h=>by
   refine⟨⟨by omega,by show(i:Int).toNat<l.length;omega⟩,by simp[Z.XPt,MixE.xpt,zK6,Z.toN,h], ?_⟩
   show(zJ3 l l.length).getD (0+i) _=_;have hb:=hp _ (Qr h);rw[Ju,←wZv l h hb.1 (by rw[zK6];omega)]
   simp[List.getD,zK6,h]
  refine zQt (fun(s:Int×List Byt)=>∃(i:Nat) (D:List Byt),i≤l.length∧s=((i:Int),D)∧dimL l=dimL D) (fun s=>l.length-s.1.toNat) ?_ ⟨0,l,Q8 _,rfl,rfl⟩ (zZb _ _ (by omega))
  rintro s k1 ⟨i,D,hi,rfl,hd⟩ hk1;dsimp only;by_cases h:i<l.length
  ·refine zQo (decide_eq_true (by simp only[Z.ofN,Z.xlen];omega)) ?_
   obtain⟨p1,p2,p3⟩:=at_i h;have hb:=hp _ (Qr h);refine zQt (fun(s:Int×List Byt)=>∃(q:Nat) (D:List Byt),q≤l[i].length∧s=((q:Int),D)∧dimL l=dimL D) (fun s=>l[i].length-s.1.toNat) ?_ ⟨0,D,Q8 _,rfl,hd⟩ (zZb _ _ (by omega))
   clear hd;rintro s k2 ⟨q,D,hq,rfl,hd⟩ hk2;dsimp only;refine zQa p1 (zQa p2 (zQa p2 (zQc p3 ?_)));by_cases hqlt:q<l[i].length
   ·refine zQo (decide_eq_true (by simp only[Z.ofN,Z.xlen];omega)) ?_
    have hn:=zY5 hd;have hi':i<D.length:=by omega
    have he:=yW4 hd h hi';have hgD:D.getD i []=D[i]:=by simp[List.getD,hi']
    have b1:Z.Ix (q:Int) (Z.xlen (.ref i 0 l[i].length l[i].length:MixE Int)):=⟨by omega,by show(q:Int).toNat<l[i].length;omega⟩
    have b2:Z.XPt D (.ref i 0 l[i].length l[i].length:MixE Int) (Z.toN (q:Int)):=by
     simp only[Z.XPt,MixE.xpt,hgD,decide_eq_true hi'];simp[Z.toN,he];omega
    refine zQa p1 (zQa p2 (zQa p2 (zQc p3 ?_)));refine zQa p1 (zQa p2 (zQa p2 (zQc p3 ?_)));refine zQa b1 (zQa b2 (zQa b2 (zQc rfl (zQc rfl ?_))));refine zQa b1 (zQa b2 (zQa b2 (zQc (y:=D.set i (D[i].set q (Z.wrap .u8 (Z.add (Z.xat D (.ref i 0 l[i].length l[i].length:MixE Int) (Z.toN (q:Int)) 0) 1)))) ?_ ?_)))
    ·show D.set i ((D.getD i []).set (0+q) _)=_
     rw[hgD,Ju]
    refine zQc (zW2 (by omega)) ?_
    refine hk2 _ ⟨q+1,_,hqlt,rfl, ?_⟩ (by show l[i].length-((q+1:Nat):Int).toNat<l[i].length-((q:Int)).toNat;omega)
    rw[hd];unfold dimL;rw[Q3,List.length_set];refine(List.ext_getElem (by simp) fun j h1 h2=>?_)
    by_cases e:i=j
    ·subst e;simp
    ·simp[List.getElem_set_ne e]
   ·refine zQm (decide_eq_false (by simp only[Z.ofN,Z.xlen];omega)) ?_
    refine zQc (zW2 (by omega)) ?_
    exact hk1 _ ⟨i+1,D,h,rfl,hd⟩ (by show l.length-((i+1:Nat):Int).toNat<l.length-((i:Int)).toNat;omega)
  ·refine zQm (decide_eq_false (by simp only[Z.ofN,Z.xlen];omega)) ?_
   exact hf
theorem rdBoth(c:CfgT)(d:List Lev)(level:Int)(at_:List Int)(ha:at_.length≤1000):∃rows ms xx sees e,rdR c d level at_=((rows,ms),(xx,(sees,e)))∧rdD c d level at_=(rows,(sees,e))∧RdOk rows ms xx∧sees.length≤1000∧rows.length≤1000:=by
 unfold rdR rdD;by_cases hok:zYe c d
 ·rw[if_pos hok,if_pos hok]
  by_cases hp:plD d level at_
  ·rw[if_pos hp,if_pos hp]
   have hml:(at_.map (bkt d level)).length=at_.length:=by simp
   refine⟨_,_,_,_,_,rfl,rfl, ?_,by rw[xYj _ _ _ _ hml];omega,by omega⟩
   have g:=rdGood (at_.map (bkt d level)) (by omega) fun b hb=>by
    obtain⟨x,hx,rfl⟩:=Q9.1 hb;obtain⟨i,hi,rfl,hat⟩:=zYr hp;obtain⟨q,hq,rfl⟩:=List.getElem_of_mem hx;obtain⟨k,hk,hke⟩:=hat q hq;rw[hke,yYe hi hk];have:=((zJv hok).2 _ (Qr hi)).2 _ (Qr hk)
    omega
   rw[hml]at g;exact g
  ·rw[if_neg hp,if_neg hp]
   exact⟨_,_,_,_,_,rfl,rfl,rdNil,by simp,by simp⟩
 ·rw[if_neg hok,if_neg hok]
  exact⟨_,_,_,_,_,rfl,rfl,rdNil,by simp,by simp⟩
theorem wrBoth(c:CfgT)(d:List Lev)(level:Int)(at_:List Int)(all:List Byt)(ha:at_.length≤1000):∃qs p1 p2 xx D sees e,wrR c d level at_ all=((qs,(p1,p2)),((xx,()),(sees,e)))∧wrD c d level at_ all=((D,()),(sees,e))∧WrOk qs p1 p2 xx D∧sees.length≤1000∧D.length≤1000∧∀L∈D,L.length≤1000:=by
 unfold wrR wrD;by_cases hok:zYe c d
 ·rw[if_pos hok,if_pos hok]
  by_cases hw:wrOk d level at_ all
  ·rw[if_pos hw,if_pos hw]
   have hd:=vZq hok hw;obtain⟨b1,b2⟩:=zJv (uKu hd hok);exact⟨_,_,_,_,_,_,_,rfl,rfl,wrGood (wXy hok) hd,by rw[xYj _ _ _ _ hw.2.1];omega,by omega,fun L hL=>by have:=(b2 L hL).1;omega⟩
  ·rw[if_neg hw,if_neg hw]
   exact⟨_,_,_,_,_,_,_,rfl,rfl,wrNil,by simp,by simp,by simp⟩
 ·rw[if_neg hok,if_neg hok]
  exact⟨_,_,_,_,_,_,_,rfl,rfl,wrNil,by simp,by simp,by simp⟩
theorem wXz(c:CfgT)(d:List Lev)(level:Int)(at_:List Int)(all:List Byt):zK2 (c,((d,()),(level,(at_,all))))=some true:=by
 unfold zK2;dsimp only;refine wKl (fun j=>j=true∨(j=false∧yXn d=false∧at_.length≤20∧all.length≤20∧∀b∈all,b.length≤1000)) (fun j hj=>?_) (fun k hk=>?_)
 ·rcases hj with rfl|⟨rfl,gd,ha,hb,hbb⟩
  ·exact zQo rfl rfl
  refine zQm rfl ?_;have hB:=uJc gd;obtain⟨g1,g2⟩:=wKp gd;have i1:d.length≤1000000000:=by omega
  have i2:∀L∈d,L.length≤1000000000:=fun L hL=>by have:=(g2 L hL).1;omega
  have hfl:all.flatten.length≤1000000:=by
   have:=xZo hbb;have:1000*all.length≤1000*20:=Nat.mul_le_mul_left _ hb;omega
  refine zQw (twinG d hB) ?_;refine zQw (xZ6 all (by omega) hfl) ?_
  refine zQw (readR c d level at_ i1 i2 (by omega)) ?_
  refine zQw (readD c d level at_ i1 i2 (by omega)) ?_
  refine zQw (writeR c d level at_ all i1 i2 (by omega) (by omega)) ?_
  refine zQw (writeD c d level at_ all i1 i2 (by omega) (by omega)) ?_
  obtain⟨rows,ms,xx,sees,e,e1,e2,r1,r2,r3⟩:=rdBoth c d level at_ (by omega)
  obtain⟨qs,p1,p2,yy,D,sees2,e',e3,e4,w1,w2,w3,w4⟩:=wrBoth c d level at_ all (by omega)
  rw[e1,e2,e3,e4];clear e1 e2 e3 e4;dsimp only;refine wKl (fun j=>j=true) (fun j21 hj21=>?_) (fun k hk=>?_)
  ·refine wKl (fun j=>j=true) (fun j36 hj36=> ?_) (fun k hk=> ?_)
   ·refine w1.over _ ?_
    refine r1.over _ ?_;subst hj21 hj36;refine wKl (fun j=>j=true) (fun j hj=>by rw[hj]) (fun k hk=>?_)
    refine zQo rfl (zQo rfl ?_);refine zQw (yZm d d i1 i2) ?_;rw[decide_eq_true rfl];refine zQo rfl ?_;refine zQw (zKo all all (by omega)) ?_
    rw[decide_eq_true rfl];refine zQo rfl ?_;refine zQw (zKz sees (by omega)) ?_
    refine zQo rfl ?_;exact zQw (zKz sees2 (by omega)) (hk _ rfl)
   ·refine zQa w1.ok (zQw w1.view ?_)
    refine zQw (yZm D D (by omega) (fun L hL=>by have:=w4 L hL;omega)) ?_
    rw[decide_eq_true rfl];refine zQo rfl ?_;refine zQw (zKz sees2 (by omega)) ?_
    exact zQo rfl (hk _ (by simp[Z.zQ3,Z.ieq]))
  ·refine zQa r1.ok (zQw r1.view ?_)
   refine zQw (zKo rows rows (by omega)) ?_
   rw[decide_eq_true rfl];refine zQo rfl ?_;refine zQw (zKz sees (by omega)) ?_
   exact zQo rfl (hk _ (by simp[Z.zQ3,Z.ieq]))
 ·refine zQw (xW5 d) ?_
  cases gd:yXn d with
  |true=>exact zQo rfl (hk _ (.inl rfl))
  | false=>
   refine zQm rfl ?_;by_cases ha:at_.length≤20
   ·refine zQm (by simp only[Z.zQ3,Z.igt,Z.ofN,Z.len];simp;omega) ?_
    obtain⟨g,hg,hgl⟩:=vKu all;refine zQw hg ?_;cases g with
    |true=>exact hk _ (.inl rfl)
    |false=>exact hk _ (.inr ⟨rfl,gd,ha,hgl rfl⟩)
   ·exact zQo (by simp only[Z.zQ3,Z.igt,Z.ofN,Z.len];simp;omega) (hk _ (.inl rfl))
theorem yZ8(d:Els zZy.args)(hf:Fits zZy.args d):zK2 d=some true:=by
 obtain⟨c,⟨d,_⟩,level,at_,all⟩:=d;exact wXz c d level at_ all
end Go.Proofs.Ytnbmjkbbppcbcaa
