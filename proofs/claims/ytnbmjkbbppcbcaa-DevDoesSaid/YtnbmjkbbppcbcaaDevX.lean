/- Devices: written, rows in places; the document's reading and writing. -/
import Derived.Test.YtnbmjkbbppcbcaaDevW
import Derived.Test.YtnbmjkbbppcbcaaDevS
namespace Go.Proofs.Ytnbmjkbbppcbcaa
open Go.Eng
set_option linter.unusedVariables false
set_option linter.unusedSimpArgs false
open Classical in
noncomputable def wrR(c:CfgT)(d:List Lev)(level:Int)(at_:List Int)(all:List Byt):(List Byt×(List (List (MixE Int))×List (List (MixE (MixE Int)))))×((MixE (MixE (MixE Int))×Unit)×(List SeeT×Int)):=
 if zYe c d then(if wrOk d level at_ all then((qD (wrs d level at_ all),(p1D d d.length,[p2D d d.length])),((.ref 0 0 d.length d.length,()),(zZ9 2 level at_ all,0)))else(([],([],[])),((.nil,()),([],2))))else(([],([],[])),((.nil,()),([],8)))
theorem writeR(c:CfgT)(d:List Lev)(level:Int)(at_:List Int)(all:List Byt)(hl:d.length≤1000000000)(hL:∀L∈d,L.length≤1000000000)(ha:at_.length≤1000000)(hb:all.length≤1000000):zY6 (c,((d,()),(level,(at_,all))))=some (wrR c d level at_ all):=by
 unfold zY6;dsimp only;refine zQw (yXp c d hl hL) ?_;unfold wrR;rcases xJz c d with⟨h0,hok⟩|⟨h8,hno⟩
 ·rw [h0,if_pos hok]
  refine zQm rfl ?_;refine zQw (yWh d level at_ hl (by omega)) ?_
  by_cases hp:plD d level at_
  ·rw [wJt hp]
   refine zQm rfl ?_;by_cases hlen:all.length=at_.length
   ·refine zQm (by simp[Z.zQ3,Z.ine,Z.ofN,Z.len,hlen]) ?_
    obtain⟨i,hi,rfl,hat⟩:=zYr hp;obtain⟨b1,b2⟩:=zJv hok;have b3:=b2 _ (Qr hi);refine zQt (fun(s:Int)=>∃q:Nat,s=(q:Int)∧q≤at_.length∧∀(j:Nat) (h:j<at_.length) (h':j<all.length),j<q→all[j].length=(bkt d (i:Int) at_[j]).length) (fun s=>at_.length-s.toNat) ?_ ⟨0,rfl,Q8 _,fun _ _ _ h=>absurd h (Nat.not_lt_zero _)⟩ (zZb _ _ (by omega))
    rintro s k ⟨q,rfl,hq,hqq⟩ hk;by_cases hlt:q<at_.length
    ·have hlt':q<all.length:=by omega
     obtain⟨x,hx,hxe⟩:=hat q hlt;have hbk:bkt d (i:Int) at_[q]=d[i][x]:=by rw[hxe,yYe hi hx]
     refine zQo (decide_eq_true (by simp only[Z.ofN,Z.len];omega)) ?_
     refine zQa (ixND hlt) (zQc ((zW0 at_ hlt _).trans hxe) ?_);refine zQa (ixND hlt') (zQc (zW0 all hlt' _) ?_);refine zQa (ixND hi) (zQc (zW0 d hi _) ?_);refine zQc (sub1 (by omega)) ?_
     refine zQa (ixND hx) (zQc (zW0 d[i] hx _) ?_);by_cases he:all[q].length=d[i][x].length
     ·refine zQm (by simp[Z.ine,Z.ofN,Z.len,he]) ?_
      refine zQc (zW2 (by omega)) ?_
      refine hk _ ⟨q+1,rfl,hlt,fun j hj hj' hji=>?_⟩ (by show at_.length-((q+1:Nat):Int).toNat<at_.length-((q:Int)).toNat;omega)
      by_cases e:j=q
      ·subst e;rw[hbk];exact he
      ·exact hqq j hj hj' (by omega)
     ·refine zQo (by simp only[Z.ine,Z.ofN,Z.len,bne_iff_ne,ne_eq];omega) ?_
      rw[if_neg fun h=>he (by rw[←hbk];exact h.2.2 q hlt hlt')]
    ·refine zQm (decide_eq_false (by simp only[Z.ofN,Z.len];omega)) ?_
     have hw:wrOk d (i:Int) at_ all:=⟨hp,hlen,fun j h h'=>hqq j h h' (by omega)⟩
     rw[if_pos hw];clear hk hqq;refine zQw (xWh d (wXy hok)) ?_;refine zQa rfl ?_;refine zQt (fun(s:Int×(List SeeT×List Byt))=>∃q:Nat,q≤at_.length∧s=((q:Int),(zZ9 2 (i:Int) (at_.take q) (all.take q),qD (wrs d (i:Int) (at_.take q) (all.take q))))∧dims d=dims (wrs d (i:Int) (at_.take q) (all.take q))) (fun s=>at_.length-s.1.toNat) ?_ ⟨0,Q8 _,rfl,rfl⟩ (zZb _ _ (by omega))
     rintro s k ⟨q,hq,rfl,hd⟩ hk;dsimp only;by_cases hlt:q<at_.length
     ·have hlt':q<all.length:=by omega
      obtain⟨x,hx,hxe⟩:=hat q hlt;have hbk:bkt d (i:Int) at_[q]=d[i][x]:=by rw[hxe,yYe hi hx]
      have hlq:=hw.2.2 q hlt hlt';rw[hbk]at hlq;have hbl:=b3.2 _ (Qr hx);refine zQo (decide_eq_true (by simp only[Z.ofN,Z.len];omega)) ?_
      refine zQa (ixND hlt) (zQc ((zW0 at_ hlt _).trans hxe) ?_);refine zQa (ixND hlt') (zQc (zW0 all hlt' _) ?_);obtain⟨p1,p2,p3⟩:=vJz hi;refine zQa p1 (zQa p2 (zQa p2 (zQc p3 ?_)))
      refine zQc (sub1 (by omega)) ?_
      obtain⟨q1,q2,q3⟩:=vX2 hi hx;refine zQa q1 (zQa q2 (zQa q2 (zQc q3 ?_)));obtain⟨w1,w2,w3⟩:=vZr hd hi hx all[q] (by omega) (by omega)
      refine zQa w1 (zQc w2 ?_);refine zQw (yJp _ (by omega)) ?_
      refine zQa (Qf _) ?_;have t2:(zZ9 2 (i:Int) (at_.take q) (all.take q)).length=q:=by simp[zZ9];omega
      refine zWv (bigD (by simp only[Z.len];omega) (by show 1≤2000000;omega) (by omega)) ?_
      refine zQa rfl ?_;have hs:=yYp d (i:Int) hlt hlt';rw[hxe]at hs;refine zQc (y:=zZ9 2 (i:Int) (at_.take (q+1)) (all.take (q+1))) ?_ ?_
      ·show _++[(2,((i:Int),(((x+1:Nat):Int),(all[q],()))))]=_
       rw[yZk hlt hlt',hxe]
      refine zQc (zW2 (by omega)) ?_
      refine zQa rfl ?_;rw[←hs];exact hk _ ⟨q+1,hlt,rfl,by rw[hs];exact w3⟩ (by show at_.length-((q+1:Nat):Int).toNat<at_.length-((q:Int)).toNat;omega)
     ·refine zQm (decide_eq_false (by simp only[Z.ofN,Z.len];omega)) ?_
      rw[Qg (by omega),Qg (by omega)]
   ·refine zQo (by simp only[Z.zQ3,Z.ine,Z.ofN,Z.len];simp;omega) ?_
    rw[if_neg fun h=>hlen h.2.1]
  ·rw[xW9 hp,if_neg fun h=>hp h.1]
   exact zQo rfl rfl
 ·rw[h8,if_neg hno]
  exact zQo rfl rfl
theorem readD(c:CfgT)(d:List Lev)(level:Int)(at_:List Int)(hl:d.length≤1000000000)(hL:∀L∈d,L.length≤1000000000)(ha:at_.length≤1000000):yWt (c,((d,()),(level,at_)))=some (rdD c d level at_):=by
 unfold yWt;dsimp only;refine zQw (yJt c d hl hL) ?_;unfold rdD;rcases xJz c d with⟨h0,hok⟩|⟨h8,hno⟩
 ·rw[h0,if_pos hok]
  refine zQm rfl ?_;refine zQw (wK4 d level at_ hl (by omega)) ?_
  by_cases hp:plD d level at_
  ·rw[wJt hp,if_pos hp]
   refine zQm rfl ?_;exact zQw (got_sp hok hp ha) rfl
  ·rw[xW9 hp,if_neg hp]
   exact zQo rfl rfl
 ·rw[h8,if_neg hno]
  exact zQo rfl rfl
theorem writeD(c:CfgT)(d:List Lev)(level:Int)(at_:List Int)(all:List Byt)(hl:d.length≤1000000000)(hL:∀L∈d,L.length≤1000000000)(ha:at_.length≤1000000)(hb:all.length≤1000000):zYn (c,((d,()),(level,(at_,all))))=some (wrD c d level at_ all):=by
 unfold zYn;dsimp only;refine zQw (yJt c d hl hL) ?_;unfold wrD;rcases xJz c d with⟨h0,hok⟩|⟨h8,hno⟩
 ·rw [h0,if_pos hok]
  refine zQm rfl ?_;refine zQw (wK4 d level at_ hl (by omega)) ?_
  by_cases hp:plD d level at_
  ·rw [wJt hp]
   refine zQm rfl ?_;by_cases hlen:all.length=at_.length
   ·refine zQm (by simp[Z.zQ3,Z.ine,Z.ofN,Z.len,hlen]) ?_
    have hp0:=hp;obtain⟨i,hi,rfl,hat⟩:=zYr hp;obtain⟨b1,b2⟩:=zJv hok;have b3:=b2 _ (Qr hi);have h00:0<d[i].length:=by omega
    have same:∀x (hx:x<d[i].length),d[i][x].length=d[i][0].length:=fun x hx=>by
     have hi':i<(shS c).length:=by have:=hok.2.1;omega
     obtain⟨_,hq⟩:=hok.2.2 i hi hi';have q1:=hq _ (Qr h00);have q2:=hq _ (Qr hx);omega
    refine zQt (fun(s:Int)=>∃q:Nat,s=(q:Int)∧q≤all.length∧∀(j:Nat) (h:j<at_.length) (h':j<all.length),j<q→all[j].length=(bkt d (i:Int) at_[j]).length) (fun s=>all.length-s.toNat) ?_ ⟨0,rfl,Q8 _,fun _ _ _ h=>absurd h (Nat.not_lt_zero _)⟩ (zZb _ _ (by omega))
    rintro s k ⟨q,rfl,hq,hqq⟩ hk;by_cases hlt':q<all.length
    ·have hlt:q<at_.length:=by omega
     obtain⟨x,hx,hxe⟩:=hat q hlt;have hbk:bkt d (i:Int) at_[q]=d[i][x]:=by rw[hxe,yYe hi hx]
     refine zQo (decide_eq_true (by simp only[Z.ofN,Z.len];omega)) ?_
     refine zQa (ixND hlt') (zQc (zW0 all hlt' _) ?_);refine zQa (ixND hi) (zQc (zW0 d hi _) ?_);refine zQa (ixND (i:=0) h00) (zQc (zW0 (i:=0) d[i] h00 _) ?_);by_cases he:all[q].length=d[i][0].length
     ·refine zQm (by simp[Z.ine,Z.ofN,Z.len,he]) ?_
      refine zQc (zW2 (by omega)) ?_
      refine hk _ ⟨q+1,rfl,hlt',fun j hj hj' hji=>?_⟩ (by show all.length-((q+1:Nat):Int).toNat<all.length-((q:Int)).toNat;omega)
      by_cases e:j=q
      ·subst e;rw[hbk,same x hx];exact he
      ·exact hqq j hj hj' (by omega)
     ·refine zQo (by simp only[Z.ine,Z.ofN,Z.len,bne_iff_ne,ne_eq];omega) ?_
      rw[if_neg fun h=>he (by rw[←same x hx,←hbk];exact h.2.2 q hlt hlt')]
    ·refine zQm (decide_eq_false (by simp only[Z.ofN,Z.len];omega)) ?_
     have hw:wrOk d (i:Int) at_ all:=⟨hp0,hlen,fun j h h'=>hqq j h h' (by omega)⟩
     rw[if_pos hw];exact zQw (put_sp hok hw ha) rfl
   ·refine zQo (by simp only[Z.zQ3,Z.ine,Z.ofN,Z.len];simp;omega) ?_
    rw[if_neg fun h=>hlen h.2.1]
  ·rw[xW9 hp,if_neg fun h=>hp h.1]
   exact zQo rfl rfl
 ·rw[h8,if_neg hno]
  exact zQo rfl rfl
end Go.Proofs.Ytnbmjkbbppcbcaa
