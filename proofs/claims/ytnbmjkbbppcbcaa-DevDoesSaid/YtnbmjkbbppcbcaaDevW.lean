/- Devices: what the document's writing puts. -/
import Derived.Test.YtnbmjkbbppcbcaaDevR
import Derived.Test.YtnbmjkbbppcbcaaDevV
namespace Go.Proofs.Ytnbmjkbbppcbcaa
open Go.Eng
set_option linter.unusedVariables false
set_option linter.unusedSimpArgs false
theorem put_sp{c:CfgT}{d:List Lev}{level:Int}{at_:List Int}{all:List Byt}(hok:zYe c d)(hw:wrOk d level at_ all)(ha:at_.length≤1000000):yZn ((d,()),(level,(at_,all)))=some ((wrs d level at_ all,()),zZ9 2 level at_ all):=by
 unfold yZn;dsimp only;obtain⟨b1,b2⟩:=zJv hok;have hlen:=hw.2.1;refine zQw (twinR d (wXy hok)) ?_;refine zQa rfl ?_;refine zQt (fun(s:List SeeT×(Int×List Lev))=>∃q:Nat,q≤at_.length∧s=(zZ9 2 level (at_.take q) (all.take q),((q:Int),wrs d level (at_.take q) (all.take q)))) (fun s=>at_.length-s.2.1.toNat) ?_ ⟨0,Q8 _,rfl⟩ (zZb _ _ (by omega))
 rintro s k ⟨q,hq,rfl⟩ hk;dsimp only;have hd:=(wZf hok hw q hq).1;by_cases hlt:q<at_.length
 ·have hlt':q<all.length:=by omega
  have hs:=yYp d level hlt hlt';obtain⟨i,hi,hie,hat⟩:=zYr hw.1;obtain⟨x,hx,hxe⟩:=hat q hlt;have hlq:=hw.2.2 q hlt hlt';rw[hxe]at hs hlq;subst hie;rw[yYe hi hx]at hlq
  have b3:=b2 _ (Qr hi);have hbl:=b3.2 _ (Qr hx);have hn:=zJu hd;have t2:(zZ9 2 (i:Int) (at_.take q) (all.take q)).length=q:=by simp[zZ9];omega
  generalize wrs d (i:Int) (at_.take q) (all.take q)=D at *;have hi':i<D.length:=by omega
  have hL:=zKh hd hi hi';have hLl:=zY5 hL;have hgD:D.getD i []=D[i]:=by simp[List.getD,hi']
  rw[wZg hi']at hs;have er:Z.xrow i d[i]=.ref i 0 d[i].length d[i].length:=wQ1 (by omega)
  have hx':x<D[i].length:=by omega
  refine zQo (decide_eq_true (by simp only[Z.ofN,Z.len];omega)) ?_
  refine zQa ⟨by omega,by show(i:Int).toNat<d.length;omega⟩ ?_
  have p2:Z.XPt [yQk d d.length] (.ref 0 0 d.length d.length:MixE (MixE Byt)) (Z.toN (i:Int)):=by simp[Z.XPt,MixE.xpt,zJ4,Z.toN,hi]
  refine zQa p2 (zQa p2 ?_);refine zQc (y:=MixE.ref i 0 d[i].length d[i].length) ?_ ?_
  ·show(yQk d d.length).getD (0+i) _=_
   rw[Ju,←er];simp[yQk,List.getD,hi]
  have ga:=(zW0 at_ hlt 0).trans hxe;have gl:=zW0 all hlt' ([]:List Int);refine zQa (ixND hlt) (zQc ga ?_);refine zQc (sub1 (by omega)) ?_
  refine zQa (ixND hlt') (zQc gl ?_);refine zQa (Qf _) ?_;refine zWv (bigD (by show 0≤2000000;omega) (by simp only[Z.len];omega) (by omega)) ?_
  refine zQc (y:=all[q]) (segV _) ?_;refine zQa ⟨by omega,by show(x:Int).toNat<d[i].length;omega⟩ ?_
  have q2:Z.XPt D (.ref i 0 d[i].length d[i].length:MixE Byt) (Z.toN (x:Int)):=by
   simp only[Z.XPt,MixE.xpt,hgD,decide_eq_true hi'];simp[Z.toN,hLl,hx']
  refine zQa q2 (zQa q2 ?_);refine zQc (y:=D.set i (D[i].set x all[q])) ?_ ?_
  ·show D.set i ((D.getD i []).set (0+x) _)=_
   rw[hgD,Ju]
  refine zQa (ixND hlt) (zQc ga ?_);refine zQa (ixND hlt') (zQc gl ?_);refine zQa (Qf _) ?_;refine iteN (by show¬all[q].length=0;omega) ?_
  refine zWv (bigD (by show 0≤2000000;omega) (by simp only[Z.len];omega) (by omega)) ?_
  refine zQc (y:=all[q]) (segV _) ?_;refine zQa (by show 0+all[q].length≤all[q].length;omega) ?_
  rw[vJr];refine zWv (bigD (by simp only[Z.len];omega) (by show 1≤2000000;omega) (by omega)) ?_
  refine zQa rfl ?_;refine zQc (y:=zZ9 2 (i:Int) (at_.take (q+1)) (all.take (q+1))) ?_ ?_
  ·show _++[(2,((i:Int),(((x+1:Nat):Int),(all[q],()))))]=_
   rw[yZk hlt hlt',hxe]
  refine zQc (zW2 (by omega)) ?_
  refine zQa rfl ?_;exact hk _ ⟨q+1,hlt,by rw[hs]⟩ (by show at_.length-((q+1:Nat):Int).toNat<at_.length-((q:Int)).toNat;omega)
 ·refine zQm (decide_eq_false (by simp only[Z.ofN,Z.len];omega)) ?_
  rw[Qg (by omega),Qg (by omega)]at hd⊢
  clear hk;generalize wrs d level at_ all=D at *;have hn:=zJu hd;refine zQa (by simp[Z.XOk,MixE.xok,zJ4]) ?_
  have hx:Z.xget [yQk d d.length] (.ref 0 0 d.length d.length:MixE (MixE Byt))=yQk d d.length:=by
   show((yQk d d.length).drop 0).take d.length=_;rw[J3,Qg (by rw[zJ4];omega)]
  rw[hx];refine zQw (yQ3 (r:=D) (by rw[zJ4];omega) fun i h h'=>?_) rfl
  have hi:i<d.length:=by rw[zJ4]at h;exact h
  have hL:=zKh hd hi h';have hLl:=zY5 hL;have b3:=b2 _ (Qr hi);have e:(yQk d d.length)[i]=.ref i 0 d[i].length d[i].length:=by
   rw[←wQ1 (by omega)]
   simp[yQk,List.getD,hi]
  rw[e];have hgD:D.getD i []=D[i]:=by simp[List.getD,h']
  refine zQa (by simp only[Z.XOk,MixE.xok,hgD,decide_eq_true h'];simp[hLl]) ?_
  refine zQc (y:=D[i]) ?_ rfl;show((D.getD i []).drop 0).take d[i].length=D[i];rw[hgD,J3,Qg (by omega)]
end Go.Proofs.Ytnbmjkbbppcbcaa
