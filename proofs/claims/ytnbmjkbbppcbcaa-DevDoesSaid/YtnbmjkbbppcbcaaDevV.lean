/- Devices: what the document's reading gets. -/
import Derived.Test.YtnbmjkbbppcbcaaDevC
namespace Go.Proofs.Ytnbmjkbbppcbcaa
open Go.Eng
set_option linter.unusedVariables false
set_option linter.unusedSimpArgs false
theorem segV{α:Type}(l:List α):Z.app (Z.seg ([]:List α) 0 0) l=l:=rfl
theorem vJr{α:Type}(l:List α):Z.seg l 0 (Z.len l)=l:=by
 show(l.drop 0).take l.length=l;rw[J3,Qg (Qf _)]
theorem got_sp{c:CfgT}{d:List Lev}{level:Int}{at_:List Int}(hok:zYe c d)(hp:plD d level at_)(ha:at_.length≤1000000):yZo ((d,()),(level,at_))=some (at_.map (bkt d level),zZ9 1 level at_ (at_.map (bkt d level))):=by
 unfold yZo;dsimp only;refine zQa rfl (zQa rfl ?_);obtain⟨i,hi,rfl,hat⟩:=zYr hp;obtain⟨b1,b2⟩:=zJv hok;have b3:=b2 _ (Qr hi);have hml:(at_.map (bkt d (i:Int))).length=at_.length:=by simp
 refine zQt (fun(s:List Byt×(List SeeT×Int))=>∃q:Nat,q≤at_.length∧s=((at_.map (bkt d (i:Int))).take q,(zZ9 1 (i:Int) (at_.take q) ((at_.map (bkt d (i:Int))).take q),(q:Int)))) (fun s=>at_.length-s.2.2.toNat) ?_ ⟨0,Q8 _,rfl⟩ (zZb _ _ (by omega))
 rintro s k ⟨q,hq,rfl⟩ hk;dsimp only;by_cases hlt:q<at_.length
 ·obtain⟨x,hx,hxe⟩:=hat q hlt
  refine zQo (decide_eq_true (by simp only[Z.ofN,Z.len];omega)) ?_
  refine zQa (ixND hi) (zQc (zW0 d hi _) ?_);refine zQa (ixND hlt) (zQc ((zW0 at_ hlt _).trans hxe) ?_);refine zQc (sub1 (by omega)) ?_
  refine zQa (ixND hx) (zQc (zW0 d[i] hx _) ?_);have hbl:=b3.2 _ (Qr hx);have hme:(at_.map (bkt d (i:Int)))[q]'(by omega)=d[i][x]:=by
   rw[List.getElem_map,hxe,yYe hi hx]
  have t1:((at_.map (bkt d (i:Int))).take q).length=q:=by rw[Jn];omega
  have t2:(zZ9 1 (i:Int) (at_.take q) ((at_.map (bkt d (i:Int))).take q)).length=q:=by simp[zZ9];omega
  refine zQa (Qf _) ?_;refine zWv (bigD (by show 0≤2000000;omega) (by simp only[Z.len];omega) (by omega)) ?_
  refine zQc (y:=d[i][x]) (segV _) ?_;refine zQa (Qf _) ?_;refine zWv (bigD (by simp only[Z.len];omega) (by show 1≤2000000;omega) (by omega)) ?_
  refine zQa rfl ?_;refine zQc (y:=(at_.map (bkt d (i:Int))).take (q+1)) ?_ ?_
  ·show _++[d[i][x]]=_
   rw[Qx (by omega),hme]
  refine zQa (ixND hlt) (zQc ((zW0 at_ hlt _).trans hxe) ?_);refine zQa (Qf _) ?_;refine iteN (by show¬d[i][x].length=0;omega) ?_
  refine zWv (bigD (by show 0≤2000000;omega) (by simp only[Z.len];omega) (by omega)) ?_
  refine zQc (y:=d[i][x]) (segV _) ?_;refine zQa (by show 0+d[i][x].length≤d[i][x].length;omega) ?_
  rw[vJr];refine zWv (bigD (by simp only[Z.len];omega) (by show 1≤2000000;omega) (by omega)) ?_
  refine zQa rfl ?_;refine zQc (y:=zZ9 1 (i:Int) (at_.take (q+1)) ((at_.map (bkt d (i:Int))).take (q+1))) ?_ ?_
  ·show _++[(1,((i:Int),(((x+1:Nat):Int),(d[i][x],()))))]=_
   rw[yZk hlt (by omega),hme,hxe]
  refine zQc (zW2 (by omega)) ?_
  refine zQa rfl (zQa rfl ?_);exact hk _ ⟨q+1,hlt,rfl⟩ (by show at_.length-((q+1:Nat):Int).toNat<at_.length-((q:Int)).toNat;omega)
 ·refine zQm (decide_eq_false (by simp only[Z.ofN,Z.len];omega)) ?_
  rw[Qg (by omega),Qg (by omega)]
end Go.Proofs.Ytnbmjkbbppcbcaa
