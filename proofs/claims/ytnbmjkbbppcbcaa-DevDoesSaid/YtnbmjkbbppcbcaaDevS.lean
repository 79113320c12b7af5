/- Devices: what is read, in rows of one's own. -/
import Derived.Test.YtnbmjkbbppcbcaaDevC
namespace Go.Proofs.Ytnbmjkbbppcbcaa
open Go.Eng
set_option linter.unusedVariables false
set_option linter.unusedSimpArgs false
def zJ3(l:List Byt)(n:Nat):List (MixE Int):=(List.range n).map fun j=>Z.xrow j (l.getD j [])
theorem wJk(l:List Byt){i:Nat}(h:i<l.length):zJ3 l (i+1)=zJ3 l i++[Z.xrow i l[i]]:=by
 unfold zJ3;rw[List.range_succ,Qv];simp[List.getD,h]
theorem zK6(l:List Byt)(n:Nat):(zJ3 l n).length=n:=by simp[zJ3]
open Classical in
noncomputable def rdR(c:CfgT)(d:List Lev)(level:Int)(at_:List Int):(List Byt×List (List (MixE Int)))×(MixE (MixE Int)×(List SeeT×Int)):=
 if zYe c d then(if plD d level at_ then((at_.map (bkt d level),[zJ3 (at_.map (bkt d level)) at_.length]),(.ref 0 0 at_.length at_.length,(zZ9 1 level at_ (at_.map (bkt d level)),0)))else(([],[]),(.nil,([],2))))else(([],[]),(.nil,([],8)))
theorem readR(c:CfgT)(d:List Lev)(level:Int)(at_:List Int)(hl:d.length≤1000000000)(hL:∀L∈d,L.length≤1000000000)(ha:at_.length≤1000000):yW7 (c,((d,()),(level,at_)))=some (rdR c d level at_):=by
 unfold yW7;dsimp only;refine zQw (yXp c d hl hL) ?_;unfold rdR;rcases xJz c d with⟨h0,hok⟩|⟨h8,hno⟩
 ·rw [h0,if_pos hok]
  refine zQm rfl ?_;refine zQw (yWh d level at_ hl (by omega)) ?_
  by_cases hp:plD d level at_
  ·rw[wJt hp,if_pos hp]
   refine zQm rfl (zQa rfl ?_);obtain⟨i,hi,rfl,hat⟩:=zYr hp;obtain⟨b1,b2⟩:=zJv hok;have b3:=b2 _ (Qr hi);have hml:(at_.map (bkt d (i:Int))).length=at_.length:=by simp
   refine zQt (fun(s:Int×(List SeeT×(List (List (MixE Int))×(List Byt×MixE (MixE Int)))))=>∃q:Nat,q≤at_.length∧s=((q:Int),(zZ9 1 (i:Int) (at_.take q) ((at_.map (bkt d (i:Int))).take q),([zJ3 (at_.map (bkt d (i:Int))) q],((at_.map (bkt d (i:Int))).take q, .ref 0 0 q q))))) (fun s=>at_.length-s.1.toNat) ?_ ⟨0,Q8 _,rfl⟩ (zZb _ _ (by omega))
   rintro s k ⟨q,hq,rfl⟩ hk;dsimp only;by_cases hlt:q<at_.length
   ·obtain⟨x,hx,hxe⟩:=hat q hlt
    refine zQo (decide_eq_true (by simp only[Z.ofN,Z.len];omega)) ?_
    refine zQa (ixND hlt) (zQc (zW0 at_ hlt _) ?_);refine zQa (ixND hi) (zQc (zW0 d hi _) ?_);rw[hxe];refine zQc (sub1 (by omega)) ?_
    refine zQa (ixND hx) (zQc (zW0 d[i] hx _) ?_);have hbl:=b3.2 _ (Qr hx);have hme:(at_.map (bkt d (i:Int)))[q]'(by omega)=d[i][x]:=by
     rw[List.getElem_map,hxe,yYe hi hx]
    have t1:((at_.map (bkt d (i:Int))).take q).length=q:=by rw[Jn];omega
    have t2:(zZ9 1 (i:Int) (at_.take q) ((at_.map (bkt d (i:Int))).take q)).length=q:=by simp[zZ9];omega
    refine zQw (yJp _ (by omega)) ?_
    refine zQc (y:=(at_.map (bkt d (i:Int))).take (q+1)) ?_ ?_
    ·show _++[d[i][x]]=_
     rw[Qx (by omega),hme]
    refine zQa (by simp[Z.XGr,MixE.xgr,zK6]) ?_
    refine iteN (by show¬(1:Nat)=0;decide) ?_
    refine zWv (bigD (by show q≤2000000;omega) (by show 1≤2000000;omega) (by omega)) ?_
    refine zQc (y:=[zJ3 (at_.map (bkt d (i:Int))) (q+1)]) ?_ ?_
    ·rw[wJk _ (by omega),hme]
     show [zJ3 _ q].set 0 ([zJ3 _ q].getD 0 []++[Z.xrow ((at_.map (bkt d (i:Int))).take q).length d[i][x]])=_;rw[t1];rfl
    refine zQc (y:=MixE.ref 0 0 (q+1) (q+1)) rfl ?_;refine zQw (yJp _ (by omega)) ?_
    refine zQa (Qf _) ?_;refine zWv (bigD (by simp only[Z.len];omega) (by show 1≤2000000;omega) (by omega)) ?_
    refine zQa rfl ?_;refine zQc (y:=zZ9 1 (i:Int) (at_.take (q+1)) ((at_.map (bkt d (i:Int))).take (q+1))) ?_ ?_
    ·show _++[(1,((i:Int),(((x+1:Nat):Int),(d[i][x],()))))]=_
     rw[yZk hlt (by omega),hme,hxe]
    refine zQc (zW2 (by omega)) ?_
    refine zQa rfl ?_;exact hk _ ⟨q+1,hlt,rfl⟩ (by show at_.length-((q+1:Nat):Int).toNat<at_.length-((q:Int)).toNat;omega)
   ·refine zQm (decide_eq_false (by simp only[Z.ofN,Z.len];omega)) ?_
    have hq2:q=at_.length:=by omega
    subst hq2;rw[Qg (by omega),Qg (by omega)]
  ·rw[xW9 hp,if_neg hp]
   exact zQo rfl rfl
 ·rw[h8,if_neg hno]
  exact zQo rfl rfl
end Go.Proofs.Ytnbmjkbbppcbcaa
