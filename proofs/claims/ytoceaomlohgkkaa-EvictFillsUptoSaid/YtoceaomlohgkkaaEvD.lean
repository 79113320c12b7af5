/- Filling rows: may it be asked; the document's answer; the same. -/
import Derived.Test.YtoceaomlohgkkaaEvC
namespace Go.Proofs.Ytoceaomlohgkkaa
open Go.Eng
set_option linter.unusedVariables false
set_option linter.unusedSimpArgs false
theorem vXy(B S H W:Int)(s:List Blk)(hl:s.length<9223372036854775807)(h0:xYb B S H=true):yZf ((B,(S,(H,(W,())))),s)=some (stB B S H s):=by
 unfold yZf;dsimp only;refine zWc (fun(d:Int)=>∃i:Nat,d=i∧i≤s.length∧∀j,j<i→stQ B S H s j=true) (fun d=>s.length-d.toNat) ?_ ⟨0,rfl,Jj _,fun _ h=>absurd h (Nat.not_lt_zero _)⟩ (yJw _ _ (by omega))
 rintro d k ⟨i,rfl,hi,hq⟩ hk;by_cases hlt:i<s.length
 ·refine zQ9 (decide_eq_true (by simp only[Z.ofN,Z.len];omega)) ?_
  refine zQc (ixN hlt (by omega)) (zQo (getN s hlt _) ?_)
  refine zQp (xWn B S H W s[i].1 s[i].2.1 s[i].2.2.1 h0) ?_;have hi1:Z.wrap .i64 (Z.add (i:Int) 1)=((i+1:Nat):Int):=Z.zZy (by omega)
  have next:stQ B S H s i=true→k ((i+1:Nat):Int)=some (stB B S H s):=fun hs=>by
   refine hk _ ⟨i+1,rfl,hlt,fun j hj=>?_⟩ (by show s.length-(((i+1:Nat):Int)).toNat<s.length-((i:Int)).toNat;omega)
   by_cases e:j=i
   ·subst e;exact hs
   ·exact hq j (by omega)
  cases hb:yK0 B S H s[i].1 s[i].2.1 s[i].2.2.1 with
  |false=>
   refine zQ9 rfl ?_;rw[wXn hlt (by unfold stQ;rw[zKx hlt,hb];rfl)]
  | true=>
   refine zQ0 rfl ?_;by_cases h00:i=0
   ·subst h00
    refine zQ0 (by rfl) ?_
    refine zQo hi1 (next ?_)
    unfold stQ;rw[zKx hlt,hb];rfl
   ·refine zQ9 (decide_eq_true (by omega)) ?_
    have hp:i-1<s.length:=by omega
    refine zQc (ixN hlt (by omega)) (zQo (getN s hlt _) ?_)
    refine zQo (y:=((i-1:Nat):Int)) ((wZ0 (x:=Z.sub (i:Int) 1) (by simp only[Z.sub];omega)).trans (by simp only[Z.sub];omega)) ?_
    refine zQc (ixN hp (by omega)) (zQo (getN s hp _) ?_)
    by_cases hle:s[i-1].1<s[i].1
    ·refine zQ0 (by simp[Z.zQ1,Z.ile];omega) ?_
     refine zQo hi1 (next ?_)
     unfold stQ;rw[zKx hlt,zKx hp,hb,decide_eq_true hle];simp
    ·refine zQ9 (by simp[Z.zQ1,Z.ile];omega) ?_
     rw[wXn hlt (by unfold stQ;rw[zKx hlt,zKx hp,decide_eq_false hle];simp[h00])]
 ·refine zQ0 (decide_eq_false (by simp only[Z.ofN,Z.len];omega)) ?_
  have:stB B S H s=true:=decide_eq_true fun j hj=>hq j (by omega)
  rw[this]
theorem yKy(B S H W:Int)(s:List Blk)(hl:s.length<9223372036854775807):zY4 ((B,(S,(H,(W,())))),s)=some (ckS B S H W s):=by
 unfold zY4;dsimp only;refine zQp (yQx B S H W) ?_;unfold ckS;by_cases h0:(zXn B S H W).2=0
 ·rw[if_pos h0]
  refine zQ0 (by rw[wXp,decide_eq_true h0];rfl) ?_
  refine zQp (vXy B S H W s hl (yQu h0)) ?_;cases stB B S H s with
  |true=>exact zQ0 rfl rfl
  |false=>exact zQ9 rfl rfl
 ·rw[if_neg h0]
  exact zQ9 (by rw[wXp,decide_eq_false h0];rfl) rfl
theorem ctx_of{B S H W leaf:Int}{s:List Blk}(hck:ckS B S H W s=0)(hl:s.length≤1000)(hleaf:isL H leaf=true):∃(h a m:Nat),H=(h:Int)∧leaf=(a:Int)∧Ctx B S W h a m s:=by
 obtain⟨h0,h1⟩:=vWg hck;obtain⟨h,a,e1,e2,k1,k2,k3,_⟩:=wZf hleaf;subst e1;subst e2;have hlv:=yQ7.1 (yQu h0);obtain⟨hall,_⟩:=wJ1.1 h1;obtain⟨m,m1,m2⟩:∃m:Nat,zXn B S (h:Int) W=((m:Int),0)∧m≤4:=by
  have hlv0:=yQu h0;unfold zXn at h0⊢;rw[if_pos hlv0]at h0⊢;split
  ·exact⟨1,rfl,by omega⟩
  ·rename_i n1
   rw[if_neg n1]at h0;split
   ·exact⟨2,rfl,by omega⟩
   ·rename_i n2
    rw[if_neg n2]at h0;split
    ·exact⟨3,rfl,by omega⟩
    ·rename_i n3
     rw[if_neg n3]at h0;split
     ·exact⟨4,rfl,by omega⟩
     ·rename_i n4
      rw[if_neg n4]at h0;simp at h0
 refine⟨h,a,m,rfl,rfl,⟨k1,k2,k3,m1,m2,fun x hx=>?_,fun x hx=>?_,hl⟩⟩
 ·have:=hall x hx
  unfold yK0 at this;obtain⟨_,_,f0,f1,_⟩:=of_decide_eq_true this;refine⟨x.2.1.toNat,by omega, ?_⟩
  have f1:x.2.1<2^h:=f1;have:((2:Int)^h)=((2^h:Nat):Int):=by simp
  omega
 ·have:=hall x hx
  unfold yK0 at this;obtain⟨_,_,_,_,f2⟩:=of_decide_eq_true this;omega
theorem wKu(B S H W leaf:Int)(s:List Blk)(hl:s.length≤1000)(hck:ckS B S H W s=8):zXw ((B,(S,(H,(W,())))),(s,leaf))=some ([],([],8)):=by
 unfold zXw;dsimp only;refine zQp (yKy B S H W s (by omega)) ?_
 rw[hck];exact zQ9 rfl rfl
theorem wWl(B S H W leaf:Int)(s:List Blk)(hl:s.length≤1000)(hck:ckS B S H W s=0)(hleaf:isL H leaf=false):zXw ((B,(S,(H,(W,())))),(s,leaf))=some ([],([],2)):=by
 unfold zXw;dsimp only;refine zQp (yKy B S H W s (by omega)) ?_
 rw[hck];refine zQ0 rfl ?_;obtain⟨h0,_⟩:=vWg hck;have hm:may H=true:=(yQ7.1 (yQu h0)).2.2.2.2.1;have hm2:=zY8.1 hm;by_cases l0:leaf<0
 ·exact zQ9 (decide_eq_true l0) rfl
 refine zQ0 (decide_eq_false l0) ?_;refine zQp (zX0 H (by omega) (by omega)) ?_
 have:¬leaf<2^H.toNat:=fun h=>by
  have:=wQ9.2 ⟨hm,by omega,h⟩
  rw[hleaf]at this;cases this
 exact zQ9 (by simp only[Z.zQ1,Z.ige];simp;omega) rfl
section
variable {B S W:Int} {H a m:Nat} {s:List Blk}
theorem vQw(C:Ctx B S W H a m s)(hck:ckS B S (H:Int) W s=0):zXw ((B,(S,((H:Int),(W,())))),(s,(a:Int)))=some (zZm H a m s (H+1),(wKc H a m s (H+1),0)):=by
 unfold zXw;dsimp only;refine zQp (yKy B S (H:Int) W s (by have:=C.hl;omega)) ?_
 rw[hck];refine zQ0 rfl (zQ0 (decide_eq_false (by omega)) ?_)
 refine zQp (zX0 (H:Int) (by omega) (by have:=C.h2;omega)) ?_
 have h1:((2:Int)^H)=((2^H:Nat):Int):=by simp
 have h2:=C.ha;refine zQ0 ?_ (zQp (wYt C) rfl);show Z.zQ1 false true (Z.ige (a:Int) (2^H))=false;simp only[Z.zQ1,Z.ige];have:¬((2:Int)^H≤(a:Int)):=by omega
 simpa using this
end
theorem vQu(B S H W leaf:Int)(s:List Blk)(hl:s.length≤1000)(hck:ckS B S H W s=8):zW5 ((B,(S,(H,(W,())))),(s,leaf))=some (vQv 8):=by
 unfold zW5;dsimp only;refine zQp ((zJe B S H W s (by omega)).trans (by rw[hck])) ?_
 exact zQ9 rfl rfl
theorem wKt(B S H W leaf:Int)(s:List Blk)(hl:s.length≤1000)(hck:ckS B S H W s=0)(hleaf:isL H leaf=false):zW5 ((B,(S,(H,(W,())))),(s,leaf))=some (vQv 2):=by
 unfold zW5;dsimp only;refine zQp ((zJe B S H W s (by omega)).trans (by rw[hck])) ?_
 refine zQ0 rfl ?_;refine zQp ((yZr H leaf).trans (by rw[hleaf])) ?_
 exact zQ9 rfl rfl
theorem yZb(P:List (List Blk))(hl:P.length≤1000000)(hr:∀l∈P,l.length≤1000000):zKo (P,P)=some true:=by
 unfold zKo;dsimp only;refine zQ0 (by simp[Z.ine]) ?_
 refine zWc (fun(d:Int)=>∃i:Nat,d=i∧i≤P.length) (fun d=>P.length-d.toNat) ?_ ⟨0,rfl,Jj _⟩ (yJw _ _ (by omega))
 rintro d k ⟨i,rfl,hi⟩ hk;by_cases hlt:i<P.length
 ·refine zQ9 (decide_eq_true (by simp only[Z.ofN,Z.len];omega)) ?_
  refine zQc (ixN hlt (by omega)) (zQo (getN P hlt _) ?_)
  refine zQc (ixN hlt (by omega)) (zQo (getN P hlt _) ?_)
  refine zQp (zJw P[i] (hr _ (J0 hlt))) ?_;refine zQ0 rfl ?_;refine zQo (yYm (by omega)) ?_
  exact hk _ ⟨i+1,rfl,hlt⟩ (by show P.length-(((i+1:Nat):Int)).toNat<P.length-((i:Int)).toNat;omega)
 ·exact zQ0 (decide_eq_false (by simp only[Z.ofN,Z.len];omega)) rfl
end Go.Proofs.Ytoceaomlohgkkaa
