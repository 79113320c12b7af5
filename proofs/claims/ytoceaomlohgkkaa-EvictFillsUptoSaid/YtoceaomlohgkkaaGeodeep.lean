/- How deep leaves go together, and which buckets are on their paths. -/
import Derived.Test.YtoceaomlohgkkaaGeoways
namespace Go.Proofs.Ytoceaomlohgkkaa
open Go.Eng
set_option linter.unusedVariables false
set_option linter.unusedSimpArgs false
theorem vQ4(f g:Nat→Nat):∀H,f 0=g 0→∃D,D≤H∧(∀r,r≤D→f r=g r)∧(D=H∨f (D+1)≠g (D+1))
 |0,h=>by
  refine⟨0,Qf _,fun r hr=>?_, .inl rfl⟩
  have:r=0:=by omega
  subst this;exact h
 | H+1,h=>by
  obtain⟨D,h1,h2,h3⟩:=vQ4 f g H h;rcases h3 with rfl|h3
  ·by_cases he:f (D+1)=g (D+1)
   ·refine⟨D+1,Qf _,fun r hr=> ?_, .inl rfl⟩
    by_cases hr':r=D+1
    ·subst hr';exact he
    ·exact h2 r (by omega)
   ·exact⟨D,by omega,h2, .inr he⟩
  ·exact⟨D,by omega,h2, .inr h3⟩
theorem xJk{H A:Nat}(hA:A<2^H):rowN H A 0=1:=by
 unfold rowN;have hp:0<2^H:=Nat.pow_pos (by omega)
 rw[Nat.sub_zero,Nat.add_div_left _ hp,Nat.div_eq_of_lt hA]
theorem xKj{H A B D:Nat}(h1:1≤H)(hH:H≤6)(hA:A<2^H)(hB:B<2^H)(hla:isL (H:Int) (A:Int)=true)(hlb:isL (H:Int) (B:Int)=true)(d1:D≤H)(d2:∀r,r≤D→rowN H A r=rowN H B r)(d3:D=H∨rowN H A (D+1)≠rowN H B (D+1)):
  yJ8 ((H:Int),(A:Int),(B:Int))=some ((D:Int),0):=by
 unfold yJ8;simp only;rw[zJl,hla,Z.bind_some,zJl,hlb,Z.bind_some];simp only[Z.wW0,Bool.not_true,Z.wYs,cond_false];refine zWc (fun(s:Int×Int)=>∃i:Nat,s.1=(i:Int)∧i≤D+1∧s.2=((i-1:Nat):Int)) (fun s=>H+1-s.1.toNat) ?_ ⟨0,rfl,by omega,rfl⟩ (xZh (by show H+1-(0:Int).toNat≤1000;omega))
 rintro⟨si,sd⟩ k ⟨i,rfl,hi,rfl⟩ hk;by_cases hlt:i≤H
 ·have e1:Z.ile (i:Int) (H:Int)=true:=by simp[Z.ile,hlt]
  simp only[e1,cond_true];rw[zYb h1 hH hA hlt,Z.bind_some,zYb h1 hH hB hlt,Z.bind_some];by_cases he:rowN H A i=rowN H B i
  ·have e2:Z.ine ((rowN H B i:Nat):Int) ((rowN H A i:Nat):Int)=false:=by simp[Z.ine,he]
   have hiD:i≤D:=by
    by_cases hx:i=D+1
    ·subst hx
     rcases d3 with rfl|d3
     ·omega
     ·exact absurd he d3
    ·omega
   rw[e2,cond_false,Z.zZh,Z.zZy (by omega)]
   exact hk (((i+1:Nat):Int),(i:Int)) ⟨i+1,rfl,by omega,by simp⟩ (by show H+1-((i+1:Nat):Int).toNat<H+1-(i:Int).toNat;omega)
  ·have e2:Z.ine ((rowN H B i:Nat):Int) ((rowN H A i:Nat):Int)=true:=by simp[Z.ine];omega
   have:i=D+1:=by
    by_cases hx:i≤D
    ·exact absurd (d2 i hx) he
    ·omega
   subst this;rw[e2,cond_true];rfl
 ·have e1:Z.ile (i:Int) (H:Int)=false:=by simp[Z.ile];omega
  have:i=D+1:=by omega
  subst this;rw[e1,cond_false];rfl
theorem wJc(H A:Nat):(wayN H A).length=H+1:=by simp[wayN]
theorem wJd{H A i:Nat}(hi:i≤H):Z.get (wayN H A) (Z.toN (i:Int)) 0=((rowN H A i:Nat):Int):=by
 rw[Z.wJs,Z.vKm _ _ (by rw[wJc];omega)]
 simp[wayN]
theorem yY0{H A B D:Nat}(h1:1≤H)(hH:H≤6)(hA:A<2^H)(hB:B<2^H)(d1:D≤H)(d2:∀r,r≤D→rowN H A r=rowN H B r)(d3:D=H∨rowN H A (D+1)≠rowN H B (D+1)):
  yWy ((H:Int),(A:Int),(B:Int))=some (D:Int):=by
 unfold yWy;simp only;rw[yXf h1 hH hA,Z.bind_some,yXf h1 hH hB,Z.bind_some];refine zWc (fun(s:Int)=>∃i:Nat,s=(i:Int)∧i≤D) (fun s=>H+1-s.toNat) ?_ ⟨0,rfl,by omega⟩ (xZh (by show H+1-(0:Int).toNat≤1000;omega))
 rintro si k ⟨i,rfl,hi⟩ hk;simp only[Z.zZh,Z.len_eq,wJc,Z.vKd];rw[Z.zZy (by omega)]
 by_cases hlt:i<H
 ·have e1:Z.ilt ((i+1:Nat):Int) ((H+1:Nat):Int)=true:=by rw[Z.vQo];simp;omega
  have c1:Z.Ix ((i+1:Nat):Int) (H+1):=(Z.vKw _ _).2 (by omega)
  rw[e1,cond_true,if_pos c1,if_pos c1,wJd (by omega),wJd (by omega)]
  by_cases he:rowN H A (i+1)=rowN H B (i+1)
  ·have e2:Z.ieq ((rowN H A (i+1):Nat):Int) ((rowN H B (i+1):Nat):Int)=true:=by simp[Z.ieq,he]
   rw[e2];simp only[Z.vJ1,cond_true];have:i+1≤D:=by
    by_cases hx:i=D
    ·subst hx
     rcases d3 with rfl|d3
     ·omega
     ·exact absurd he d3
    ·omega
   exact hk ((i+1:Nat):Int) ⟨i+1,rfl,this⟩ (by show H+1-((i+1:Nat):Int).toNat<H+1-(i:Int).toNat;omega)
  ·have e2:Z.ieq ((rowN H A (i+1):Nat):Int) ((rowN H B (i+1):Nat):Int)=false:=by simp[Z.ieq];omega
   have:i=D:=by
    by_cases hx:i+1≤D
    ·exact absurd (d2 _ hx) he
    ·omega
   subst this;rw[e2];simp only[Z.wYr,cond_false]
 ·have e1:Z.ilt ((i+1:Nat):Int) ((H+1:Nat):Int)=false:=by rw[Z.vQo];simp;omega
  have:i=D:=by omega
  subst this;rw[e1,cond_false]
end Go.Proofs.Ytoceaomlohgkkaa
