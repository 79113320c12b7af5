/- Stashes: a block dropped; two the same. -/
import Derived.Test.YtampmlalpifkoaaStashR
namespace Go.Proofs.Ytampmlalpifkoaa
open Go.Eng
set_option linter.unusedVariables false
set_option linter.unusedSimpArgs false
theorem xQm{α:Type}(x y:List α)(q:Nat)(h:q≤x.length):(zQd x q y).take q=x.take q:=by
 unfold zQd;rw[Jn,Js (by rw[Jf];omega),List.take_take,Nat.min_self]
theorem xYt{α:Type}(x y:List α)(q:Nat)(h:q≤x.length):(zQd x q y).take (q+y.length)=x.take q++y:=by
 unfold zQd;have l:(x.take q++y).length=q+y.length:=by rw[Q5,Jf];omega
 rw[Js (by omega),Q9 (by omega)]
def dS(B S H W:Int)(s:List Blk)(id:Int):List Blk×Int:=if ckS B S H W s=0 then(if(fdS s id).isSome=true then(xJ2 s id,0)else([],6))else([],8)
theorem xY1(x:Blk):zJ2 ((x.1,(x.2.1,(x.2.2.1,()))),(x.1,(x.2.1,(x.2.2.1,()))))=some true:=by rw[yWp,xZe]
theorem zKd(s:List Blk)(hl:s.length≤1000000):zWj (s,s)=some true:=by
 unfold zWj;dsimp only;refine zQs (by simp[Z.ine]) ?_
 refine zWx (fun(d:Int)=>∃i:Nat,d=i∧i≤s.length) (fun d=>s.length-d.toNat) ?_ ⟨0,rfl,Jd _⟩ (yW3 _ _ (by omega))
 rintro d k ⟨i,rfl,hi⟩ hk;by_cases hlt:i<s.length
 ·refine zQq (Qu (by simp only[Z.ofN,Z.len];omega)) ?_
  refine zQb (ixN hlt (by omega)) (zQi (getN s hlt _) ?_)
  refine zQb (ixN hlt (by omega)) (zQi (getN s hlt _) ?_)
  refine zQh (xY1 s[i]) ?_;refine zQs rfl ?_;refine zQi (zY5 (by omega)) ?_
  exact hk _ ⟨i+1,rfl,hlt⟩ (by show s.length-(((i+1:Nat):Int)).toNat<s.length-((i:Int)).toNat;omega)
 ·exact zQs (Qx (by simp only[Z.ofN,Z.len];omega)) rfl
end Go.Proofs.Ytampmlalpifkoaa
