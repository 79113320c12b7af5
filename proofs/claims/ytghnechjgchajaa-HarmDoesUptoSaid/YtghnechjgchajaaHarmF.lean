/- Harms: the chapter's examples. -/
import Derived.Test.YtghnechjgchajaaHarmC
namespace Go.Proofs.Ytghnechjgchajaa
open Go.Eng
set_option linter.unusedVariables false
set_option linter.unusedSimpArgs false
def c1:CfgT:=(2,(1,(2,(1,(4,(1,(1,(1,(2,())))))))))
def d1:List Lev:=[[List.replicate 81 121,List.replicate 81 0,List.replicate 81 0]]
def l1:List SeeT:=[(2,(0,(1,(List.replicate 81 120,())))),(2,(0,(1,(List.replicate 81 121,()))))]
theorem vY2(l:List SeeT):∃g,zXr l=some g∧(g=false→l.length≤2000):=by
 refine⟨decide (2000<l.length)||decide (200000<sumS l 2000), ?_,fun h=>by
  rw[Bool.or_eq_false_iff]at h;have h2:=of_decide_eq_false h.1;omega⟩
 unfold zXr;have fin:∀n:Nat,n=sumS l 2000→(bif (Z.igt (Z.ofN (Z.len l)) 2000)then some true else some (Z.zQi false true (Z.igt (n:Int) 200000)))=some (decide (2000<l.length)||decide (200000<sumS l 2000)):=fun n hn=>by
  by_cases h:2000<l.length
  ·rw[decide_eq_true h]
   exact zQe (by simp only[Z.igt,Z.ofN,Z.len];exact decide_eq_true (by omega)) rfl
  ·rw[decide_eq_false h]
   refine zQd (by simp only[Z.igt,Z.ofN,Z.len];exact decide_eq_false (by omega)) ?_
   rw[show Z.zQi false true (Z.igt (n:Int) 200000)=decide ((n:Int)>200000)from rfl,Bool.false_or,hn]
   congr 1;exact decide_eq_decide.2 (by omega)
 refine zQn (fun(s:Int×Int)=>∃i:Nat,i≤l.length∧i≤2000∧s=((sumS l i:Int),(i:Int))) (fun s=>2000-s.2.toNat) ?_ ⟨0,Qw _,by omega,rfl⟩ (zXd 2000 _ (by omega))
 rintro s k ⟨i,hi,hi2,rfl⟩ hk;dsimp only;by_cases h:i<l.length
 ·refine zQe (decide_eq_true (by simp only[Z.ofN,Z.len];omega)) ?_
  by_cases h2:i<2000
  ·refine zQe (by simp[Z.zQi,Z.ilt];omega) ?_
   refine zQa (ixND h) (zQb (zWg l h _) ?_);have e:=xWu l h;have b:=wZw l i;rw[uK4];refine zQb (y:=((sumS l (i+1):Nat):Int)) ((zY1 (by simp only[Z.add];omega)).trans (by simp only[Z.add];omega)) ?_
   refine zQb (zQ1 (by omega)) ?_
   exact hk _ ⟨i+1,h,h2,rfl⟩ (by show 2000-((i+1:Nat):Int).toNat<2000-((i:Int)).toNat;omega)
  ·refine zQd (by simp[Z.zQi,Z.ilt];omega) ?_
   have:i=2000:=by omega
   subst this;exact fin _ rfl
 ·refine zQd (decide_eq_false (by simp only[Z.ofN,Z.len];omega)) ?_
  refine fin _ ?_;unfold sumS;rw[Qf (by omega),Qf (by omega)]
end Go.Proofs.Ytghnechjgchajaa
