/- Stashes: a block dropped; two the same. -/
import Derived.Test.YtampmlalpifkoaaStashR
namespace Go.Proofs.Ytampmlalpifkoaa
open Go.Eng
set_option linter.unusedVariables false
set_option linter.unusedSimpArgs false
theorem wW4 (x : Blk) : zJo ((x.1,(x.2.1,(x.2.2.1,()))),(x.1,(x.2.1,(x.2.2.1,()))))=some true:=by rw [yKn,xY7]
theorem zK5 (s : List Blk) (hl : s.length≤1000000) : zXe (s,s)=some true:=by
 unfold zXe
 dsimp only
 refine zWe (by simp [Z.ine]) ?_
 refine zJ4 (fun (d : Int)=>∃ i : Nat,d=i∧i≤s.length) (fun d=>s.length - d.toNat) ?_ ⟨0,rfl,J7 _⟩ (wXm _ _ (by omega))
 rintro d k ⟨i,rfl,hi⟩ hk
 by_cases hlt : i < s.length
 ·refine zQy (decide_eq_true (by simp only [Z.ofN, Z.len]; omega)) ?_
  refine zQo (ixN hlt (by omega)) (zQx (getN s hlt _) ?_)
  refine zQo (ixN hlt (by omega)) (zQx (getN s hlt _) ?_)
  refine zQr (wW4 s[i]) ?_
  refine zWe rfl ?_
  refine zQx (xY4 (by omega)) ?_
  exact hk _ ⟨i+1,rfl,hlt⟩ (by show s.length - (((i+1 : Nat) : Int)).toNat < s.length - ((i : Int)).toNat; omega)
 ·exact zWe (decide_eq_false (by simp only [Z.ofN,Z.len]; omega)) rfl
end Go.Proofs.Ytampmlalpifkoaa
