/- Two lists are the same. -/
import Derived.Test.YtablhcjjfiepaaaM6
import Derived.Test.YtablhcjjfiepaaaFns
namespace Go.Proofs.Ytablhcjjfiepaaa
open Go.Eng
set_option linter.unusedVariables false
set_option linter.unusedSimpArgs false
theorem yX3 (a : List Int) (h : a.length < 9223372036854775807) : zX4 (a,a)=some true:=by
 unfold zX4
 simp only [Dat.ine,bne_self_eq_false,cond_false]
 refine zQ2 (fun (s : Int)=>∃ i : Nat,s=i∧i≤a.length) (fun s=>a.length - s.toNat) ?_ ⟨0,rfl,Nat.zero_le _⟩ (by simp; omega)
 rintro d k ⟨i,rfl,hi⟩ hk
 simp only [Dat.vK5,Dat.len_eq,Dat.uQ7]
 by_cases h1 : i < a.length
 ·simp only [h1, decide_true, cond_true, if_pos ((Dat.Ix_nat i a.length).2 h1), Dat.zZp, Dat.ine, bne_self_eq_false, cond_false]
  rw [Dat.zJf (by omega)]
  exact hk _ ⟨i+1,rfl,h1⟩ (by simp; omega)
 ·simp [h1]
end Go.Proofs.Ytablhcjjfiepaaa
