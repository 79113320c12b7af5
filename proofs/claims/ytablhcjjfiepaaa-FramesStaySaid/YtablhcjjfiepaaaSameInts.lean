/- Two lists are the same. -/
import Derived.Test.YtablhcjjfiepaaaM6
import Derived.Test.YtablhcjjfiepaaaFns
namespace Go.Proofs.Ytablhcjjfiepaaa
open Go.Eng
set_option linter.unusedVariables false
set_option linter.unusedSimpArgs false
theorem ref01_SameInts_self (a : List Int) (h : a.length < 9223372036854775807) : ref01_SameInts (a, a) = some true := by
 unfold ref01_SameInts
 simp only [Dat.ine,bne_self_eq_false,cond_false]
 refine loop_inv (fun (s : Int)=>∃ i : Nat,s=i∧i≤a.length) (fun s=>a.length - s.toNat) ?_ ⟨0,rfl,Nat.zero_le _⟩ (by simp; omega)
 rintro d k ⟨i,rfl,hi⟩ hk
 simp only [Dat.ofN_eq,Dat.len_eq,Dat.ilt_nat]
 by_cases h1 : i < a.length
 ·simp only [h1, decide_true, cond_true, if_pos ((Dat.Ix_nat i a.length).2 h1), Dat.bnd_eq, Dat.ine, bne_self_eq_false, cond_false]
  rw [Dat.succ_i64 (by omega)]
  exact hk _ ⟨i+1,rfl,h1⟩ (by simp; omega)
 ·simp [h1]
end Go.Proofs.Ytablhcjjfiepaaa
