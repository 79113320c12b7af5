/- Two lists are the same. -/
import Derived.Test.YtfeemnbhcafofaaDoorM6
import Derived.Test.YtfeemnbhcafofaaDoorFns
namespace Go.Proofs.YtfeemnbhcafofaaDoor
open Go.Eng
set_option linter.unusedVariables false
set_option linter.unusedSimpArgs false
theorem yZ9 (a : List Int) (h : a.length < 9223372036854775807) : zKr (a,a)=some true:=by
 unfold zKr
 simp only [Z.ine,bne_self_eq_false,cond_false]
 refine zQn (fun (s : Int)=>∃ i : Nat,s=i∧i≤a.length) (fun s=>a.length - s.toNat) ?_ ⟨0,rfl,Q5 _⟩ (by simp; omega)
 rintro d k ⟨i,rfl,hi⟩ hk
 simp only [Z.xZv,Z.len_eq,Z.xQa]
 by_cases h1 : i < a.length
 ·simp only [h1, decide_true, cond_true, if_pos ((Z.xWe i a.length).2 h1), Z.zQ9, Z.ine, bne_self_eq_false, cond_false]
  rw [Z.zXq (by omega)]
  exact hk _ ⟨i+1,rfl,h1⟩ (by simp; omega)
 ·simp [h1]
end Go.Proofs.YtfeemnbhcafofaaDoor
