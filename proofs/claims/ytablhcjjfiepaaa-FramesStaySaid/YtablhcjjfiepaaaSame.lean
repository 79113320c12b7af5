/- Two lists are the same. -/
import Derived.Test.YtablhcjjfiepaaaM6
import Derived.Test.YtablhcjjfiepaaaFns
namespace Go.Proofs.Ytablhcjjfiepaaa
open Go.Eng
set_option linter.unusedVariables false
set_option linter.unusedSimpArgs false
theorem ref01_Same_spec (a b : List Int) : ref01_Same (a, b) = some (decide (Dat.str a = Dat.str b)) := by
 simp only [ref01_Same,Dat.bnd_eq,Dat.seq]
 congr 1
 rw [Bool.eq_iff_iff]; simp
end Go.Proofs.Ytablhcjjfiepaaa
