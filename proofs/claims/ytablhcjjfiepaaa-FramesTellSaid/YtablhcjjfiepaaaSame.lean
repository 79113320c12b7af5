/- Two lists are the same. -/
import Derived.Test.YtablhcjjfiepaaaM6
import Derived.Test.YtablhcjjfiepaaaFns
namespace Go.Proofs.Ytablhcjjfiepaaa
open Go.Eng
set_option linter.unusedVariables false
set_option linter.unusedSimpArgs false
theorem yQ7 (a b : List Int) : yW9 (a,b)=some (decide (Dat.str a=Dat.str b)):=by
 simp only [yW9,Dat.zZp,Dat.seq]
 congr 1
 rw [Bool.eq_iff_iff]; simp
end Go.Proofs.Ytablhcjjfiepaaa
