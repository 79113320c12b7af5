/- Two lists are the same. -/
import Derived.Test.YtfeemnbhcafofaaDoorM6
import Derived.Test.YtfeemnbhcafofaaDoorFns
namespace Go.Proofs.YtfeemnbhcafofaaDoor
open Go.Eng
set_option linter.unusedVariables false
set_option linter.unusedSimpArgs false
theorem yWy (a b : List Int) : zY2 (a,b)=some (decide (Z.str a=Z.str b)):=by
 simp only [zY2,Z.zQ9,Z.seq]
 congr 1
 rw [Bool.eq_iff_iff]; simp
end Go.Proofs.YtfeemnbhcafofaaDoor
