/- A row is written from the left to the right. -/
import Derived.Test.YtoceaomlohgkkaaM6
namespace Go.Proofs.Ytoceaomlohgkkaa
open Go.Eng
set_option linter.unusedVariables false
set_option linter.unusedSimpArgs false
theorem vJl(l:List Int){n:Nat}(h:l.length≤n):Z.seg l 0 n=l:=by
 show(l.drop 0).take n=l;rw[J1,Q8 h]
end Go.Proofs.Ytoceaomlohgkkaa
