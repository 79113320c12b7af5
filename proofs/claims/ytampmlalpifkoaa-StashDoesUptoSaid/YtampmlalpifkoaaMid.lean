/- A row is written from the left to the right. -/
import Derived.Test.YtampmlalpifkoaaM6
namespace Go.Proofs.Ytampmlalpifkoaa
open Go.Eng
set_option linter.unusedVariables false
set_option linter.unusedSimpArgs false
theorem uQ0(l:List Int){n:Nat}(h:l.length≤n):Z.seg l 0 n=l:=by
 show(l.drop 0).take n=l;rw[Jt,Q9 h]
end Go.Proofs.Ytampmlalpifkoaa
