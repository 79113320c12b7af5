/- Two lists are the same. -/
import Derived.Test.YtampmlalpifkoaaM6
import Derived.Test.YtampmlalpifkoaaFns
namespace Go.Proofs.Ytampmlalpifkoaa
open Go.Eng
set_option linter.unusedVariables false
set_option linter.unusedSimpArgs false
theorem xQ3(a b:List Int):yXw (a,b)=some (decide (Z.str a=Z.str b)):=by
 simp only[yXw,Z.zYw,Z.seq];congr 1;rw[Bool.eq_iff_iff];simp
end Go.Proofs.Ytampmlalpifkoaa
