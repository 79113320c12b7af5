/- Two lists are the same. -/
import Derived.Test.YtoceaomlohgkkaaM6
import Derived.Test.YtoceaomlohgkkaaFns
namespace Go.Proofs.Ytoceaomlohgkkaa
open Go.Eng
set_option linter.unusedVariables false
set_option linter.unusedSimpArgs false
theorem yY1(a b:List Int):yWz (a,b)=some (decide (Z.str a=Z.str b)):=by
 simp only[yWz,Z.zZh,Z.seq];congr 1;rw[Bool.eq_iff_iff];simp
end Go.Proofs.Ytoceaomlohgkkaa
