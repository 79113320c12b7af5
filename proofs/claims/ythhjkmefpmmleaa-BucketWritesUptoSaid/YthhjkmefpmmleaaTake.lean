/- Numbers out of bytes. -/
import Derived.Test.YthhjkmefpmmleaaCut
import Derived.Test.YthhjkmefpmmleaaNumput
namespace Go.Proofs.Ythhjkmefpmmleaa
open Go.Eng
set_option linter.unusedVariables false
set_option linter.unusedSimpArgs false
def val : List Int → Int
 | [] => 0
 | a :: l => a + 256 * val l
end Go.Proofs.Ythhjkmefpmmleaa
