/- Numbers out of bytes. -/
import Derived.Test.YtoceaomlohgkkaaCut
import Derived.Test.YtoceaomlohgkkaaNumput
namespace Go.Proofs.Ytoceaomlohgkkaa
open Go.Eng
set_option linter.unusedVariables false
set_option linter.unusedSimpArgs false
def val:List Int→Int
 |[]=>0
 |a::l=>a+256*val l
end Go.Proofs.Ytoceaomlohgkkaa
