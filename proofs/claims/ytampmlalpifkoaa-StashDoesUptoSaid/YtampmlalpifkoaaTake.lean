/- Numbers out of bytes. -/
import Derived.Test.YtampmlalpifkoaaCut
import Derived.Test.YtampmlalpifkoaaNumput
namespace Go.Proofs.Ytampmlalpifkoaa
open Go.Eng
set_option linter.unusedVariables false
set_option linter.unusedSimpArgs false
def val:List Int→Int
 |[]=>0
 |a::l=>a+256*val l
end Go.Proofs.Ytampmlalpifkoaa
