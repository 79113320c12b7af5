/- Package num, and the document's answer. -/
import Derived.Test.YtoceaomlohgkkaaM6
import Derived.Test.YtoceaomlohgkkaaFns
namespace Go.Proofs.Ytoceaomlohgkkaa
open Go.Eng
set_option linter.unusedVariables false
set_option linter.unusedSimpArgs false
end Go.Proofs.Ytoceaomlohgkkaa
