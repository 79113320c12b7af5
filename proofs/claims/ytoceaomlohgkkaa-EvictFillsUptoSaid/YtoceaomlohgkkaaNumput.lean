/- Numbers put into bytes. -/
import Derived.Test.YtoceaomlohgkkaaNum
namespace Go.Proofs.Ytoceaomlohgkkaa
open Go.Eng
set_option linter.unusedVariables false
set_option linter.unusedSimpArgs false
end Go.Proofs.Ytoceaomlohgkkaa
