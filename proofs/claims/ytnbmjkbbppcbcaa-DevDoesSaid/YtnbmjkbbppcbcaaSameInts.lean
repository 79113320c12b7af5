/- Two lists are the same. -/
import Derived.Test.YtnbmjkbbppcbcaaM6
import Derived.Test.YtnbmjkbbppcbcaaFns
namespace Go.Proofs.Ytnbmjkbbppcbcaa
open Go.Eng
set_option linter.unusedVariables false
set_option linter.unusedSimpArgs false
end Go.Proofs.Ytnbmjkbbppcbcaa
