/- Devices: written, and replayed. -/
import Derived.Test.YtnbmjkbbppcbcaaDevC
namespace Go.Proofs.Ytnbmjkbbppcbcaa
open Go.Eng
set_option linter.unusedVariables false
set_option linter.unusedSimpArgs false
end Go.Proofs.Ytnbmjkbbppcbcaa
