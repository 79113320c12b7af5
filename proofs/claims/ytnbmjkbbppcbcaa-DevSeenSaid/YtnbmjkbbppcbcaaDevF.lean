/- Devices: the document's, and what is written over. -/
import Derived.Test.YtnbmjkbbppcbcaaDevE
namespace Go.Proofs.Ytnbmjkbbppcbcaa
open Go.Eng
set_option linter.unusedVariables false
set_option linter.unusedSimpArgs false
section
variable {d d' : List Lev}
end
end Go.Proofs.Ytnbmjkbbppcbcaa
