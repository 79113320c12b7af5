/- Package num, and the document's answer. -/
import Derived.Test.YtampmlalpifkoaaM6
import Derived.Test.YtampmlalpifkoaaFns
namespace Go.Proofs.Ytampmlalpifkoaa
open Go.Eng
set_option linter.unusedVariables false
set_option linter.unusedSimpArgs false
end Go.Proofs.Ytampmlalpifkoaa
