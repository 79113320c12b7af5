/- Numbers put into bytes. -/
import Derived.Test.YtampmlalpifkoaaNum
namespace Go.Proofs.Ytampmlalpifkoaa
open Go.Eng
set_option linter.unusedVariables false
set_option linter.unusedSimpArgs false
end Go.Proofs.Ytampmlalpifkoaa
