/- Bytes, put together. -/
import Derived.Test.YtghnechjgchajaaStep
namespace Go.Proofs.Ytghnechjgchajaa
open Go.Eng
set_option linter.unusedVariables false
set_option linter.unusedSimpArgs false
end Go.Proofs.Ytghnechjgchajaa
