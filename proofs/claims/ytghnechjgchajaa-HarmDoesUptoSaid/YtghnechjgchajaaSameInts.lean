/- Two lists are the same. -/
import Derived.Test.YtghnechjgchajaaM6
import Derived.Test.YtghnechjgchajaaFns
namespace Go.Proofs.Ytghnechjgchajaa
open Go.Eng
set_option linter.unusedVariables false
set_option linter.unusedSimpArgs false
end Go.Proofs.Ytghnechjgchajaa
