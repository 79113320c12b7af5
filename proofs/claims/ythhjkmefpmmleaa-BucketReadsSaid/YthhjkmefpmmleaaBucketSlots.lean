/- BucketSlots answers true. -/
import Derived.Test.YthhjkmefpmmleaaBucket
import Derived.Test.YthhjkmefpmmleaaStep2
namespace Go.Proofs.Ythhjkmefpmmleaa
open Go.Eng
set_option linter.unusedVariables false
set_option linter.unusedSimpArgs false
end Go.Proofs.Ythhjkmefpmmleaa
