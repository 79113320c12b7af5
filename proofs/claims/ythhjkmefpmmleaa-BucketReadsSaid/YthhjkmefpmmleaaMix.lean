/- Rows that may grow, in specs. -/
import Derived.Test.YthhjkmefpmmleaaM6
namespace Go.Proofs.Ythhjkmefpmmleaa
open Go.Eng
set_option linter.unusedVariables false
set_option linter.unusedSimpArgs false
end Go.Proofs.Ythhjkmefpmmleaa
