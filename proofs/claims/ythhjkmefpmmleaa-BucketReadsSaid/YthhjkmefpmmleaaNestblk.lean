/- Blocks whose data stand in a place of rows. -/
import Derived.Test.YthhjkmefpmmleaaFns
import Derived.Test.YthhjkmefpmmleaaM6
import Derived.Test.YthhjkmefpmmleaaStep2
import Derived.Test.YthhjkmefpmmleaaMix
namespace Go.Proofs.Ythhjkmefpmmleaa
open Go.Eng
set_option linter.unusedVariables false
set_option linter.unusedSimpArgs false
abbrev MBlk := Int × (Int × (MixE Int × Unit))
end Go.Proofs.Ythhjkmefpmmleaa
