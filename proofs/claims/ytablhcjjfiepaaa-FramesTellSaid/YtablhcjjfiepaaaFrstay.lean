/- Frames: what may be stays so. -/
import Derived.Test.YtablhcjjfiepaaaFrsixb
namespace Go.Proofs.Ytablhcjjfiepaaa
open Go.Eng
set_option linter.unusedVariables false
set_option linter.unusedSimpArgs false
end Go.Proofs.Ytablhcjjfiepaaa
