/- Answers written over. -/
import Derived.Test.YtablhcjjfiepaaaFrrep
import Derived.Test.YtablhcjjfiepaaaFrstay
namespace Go.Proofs.Ytablhcjjfiepaaa
open Go.Eng
set_option linter.unusedVariables false
set_option linter.unusedSimpArgs false
abbrev SpS:=Int×(List (List Int)×(List (List Int)×List (List MFr)))
end Go.Proofs.Ytablhcjjfiepaaa
