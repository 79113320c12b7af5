/- Frames: what each call turns, the answer's rows in places. -/
import Derived.Test.YtablhcjjfiepaaaFrsixb
import Derived.Test.YtablhcjjfiepaaaSeg
namespace Go.Proofs.Ytablhcjjfiepaaa
open Go.Eng
set_option linter.unusedVariables false
set_option linter.unusedSimpArgs false
abbrev AnsR:=((List (List Int))×((List (List Int))×(List (List MFr))))×(((MixE MFr)×(Int×Unit))×Int)
def dF (l : List FrT) : List (List Int):=l.map fun x=>x.2.2.1
def pF (l : List FrT) : List (List Int):=l.map fun x=>x.2.2.2.1
end Go.Proofs.Ytablhcjjfiepaaa
