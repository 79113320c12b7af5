/- A row is written from the left to the right. -/
import Derived.Test.YtfeemnbhcafofaaDoorM6
namespace Go.Proofs.YtfeemnbhcafofaaDoor
open Go.Eng
set_option linter.unusedVariables false
set_option linter.unusedSimpArgs false
theorem wK7 (l : List Int) {n : Nat} (h : l.length≤n) : Z.seg l 0 n=l:=by
 show (l.drop 0).take n=l
 rw [Jk,Qp h]
end Go.Proofs.YtfeemnbhcafofaaDoor
