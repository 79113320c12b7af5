/- Bytes' parts. -/
import Derived.Test.YtfeemnbhcafofaaDoorNum
namespace Go.Proofs.YtfeemnbhcafofaaDoor
open Go.Eng
set_option linter.unusedVariables false
set_option linter.unusedSimpArgs false
def upto (sizes : List Int) (i : Nat) : Nat:=(sizes.take i).sum.toNat
def part (b sizes : List Int) (i : Nat) : List Int:=(b.take (upto sizes (i+1))).drop (upto sizes i)
def parts (b sizes : List Int) : List (List Int):=(List.range sizes.length).map (part b sizes)
end Go.Proofs.YtfeemnbhcafofaaDoor
