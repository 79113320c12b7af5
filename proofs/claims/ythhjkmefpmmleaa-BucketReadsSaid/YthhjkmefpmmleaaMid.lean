/- A row is written from the left to the right. -/
import Derived.Test.YthhjkmefpmmleaaM6
namespace Go.Proofs.Ythhjkmefpmmleaa
open Go.Eng
set_option linter.unusedVariables false
set_option linter.unusedSimpArgs false
theorem seg_all (l : List Int) {n : Nat} (h : l.length ≤ n) : Dat.seg l 0 n = l := by
 show (l.drop 0).take n = l
 rw [List.drop_zero, List.take_of_length_le h]
end Go.Proofs.Ythhjkmefpmmleaa
