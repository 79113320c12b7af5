/- A row is written from the left to the right. -/
import Derived.Test.YtcdjnaacgbncdaaM6
namespace Go.Proofs.Ytcdjnaacgbncdaa
open Go.Eng
set_option linter.unusedVariables false
set_option linter.unusedSimpArgs false
theorem set_in {b d : List Int} {a i : Nat} (hi : i < d.length) (hb : a + d.length ≤ b.length) :
    (b.take a ++ (d.take i ++ b.drop (a + i))).set (a + i) d[i] = b.take a ++ (d.take (i + 1) ++ b.drop (a + i + 1)) := by
  have h1 : (b.take a).length = a := by rw [List.length_take]; omega
  have h2 : (d.take i).length = i := by rw [List.length_take]; omega
  rw [List.set_append, if_neg (by omega), h1, Nat.add_sub_cancel_left, List.set_append, if_neg (by omega), h2, Nat.sub_self, List.drop_eq_getElem_cons (l := b) (i := a + i) (by omega), List.set_cons_zero, List.take_succ_eq_append_getElem hi, List.append_assoc]
  rfl
theorem seg_all (l : List Int) {n : Nat} (h : l.length ≤ n) : Dat.seg l 0 n = l := by
  show (l.drop 0).take n = l
  rw [List.drop_zero, List.take_of_length_le h]
end Go.Proofs.Ytcdjnaacgbncdaa
