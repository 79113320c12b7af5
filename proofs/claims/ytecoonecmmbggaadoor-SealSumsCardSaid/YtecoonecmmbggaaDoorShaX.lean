/- SHA-256: the digests of the examples. -/
import Derived.Test.YtecoonecmmbggaaDoorShaZ
namespace Go.Proofs.YtecoonecmmbggaaDoor
open Go.Eng
set_option linter.unusedVariables false
set_option linter.unusedSimpArgs false
set_option maxRecDepth 100000

theorem digS_short (l : List Int) (hl : l.length < 56) : digS l = trnK toldW W0 (l ++ 128 :: List.replicate (55 - l.length) 0 ++ len8 l.length) := by
  rw [trnK_eq _ _ _ W0_len, digS]
  have e : l.length / 64 = 0 := by omega
  rw [e, Nat.mul_zero, List.drop_zero, fin, if_pos hl]
  rfl
theorem digS_two (l : List Int) (hl : 56 ≤ l.length) (h2 : l.length < 64) : digS l = trnK (fun X => trnK toldW X (List.replicate 56 0 ++ len8 l.length)) W0 (l ++ 128 :: List.replicate (63 - l.length) 0) := by
  rw [trnK_eq _ _ _ W0_len, trnK_eq _ _ _ (trn_len _ _ W0_len), digS]
  have e : l.length / 64 = 0 := by omega
  rw [e, Nat.mul_zero, List.drop_zero, fin, if_neg (by omega)]
  rfl
def dg0 : List Int := [227, 176, 196, 66, 152, 252, 28, 20, 154, 251, 244, 200, 153, 111, 185, 36, 39, 174, 65, 228, 100, 155, 147, 76, 164, 149, 153, 27, 120, 82, 184, 85]
def dg1 : List Int := [186, 120, 22, 191, 143, 1, 207, 234, 65, 65, 64, 222, 93, 174, 34, 35, 176, 3, 97, 163, 150, 23, 122, 156, 180, 16, 255, 97, 242, 0, 21, 173]
def dg2 : List Int := [36, 141, 106, 97, 210, 6, 56, 184, 229, 192, 38, 147, 12, 62, 96, 57, 163, 60, 228, 89, 100, 255, 33, 103, 246, 236, 237, 212, 25, 219, 6, 193]
def tx2 : List Int := [97, 98, 99, 100, 98, 99, 100, 101, 99, 100, 101, 102, 100, 101, 102, 103, 101, 102, 103, 104, 102, 103, 104, 105, 103, 104, 105, 106, 104, 105, 106, 107, 105, 106, 107, 108, 106, 107, 108, 109, 107, 108, 109, 110, 108, 109, 110, 111, 109, 110, 111, 112, 110, 111, 112, 113]
theorem dig_0 : digS [] = dg0 := by
  rw [digS_short [] (by decide)]
  kernel_rfl
theorem dig_1 : digS [97, 98, 99] = dg1 := by
  rw [digS_short [97, 98, 99] (by decide)]
  kernel_rfl
theorem dig_2 : digS tx2 = dg2 := by
  rw [digS_two tx2 (by decide) (by decide)]
  kernel_rfl
end Go.Proofs.YtecoonecmmbggaaDoor
