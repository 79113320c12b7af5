/- Bytes' parts. -/
import Derived.Test.YthhjkmefpmmleaaNum
namespace Go.Proofs.Ythhjkmefpmmleaa
open Go.Eng
set_option linter.unusedVariables false
set_option linter.unusedSimpArgs false
theorem clone_spec (b : List Int) (h : b.length < 1099511627776) : slices_Clone_byte_byte b = some b := by
  unfold slices_Clone_byte_byte
  have e : Dat.seg ([] : List Int) 0 0 = [] := rfl
  have hb : ¬ Dat.Big (Dat.len (Dat.seg ([] : List Int) 0 0)) (Dat.len b) 1 := by
    rw [e]
    show ¬ (2 ^ 44 < (([] : List Int).length + b.length) * (1 + 1))
    simp only [List.length_nil]; omega
  have hle : Dat.Le (Dat.addN 0 0) (Dat.len ([] : List Int)) := Nat.le_refl _
  have ha : Dat.app ([] : List Int) b = b := rfl
  have hle2 : Dat.Le (Dat.addN 0 (Dat.len b)) (Dat.len b) := by show 0 + b.length ≤ b.length; omega
  have hsg : Dat.seg b 0 (Dat.len b) = b := by show (b.drop 0).take b.length = b; rw [List.drop_zero, List.take_length]
  rw [if_pos hle]
  first
  | (by_cases h0 : Dat.EqN (Dat.len b) 0
     · have hn : b = [] := List.length_eq_zero_iff.1 h0
       rw [if_pos h0, if_pos hle, e, hn]
     · rw [if_neg h0, if_neg hb, e, ha, Dat.bnd_eq, if_pos hle2, hsg]
     done)
  | (rw [if_neg hb, e]; rfl)
def upto (sizes : List Int) (i : Nat) : Nat := (sizes.take i).sum.toNat
def part (b sizes : List Int) (i : Nat) : List Int := (b.take (upto sizes (i + 1))).drop (upto sizes i)
def parts (b sizes : List Int) : List (List Int) := (List.range sizes.length).map (part b sizes)
end Go.Proofs.Ythhjkmefpmmleaa
