/- The document's answers for slots. -/
import Derived.Test.YthhjkmefpmmleaaSlot
namespace Go.Proofs.Ythhjkmefpmmleaa
open Go.Eng
set_option linter.unusedVariables false
set_option linter.unusedSimpArgs false

theorem slots_first {B S H W : Int} (h : (slotsS B S H W).2 = 0) : 1 ≤ (slotsS B S H W).1 := by
  unfold slotsS at h ⊢
  split
  · split
    · decide
    · split
      · decide
      · split
        · decide
        · split
          · decide
          · rename_i c0 c1 c2 c3 c4
            rw [if_pos c0, if_neg c1, if_neg c2, if_neg c3, if_neg c4] at h
            simp at h
  · rename_i c0
    rw [if_neg c0] at h
    simp at h

theorem slots_lt (B S H W : Int) : Dat.ilt (slotsS B S H W).1 1 = !decide ((slotsS B S H W).2 = 0) := by
  rcases slots_two B S H W with h0 | h8
  · have := slots_first h0
    simp [Dat.ilt, h0]; omega
  · rw [h8]; rfl

theorem slotW_len (i f : Int) (d : List Int) : (slotW i f d).length = 8 + d.length := by
  unfold slotW
  rw [List.length_append, List.length_append, digs_len, digs_len]

def sameS (i f : Int) (d : List Int) (i' f' : Int) (d' : List Int) : Bool := decide (i = i' ∧ f = f' ∧ Dat.str d = Dat.str d')
theorem sameS_self (i f : Int) (d : List Int) : sameS i f d i f d = true := decide_eq_true ⟨rfl, rfl, rfl⟩
theorem ref09_Same_spec (i f : Int) (d : List Int) (i' f' : Int) (d' : List Int) : ref09_Same ((i, f, d, ()), (i', f', d', ())) = some (sameS i f d i' f' d') := by
  unfold ref09_Same sameS
  have pt : ∀ b : Bool, Dat.pickB true b false = b := fun b => by cases b <;> rfl
  simp only
  rw [ref01_Same_spec, pt, Dat.bind_some, pt]
  by_cases h1 : i = i'
  · rw [show Dat.ieq i i' = true by simp [Dat.ieq, h1], cond_true]
    by_cases h2 : f = f'
    · rw [show Dat.ieq f f' = true by simp [Dat.ieq, h2], cond_true]
      simp [h1, h2]
    · rw [show Dat.ieq f f' = false by simp [Dat.ieq, h2], cond_false]
      simp [h2]
  · rw [show Dat.ieq i i' = false by simp [Dat.ieq, h1], cond_false]
    simp [h1]
end Go.Proofs.Ythhjkmefpmmleaa
