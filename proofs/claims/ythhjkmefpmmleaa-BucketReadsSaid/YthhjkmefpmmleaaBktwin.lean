/- Buckets copied, their rows in places. -/
import Derived.Test.YthhjkmefpmmleaaBucketw
namespace Go.Proofs.Ythhjkmefpmmleaa
open Go.Eng
set_option linter.unusedVariables false
set_option linter.unusedSimpArgs false
theorem norm32 (x : List Int) : n32 x = arr32 x := rfl
theorem arr32_same {d : List Int} (h : d.length = 32) : arr32 d = d := norm_same h
theorem arr32_twice (d : List Int) : arr32 (arr32 d) = arr32 d := arr32_same (arr32_len d)
def eqA (a b : List Int) : Bool := (Dat.andB (Dat.ieq (Dat.get a 0 0) (Dat.get b 0 0)) (Dat.andB (Dat.ieq (Dat.get a 1 0) (Dat.get b 1 0)) (Dat.andB (Dat.ieq (Dat.get a 2 0) (Dat.get b 2 0)) (Dat.andB (Dat.ieq (Dat.get a 3 0) (Dat.get b 3 0)) (Dat.andB (Dat.ieq (Dat.get a 4 0) (Dat.get b 4 0)) (Dat.andB (Dat.ieq (Dat.get a 5 0) (Dat.get b 5 0)) (Dat.andB (Dat.ieq (Dat.get a 6 0) (Dat.get b 6 0)) (Dat.andB (Dat.ieq (Dat.get a 7 0) (Dat.get b 7 0)) (Dat.andB (Dat.ieq (Dat.get a 8 0) (Dat.get b 8 0)) (Dat.andB (Dat.ieq (Dat.get a 9 0) (Dat.get b 9 0)) (Dat.andB (Dat.ieq (Dat.get a 10 0) (Dat.get b 10 0)) (Dat.andB (Dat.ieq (Dat.get a 11 0) (Dat.get b 11 0)) (Dat.andB (Dat.ieq (Dat.get a 12 0) (Dat.get b 12 0)) (Dat.andB (Dat.ieq (Dat.get a 13 0) (Dat.get b 13 0)) (Dat.andB (Dat.ieq (Dat.get a 14 0) (Dat.get b 14 0)) (Dat.andB (Dat.ieq (Dat.get a 15 0) (Dat.get b 15 0)) (Dat.andB (Dat.ieq (Dat.get a 16 0) (Dat.get b 16 0)) (Dat.andB (Dat.ieq (Dat.get a 17 0) (Dat.get b 17 0)) (Dat.andB (Dat.ieq (Dat.get a 18 0) (Dat.get b 18 0)) (Dat.andB (Dat.ieq (Dat.get a 19 0) (Dat.get b 19 0)) (Dat.andB (Dat.ieq (Dat.get a 20 0) (Dat.get b 20 0)) (Dat.andB (Dat.ieq (Dat.get a 21 0) (Dat.get b 21 0)) (Dat.andB (Dat.ieq (Dat.get a 22 0) (Dat.get b 22 0)) (Dat.andB (Dat.ieq (Dat.get a 23 0) (Dat.get b 23 0)) (Dat.andB (Dat.ieq (Dat.get a 24 0) (Dat.get b 24 0)) (Dat.andB (Dat.ieq (Dat.get a 25 0) (Dat.get b 25 0)) (Dat.andB (Dat.ieq (Dat.get a 26 0) (Dat.get b 26 0)) (Dat.andB (Dat.ieq (Dat.get a 27 0) (Dat.get b 27 0)) (Dat.andB (Dat.ieq (Dat.get a 28 0) (Dat.get b 28 0)) (Dat.andB (Dat.ieq (Dat.get a 29 0) (Dat.get b 29 0)) (Dat.andB (Dat.ieq (Dat.get a 30 0) (Dat.get b 30 0)) (Dat.andB (Dat.ieq (Dat.get a 31 0) (Dat.get b 31 0)) true))))))))))))))))))))))))))))))))
theorem eqA_self (a : List Int) : eqA a a = true := by
 have q : ∀ x : Int, Dat.ieq x x = true := fun x => by simp [Dat.ieq]
 unfold eqA
 simp only [q]
 rfl
theorem ref10_Same_spec (a b : List Blk) (L R L' R' : List Int) (ha : a.length < 4611686018427387904) : ref10_Same ((a, L, R, ()), (b, L', R', ())) = some (eqA L L' && (eqA R R' && sameBs a b)) := by
 unfold ref10_Same
 dsimp only
 refine bind_to (ref09_SameAll_spec a b ha) ?_
 change (bif sameBs a b then (bif Dat.pickB true (eqA L L') false then some (Dat.pickB true (eqA R R') false) else _) else _) = _
 cases sameBs a b <;> cases eqA L L' <;> cases eqA R R' <;> rfl
end Go.Proofs.Ythhjkmefpmmleaa
