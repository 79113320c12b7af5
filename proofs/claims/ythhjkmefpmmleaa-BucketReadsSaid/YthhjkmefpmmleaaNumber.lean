/- A number out of bytes, as the document has it. -/
import Derived.Test.YthhjkmefpmmleaaTake
namespace Go.Proofs.Ythhjkmefpmmleaa
open Go.Eng
set_option linter.unusedVariables false
set_option linter.unusedSimpArgs false
theorem number_lt {m v a : Int} (h1 : 0 ≤ v) (h2 : v < m) (h3 : 0 ≤ a) (h4 : a < 256) (hm : m * 256 ≤ 18446744073709551616) : 0 ≤ 256 * v + a ∧ 256 * v + a < 18446744073709551616 := by omega
theorem pow256_le {m n : Nat} (h : 256 ^ m ≤ 256 ^ n) : (256 : Int) ^ m ≤ 256 ^ n := by
 have h2 : ((256 ^ m : Nat) : Int) ≤ ((256 ^ n : Nat) : Int) := Int.ofNat_le.2 h
 rw [Int.natCast_pow, Int.natCast_pow] at h2
 exact h2
theorem ref01_Number_spec (b : List Int) (hb : isB b) (hl : b.length ≤ 8) : ref01_Number b = some (val b) := by
 unfold ref01_Number
 have w0 : Dat.wrap .i64 (Dat.sub (Dat.ofN (Dat.len b)) 1) = (b.length : Int) - 1 := by
  rw [Dat.wrap_i64] <;> simp only [Dat.sub_eq, Dat.ofN_eq, Dat.len_eq] <;> omega
 rw [w0, Dat.bnd_eq]
 refine loop_inv (fun s => ∃ i : Nat, s.2 = (i : Int) - 1 ∧ i ≤ b.length ∧ s.1 = val (b.drop i)) (fun s => (s.2 + 1).toNat) ?_ ⟨b.length, rfl, Nat.le_refl _, by rw [List.drop_length]; rfl⟩ (by simp <;> omega)
 rintro ⟨sv, si⟩ k ⟨i, hi, hle, hv⟩ hk
 simp only at hi hv
 subst hi hv
 simp only [Dat.ige]
 cases i with
 | zero =>
  have : decide (((0 : Nat) : Int) - 1 ≥ 0) = false := by simp
  rw [this, cond_false]; rfl
 | succ i =>
  have e1 : (((i + 1 : Nat) : Int) - 1) = (i : Int) := by omega
  have e2 : decide ((i : Int) ≥ 0) = true := by simp
  have hbi := hb b[i] (List.getElem_mem _)
  have hvb := val_bounds (isB_drop hb (i + 1))
  have hd : b.drop i = b[i] :: b.drop (i + 1) := List.drop_eq_getElem_cons (by omega)
  have hp : (256 : Int) ^ (b.drop (i + 1)).length ≤ 256 ^ 7 := by
   have h7 : (b.drop (i + 1)).length ≤ 7 := by rw [List.length_drop]; omega
   have := Nat.pow_le_pow_right (show 0 < 256 by omega) h7
   exact pow256_le this
  have hp7 : (256 : Int) ^ 7 = 72057594037927936 := by decide
  rw [hp7] at hp
  have hlt : val (b.drop (i + 1)) < 72057594037927936 := Int.lt_of_lt_of_le hvb.2 hp
  have hb2 := number_lt (a := b[i]) hvb.1 hlt hbi.1 hbi.2 (by omega)
  have w1 : Dat.wrap .u64 (Dat.mul 256 (val (b.drop (i + 1)))) = 256 * val (b.drop (i + 1)) := by rw [Dat.wrap_u64_id] <;> simp only [Dat.mul_eq] <;> omega
  have w2 : Dat.wrap .u64 b[i] = b[i] := by rw [Dat.wrap_u64_id] <;> omega
  have w3 : Dat.wrap .u64 (Dat.add (256 * val (b.drop (i + 1))) b[i]) = 256 * val (b.drop (i + 1)) + b[i] := by rw [Dat.wrap_u64_id] <;> simp only [Dat.add_eq] <;> omega
  have w4 : Dat.wrap .i64 (Dat.sub (i : Int) 1) = (i : Int) - 1 := by rw [Dat.wrap_i64] <;> simp only [Dat.sub_eq] <;> omega
  rw [e1, e2, cond_true, w1, Dat.bnd_eq, if_pos ((Dat.Ix_nat i _).2 (by simp; omega)), Dat.toN_nat, Dat.get_lt b 0 (by omega), Dat.bnd_eq, w2, Dat.bnd_eq, w3, Dat.bnd_eq, w4, Dat.bnd_eq]
  refine hk _ ⟨i, rfl, by omega, ?_⟩ (by simp <;> omega)
  simp only
  rw [hd]; simp only [val]; omega
end Go.Proofs.Ythhjkmefpmmleaa
