/- Quarter rounds, words and blocks: what is asked of them. -/
import Derived.Test.YtohjdjdckklojaaFns
import Derived.Test.YtohjdjdckklojaaBits32
namespace Go.Proofs.Ytohjdjdckklojaa
open Go.Eng
set_option linter.unusedVariables false
set_option linter.unusedSimpArgs false
set_option maxRecDepth 10000

theorem norm_len (n : Nat) (l : List Int) : (Dat.norm n l 0).length = n := by simp [Dat.norm]
theorem norm_EqN (n : Nat) (l : List Int) : Dat.EqN (Dat.len (Dat.norm n l 0)) n := norm_len n l
theorem rep_EqN (n : Nat) : Dat.EqN (Dat.len (Dat.rep n (0 : Int))) n := by show (List.replicate n (0 : Int)).length = n; simp
theorem repN_EqN (n : Nat) : Dat.EqN (Dat.len (Dat.rep n (0 : Nat))) n := by show (List.replicate n (0 : Nat)).length = n; simp
theorem norm_getD {n i : Nat} (l : List Int) (h : i < n) : (Dat.norm n l 0).getD i 0 = l.getD i 0 := by simp [Dat.norm, h]
theorem norm_id {n : Nat} {l : List Int} (h : l.length = n) : Dat.norm n l 0 = l := by
  apply List.ext_getElem
  · simp [Dat.norm, h]
  · intro i h1 h2; simp [Dat.norm, List.getD, h2]
theorem lq_iff {n : Nat} {l k : List Int} : Dat.lq n l k = true ↔ ∀ i, i < n → l.getD i 0 = k.getD i 0 := by
  simp [Dat.lq, List.all_eq_true]
theorem lq_self (n : Nat) (l : List Int) : Dat.lq n l l = true := lq_iff.2 fun _ _ => rfl
theorem lq_norm (n : Nat) (l k : List Int) : Dat.lq n (Dat.norm n l 0) (Dat.norm n k 0) = Dat.lq n l k := by
  rw [Bool.eq_iff_iff, lq_iff, lq_iff]
  constructor
  · intro h i hi; have := h i hi; rwa [norm_getD _ hi, norm_getD _ hi] at this
  · intro h i hi; rw [norm_getD _ hi, norm_getD _ hi]; exact h i hi

theorem rot_ofW (x : W32) {n : Nat} (h : n ≤ 32) : rot (ofW x) (n : Int) = ofW (rolW x n) := by
  unfold rot rolW
  have e : (32 - (n : Int)) = ((32 - n : Nat) : Int) := by omega
  rw [shl_ofW x h, e, shr_ofW x (by omega), or_ofW]

def qW (a b c d : W32) : W32 × W32 × W32 × W32 :=
  let a1 := a + b
  let d1 := rolW (d ^^^ a1) 16
  let c1 := c + d1
  let b1 := rolW (b ^^^ c1) 12
  let a2 := a1 + b1
  let d2 := rolW (d1 ^^^ a2) 8
  let c2 := c1 + d2
  let b2 := rolW (b1 ^^^ c2) 7
  (a2, b2, c2, d2)
def uW (a b c d : W32) : W32 × W32 × W32 × W32 :=
  let b1 := rolW b 25 ^^^ c
  let c1 := c - d
  let d1 := rolW d 24 ^^^ a
  let a1 := a - b1
  let b2 := rolW b1 20 ^^^ c1
  let c2 := c1 - d1
  let d2 := rolW d1 16 ^^^ a1
  let a2 := a1 - b2
  (a2, b2, c2, d2)

theorem rot16 (x : W32) : rot (ofW x) 16 = ofW (rolW x 16) := rot_ofW x (n := 16) (by omega)
theorem rot12 (x : W32) : rot (ofW x) 12 = ofW (rolW x 12) := rot_ofW x (n := 12) (by omega)
theorem rot8 (x : W32) : rot (ofW x) 8 = ofW (rolW x 8) := rot_ofW x (n := 8) (by omega)
theorem rot7 (x : W32) : rot (ofW x) 7 = ofW (rolW x 7) := rot_ofW x (n := 7) (by omega)
theorem rot25 (x : W32) : rot (ofW x) 25 = ofW (rolW x 25) := rot_ofW x (n := 25) (by omega)
theorem rot24 (x : W32) : rot (ofW x) 24 = ofW (rolW x 24) := rot_ofW x (n := 24) (by omega)
theorem rot20 (x : W32) : rot (ofW x) 20 = ofW (rolW x 20) := rot_ofW x (n := 20) (by omega)

theorem qr_ofW (a b c d : W32) : qr (ofW a) (ofW b) (ofW c) (ofW d) = [ofW (qW a b c d).1, ofW (qW a b c d).2.1, ofW (qW a b c d).2.2.1, ofW (qW a b c d).2.2.2] := by
  simp only [qr, qW, add_ofW, xor_ofW, rot16, rot12, rot8, rot7]
theorem un_ofW (a b c d : W32) : un (ofW a) (ofW b) (ofW c) (ofW d) = [ofW (uW a b c d).1, ofW (uW a b c d).2.1, ofW (uW a b c d).2.2.1, ofW (uW a b c d).2.2.2] := by
  simp only [un, uW, sub_ofW, xor_ofW, rot25, rot24, rot20, rot16]

theorem rb7 (x : W32) : rolW (rolW x 7) 25 = x := rolW_back x (by omega) (by omega) (by omega)
theorem rb8 (x : W32) : rolW (rolW x 8) 24 = x := rolW_back x (by omega) (by omega) (by omega)
theorem rb12 (x : W32) : rolW (rolW x 12) 20 = x := rolW_back x (by omega) (by omega) (by omega)
theorem rb16 (x : W32) : rolW (rolW x 16) 16 = x := rolW_back x (by omega) (by omega) (by omega)
theorem rb20 (x : W32) : rolW (rolW x 20) 12 = x := rolW_back x (by omega) (by omega) (by omega)
theorem rb24 (x : W32) : rolW (rolW x 24) 8 = x := rolW_back x (by omega) (by omega) (by omega)
theorem rb25 (x : W32) : rolW (rolW x 25) 7 = x := rolW_back x (by omega) (by omega) (by omega)

theorem uq (a b c d : W32) : uW (qW a b c d).1 (qW a b c d).2.1 (qW a b c d).2.2.1 (qW a b c d).2.2.2 = (a, b, c, d) := by
  simp only [uW, qW, rb7, rb8, rb12, rb16, xor_back, BitVec.add_sub_cancel]
theorem qu (a b c d : W32) : qW (uW a b c d).1 (uW a b c d).2.1 (uW a b c d).2.2.1 (uW a b c d).2.2.2 = (a, b, c, d) := by
  simp only [uW, qW, rb20, rb24, rb25, rb16, xor_back, BitVec.sub_add_cancel]
end Go.Proofs.Ytohjdjdckklojaa
