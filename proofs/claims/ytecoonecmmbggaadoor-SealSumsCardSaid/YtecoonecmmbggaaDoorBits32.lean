/- Words of 32 bits, as numbers. -/
import Derived.Test.YtecoonecmmbggaaDoorM6
namespace Go.Eng
set_option linter.unusedVariables false
set_option linter.unusedSimpArgs false

/-- A number as a word. -/
abbrev W32 := BitVec 32
def ofW (x : W32) : Int := (x.toNat : Int)
def isW (x : Int) : Prop := 0 ≤ x ∧ x < 4294967296
theorem ofW_isW (x : W32) : isW (ofW x) := by
  have := x.isLt
  unfold isW ofW; omega
theorem isW_of {x : Int} (h : isW x) : ∃ X : W32, x = ofW X := by
  obtain ⟨h1, h2⟩ := h
  refine ⟨BitVec.ofNat 32 x.toNat, ?_⟩
  simp only [ofW, BitVec.toNat_ofNat]
  omega
theorem ofInt_ofW (x : W32) : BitVec.ofInt 32 (ofW x) = x := by
  apply BitVec.eq_of_toNat_eq
  have := x.isLt
  simp only [ofW, BitVec.toNat_ofInt]
  omega
theorem wrap_ofW (x : W32) : Dat.wrap .u32 (ofW x) = ofW x := by
  have := ofW_isW x
  unfold isW at this
  rw [Dat.wrap_u32]; omega
theorem add_ofW (x y : W32) : Dat.wrap .u32 (Dat.add (ofW x) (ofW y)) = ofW (x + y) := by
  rw [Dat.wrap_u32]
  simp only [ofW, Dat.add_eq, BitVec.toNat_add]
  omega
theorem sub_ofW (x y : W32) : Dat.wrap .u32 (Dat.sub (ofW x) (ofW y)) = ofW (x - y) := by
  rw [Dat.wrap_u32]
  have h1 := x.isLt
  have h2 := y.isLt
  simp only [ofW, Dat.sub_eq, BitVec.toNat_sub]
  omega
theorem xor_ofW (x y : W32) : Dat.bxor .u32 (ofW x) (ofW y) = ofW (x ^^^ y) := by
  show Dat.wrap .u32 ((BitVec.ofInt 32 (ofW x) ^^^ BitVec.ofInt 32 (ofW y)).toNat : Int) = _
  rw [ofInt_ofW, ofInt_ofW]
  exact wrap_ofW _
theorem or_ofW (x y : W32) : Dat.bor .u32 (ofW x) (ofW y) = ofW (x ||| y) := by
  show Dat.wrap .u32 ((BitVec.ofInt 32 (ofW x) ||| BitVec.ofInt 32 (ofW y)).toNat : Int) = _
  rw [ofInt_ofW, ofInt_ofW]
  exact wrap_ofW _
theorem and_ofW (x y : W32) : Dat.band .u32 (ofW x) (ofW y) = ofW (x &&& y) := by
  show Dat.wrap .u32 ((BitVec.ofInt 32 (ofW x) &&& BitVec.ofInt 32 (ofW y)).toNat : Int) = _
  rw [ofInt_ofW, ofInt_ofW]
  exact wrap_ofW _
theorem shl_ofW (x : W32) {n : Nat} (h : n ≤ 32) : Dat.shl .u32 (ofW x) (n : Int) = ofW (x <<< n) := by
  show Dat.wrap .u32 (ofW x * 2 ^ (min (n : Int).toNat 32)) = _
  have : min (n : Int).toNat 32 = n := by simp; omega
  rw [this, Dat.wrap_u32]
  simp only [ofW, BitVec.toNat_shiftLeft, Nat.shiftLeft_eq]
  have e : ((x.toNat : Int) * 2 ^ n) = ((x.toNat * 2 ^ n : Nat) : Int) := by simp
  rw [e]
  omega
theorem shr_ofW (x : W32) {n : Nat} (h : n ≤ 32) : Dat.shr .u32 (ofW x) (n : Int) = ofW (x >>> n) := by
  show Int.fdiv (ofW x) (2 ^ (min (n : Int).toNat 32)) = _
  have : min (n : Int).toNat 32 = n := by simp; omega
  rw [this]
  simp only [ofW, BitVec.toNat_ushiftRight, Nat.shiftRight_eq_div_pow]
  have e : ((2 : Int) ^ n) = ((2 ^ n : Nat) : Int) := by simp
  rw [e]
  exact Int.fdiv_eq_ediv_of_nonneg _ (Int.natCast_nonneg _)

def rolW (x : W32) (n : Nat) : W32 := (x <<< n) ||| (x >>> (32 - n))
theorem rolW_back (x : W32) {n m : Nat} (h0 : 0 < n) (h : n + m = 32) (hm : 0 < m) : rolW (rolW x n) m = x := by
  apply BitVec.eq_of_getLsbD_eq
  intro i hi
  have e1 : 32 - m = n := by omega
  have e2 : 32 - n = m := by omega
  simp only [rolW, BitVec.getLsbD_or, BitVec.getLsbD_shiftLeft, BitVec.getLsbD_ushiftRight, e1, e2]
  by_cases hc : i < m
  · have g1 : (decide (i < m)) = true := by simp [hc]
    have g2 : n + i - n = i := by omega
    have g3 : x.getLsbD (m + (n + i)) = false := BitVec.getLsbD_of_ge _ _ (by omega)
    have g4 : decide (n + i < 32) = true := by simp; omega
    have g5 : decide (n + i < n) = false := by simp
    simp [g1, g2, g3, g4, g5]
  · have g1 : (decide (i < m)) = false := by simp [hc]
    have g2 : m + (i - m) = i := by omega
    have g3 : decide (i - m < n) = true := by simp; omega
    have g4 : decide (n + i < 32) = false := by simp; omega
    have g5 : x.getLsbD (m + (n + i)) = false := BitVec.getLsbD_of_ge _ _ (by omega)
    have g6 : decide (i < 32) = true := by simp [hi]
    simp [g1, g2, g3, g4, g5, g6]

theorem xor_back (x y : W32) : (x ^^^ y) ^^^ y = x := by
  rw [BitVec.xor_assoc, BitVec.xor_self, BitVec.xor_zero]

/-- Four bytes as a word. -/
theorem or_add {x y k : Nat} (hx : x < 2 ^ k) : x ||| (y <<< k) = x + y * 2 ^ k := by
  rw [Nat.or_comm, ← Nat.shiftLeft_add_eq_or_of_lt hx, Nat.shiftLeft_eq, Nat.add_comm]
theorem bor_add {x y : Int} (k : Nat) (hx : 0 ≤ x) (hxk : x < 2 ^ k) (hy : 0 ≤ y) (hs : x + y * 2 ^ k < 4294967296) : Dat.bor .u32 x (y * 2 ^ k) = x + y * 2 ^ k := by
  obtain ⟨a, rfl⟩ := Int.eq_ofNat_of_zero_le hx
  obtain ⟨b, rfl⟩ := Int.eq_ofNat_of_zero_le hy
  have e : ((b : Int) * 2 ^ k) = ((b * 2 ^ k : Nat) : Int) := by simp
  have hxk' : a < 2 ^ k := by
    have : ((2 : Int) ^ k) = ((2 ^ k : Nat) : Int) := by simp
    rw [this] at hxk; omega
  rw [e] at hs ⊢
  have hA : a < 4294967296 := by omega
  have hB : b * 2 ^ k < 4294967296 := by omega
  show Dat.wrap .u32 ((BitVec.ofInt 32 (a : Int) ||| BitVec.ofInt 32 ((b * 2 ^ k : Nat) : Int)).toNat : Int) = _
  rw [BitVec.ofInt_natCast, BitVec.ofInt_natCast, BitVec.toNat_or, BitVec.toNat_ofNat, BitVec.toNat_ofNat, Nat.mod_eq_of_lt (by omega), Nat.mod_eq_of_lt (by omega), ← Nat.shiftLeft_eq, or_add hxk', Dat.wrap_u32]
  omega
theorem shl_mul {x : Int} (k : Nat) (hk : k ≤ 32) (hx : 0 ≤ x) (hs : x * 2 ^ k < 4294967296) : Dat.shl .u32 x (k : Int) = x * 2 ^ k := by
  show Dat.wrap .u32 (x * 2 ^ (min (k : Int).toNat 32)) = _
  have : min (k : Int).toNat 32 = k := by simp; omega
  rw [this, Dat.wrap_u32]
  have : 0 ≤ x * 2 ^ k := Int.mul_nonneg hx (Int.pow_nonneg (by omega))
  omega
end Go.Eng
