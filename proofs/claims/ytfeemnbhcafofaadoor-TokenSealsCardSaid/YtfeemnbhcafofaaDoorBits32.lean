/- Words of 32 bits, as numbers. -/
import Derived.Test.YtfeemnbhcafofaaDoorM6
namespace Go.Eng
set_option linter.unusedVariables false
set_option linter.unusedSimpArgs false
abbrev W32:=BitVec 32
def ofW (x : W32) : Int:=(x.toNat : Int)
def isW (x : Int) : Prop:=0≤x∧x < 4294967296
theorem uZl (x : W32) : isW (ofW x):=by
 have:=x.isLt
 unfold isW ofW; omega
theorem zY8 (x : W32) : BitVec.ofInt 32 (ofW x)=x:=by
 apply BitVec.eq_of_toNat_eq
 have:=x.isLt
 simp only [ofW,BitVec.toNat_ofInt]
 omega
theorem wQf (x : W32) : Z.wrap .u32 (ofW x)=ofW x:=by
 have:=uZl x
 unfold isW at this
 rw [Z.wrap_u32]; omega
theorem zKn (x y : W32) : Z.wrap .u32 (Z.add (ofW x) (ofW y))=ofW (x+y):=by
 rw [Z.wrap_u32]
 simp only [ofW,Z.add_eq,BitVec.toNat_add]
 omega
theorem zZm (x y : W32) : Z.bxor .u32 (ofW x) (ofW y)=ofW (x ^^^ y):=by
 show Z.wrap .u32 ((BitVec.ofInt 32 (ofW x) ^^^ BitVec.ofInt 32 (ofW y)).toNat : Int)=_
 rw [zY8,zY8]
 exact wQf _
theorem vQc (x y : W32) : Z.bor .u32 (ofW x) (ofW y)=ofW (x ||| y):=by
 show Z.wrap .u32 ((BitVec.ofInt 32 (ofW x) ||| BitVec.ofInt 32 (ofW y)).toNat : Int)=_
 rw [zY8,zY8]
 exact wQf _
theorem xQg (x y : W32) : Z.band .u32 (ofW x) (ofW y)=ofW (x &&& y):=by
 show Z.wrap .u32 ((BitVec.ofInt 32 (ofW x) &&& BitVec.ofInt 32 (ofW y)).toNat : Int)=_
 rw [zY8,zY8]
 exact wQf _
theorem wK5 (x : W32) {n : Nat} (h : n≤32) : Z.shl .u32 (ofW x) (n : Int)=ofW (x <<< n):=by
 show Z.wrap .u32 (ofW x * 2 ^ (min (n : Int).toNat 32))=_
 have : min (n : Int).toNat 32=n:=by simp; omega
 rw [this,Z.wrap_u32]
 simp only [ofW,BitVec.toNat_shiftLeft,Nat.shiftLeft_eq]
 have e : ((x.toNat : Int) * 2 ^ n)=((x.toNat * 2 ^ n : Nat) : Int):=by simp
 rw [e]
 omega
theorem wQu (x : W32) {n : Nat} (h : n≤32) : Z.shr .u32 (ofW x) (n : Int)=ofW (x >>> n):=by
 show Int.fdiv (ofW x) (2 ^ (min (n : Int).toNat 32))=_
 have : min (n : Int).toNat 32=n:=by simp; omega
 rw [this]
 simp only [ofW,BitVec.toNat_ushiftRight,Nat.shiftRight_eq_div_pow]
 have e : ((2 : Int) ^ n)=((2 ^ n : Nat) : Int):=by simp
 rw [e]
 exact Int.fdiv_eq_ediv_of_nonneg _ (Int.natCast_nonneg _)
end Go.Eng
