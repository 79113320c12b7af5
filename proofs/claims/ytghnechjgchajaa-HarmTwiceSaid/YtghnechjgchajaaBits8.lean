/- Bytes, put together. -/
import Derived.Test.YtghnechjgchajaaStep
namespace Go.Proofs.Ytghnechjgchajaa
open Go.Eng
set_option linter.unusedVariables false
set_option linter.unusedSimpArgs false
theorem xYd(a b:Int):Z.bxor .u8 a b=(((BitVec.ofInt 8 a^^^BitVec.ofInt 8 b).toNat:Nat):Int):=by
 show IntKind.wrap .u8 ((BitVec.ofInt 8 a^^^BitVec.ofInt 8 b).toNat:Int)=_;have h:=(BitVec.ofInt 8 a^^^BitVec.ofInt 8 b).isLt;rw[show IntKind.wrap .u8 (((BitVec.ofInt 8 a^^^BitVec.ofInt 8 b).toNat:Nat):Int)=(((BitVec.ofInt 8 a^^^BitVec.ofInt 8 b).toNat:Nat):Int) % 256 from Z.wrap_u8 _]
 omega
theorem wJr(x:BitVec 8):BitVec.ofInt 8 (x.toNat:Int)=x:=by
 apply BitVec.eq_of_toNat_eq;rw[BitVec.toNat_ofInt];have:=x.isLt;omega
theorem wK9{a:Int}(h0:0≤a)(h1:a<256):(((BitVec.ofInt 8 a).toNat:Nat):Int)=a:=by
 rw[BitVec.toNat_ofInt];omega
theorem vZb{a b:Int}(h0:0≤a)(h1:a<256):Z.bxor .u8 (Z.bxor .u8 a b) b=a:=by
 rw[xYd,xYd,wJr,BitVec.xor_assoc,BitVec.xor_self,BitVec.xor_zero,wK9 h0 h1]
end Go.Proofs.Ytghnechjgchajaa
