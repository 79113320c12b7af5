/- Joins, and loops some of whose state stays. -/
import Derived.Test.YtoceaomlohgkkaaStep
namespace Go.Proofs.Ytoceaomlohgkkaa
open Go.Eng
set_option linter.unusedVariables false
theorem iteN{β:Type}{c:Prop} [Decidable c] {A B:Option β}{r:β}(hc:¬c)(h:B=some r):(if c then A else B)=some r:=by rw[if_neg hc];exact h
theorem vQg{σ β:Type}(P:σ→Prop){f:(σ→Option β)→Option β}{g:σ→Option β}{r:Option β}(hg:∀j,P j→g j=r)(hf:∀k,(∀j,P j→k j=r)→f k=r):Z.join f g=r:=hf g hg
end Go.Proofs.Ytoceaomlohgkkaa
