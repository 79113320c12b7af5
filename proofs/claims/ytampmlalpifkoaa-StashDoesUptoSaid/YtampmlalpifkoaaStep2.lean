/- Joins, and loops some of whose state stays. -/
import Derived.Test.YtampmlalpifkoaaStep
namespace Go.Proofs.Ytampmlalpifkoaa
open Go.Eng
set_option linter.unusedVariables false
theorem iteP{β:Type}{c:Prop} [Decidable c] {A B:Option β}{r:β}(hc:c)(h:A=some r):(if c then A else B)=some r:=by rw[Qf hc];exact h
theorem iteN{β:Type}{c:Prop} [Decidable c] {A B:Option β}{r:β}(hc:¬c)(h:B=some r):(if c then A else B)=some r:=by rw[Qi hc];exact h
theorem wJa{σ β:Type}(P:σ→Prop){f:(σ→Option β)→Option β}{g:σ→Option β}{r:Option β}(hg:∀j,P j→g j=r)(hf:∀k,(∀j,P j→k j=r)→f k=r):Z.join f g=r:=hf g hg
end Go.Proofs.Ytampmlalpifkoaa
