/- Joins, and loops some of whose state stays. -/
import Derived.Test.YtghnechjgchajaaStep
namespace Go.Proofs.Ytghnechjgchajaa
open Go.Eng
set_option linter.unusedVariables false
theorem iteP{β:Type}{c:Prop} [Decidable c] {A B:Option β}{r:β}(hc:c)(h:A=some r):(if c then A else B)=some r:=by rw[if_pos hc];exact h
theorem iteN{β:Type}{c:Prop} [Decidable c] {A B:Option β}{r:β}(hc:¬c)(h:B=some r):(if c then A else B)=some r:=by rw[if_neg hc];exact h
end Go.Proofs.Ytghnechjgchajaa
