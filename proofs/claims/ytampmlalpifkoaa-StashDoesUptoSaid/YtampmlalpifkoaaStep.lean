/- Steps through a function's text, one at a time. -/
import Derived.Test.YtampmlalpifkoaaFns
import Derived.Test.YtampmlalpifkoaaM6
namespace Go.Proofs.Ytampmlalpifkoaa
open Go.Eng
set_option linter.unusedVariables false
theorem zQb{β:Type}{c:Prop} [Decidable c] {A:Option β}{r:β}(hc:c)(h:A=some r):(if c then A else none)=some r:=by rw[Qf hc];exact h
theorem wJb{β:Type}{c:Prop} [Decidable c] {B:Option β}{r:β}(hc:¬c)(h:B=some r):(if c then none else B)=some r:=by rw[Qi hc];exact h
theorem zQq{β:Type}{c:Bool}{A B:Option β}{r:β}(hc:c=true)(h:A=some r):(bif c then A else B)=some r:=by rw[hc];exact h
theorem zQs{β:Type}{c:Bool}{A B:Option β}{r:β}(hc:c=false)(h:B=some r):(bif c then A else B)=some r:=by rw[hc];exact h
theorem zQi{α β:Type}{x y:α}{k:α→Option β}{r:β}(hx:x=y)(h:k y=some r):Z.bnd x k=some r:=by rw[hx];exact h
theorem zQh{α β:Type}{x:Option α}{y:α}{k:α→Option β}{r:β}(hx:x=some y)(h:k y=some r):Z.bind x k=some r:=by rw[hx];exact h
theorem yYs{x:Int}(h: -9223372036854775808≤x∧x≤9223372036854775807):Z.wrap .i64 x=x:=Z.wrap_i64 h.1 h.2
theorem yW3(n x:Nat)(hn:n≤18446744073709551615):n-x<18446744073709551616:=by omega
end Go.Proofs.Ytampmlalpifkoaa
