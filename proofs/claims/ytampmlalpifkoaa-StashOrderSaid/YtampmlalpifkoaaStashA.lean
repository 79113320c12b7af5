/- Stashes: the examples. -/
import Derived.Test.YtampmlalpifkoaaStashU
import Derived.Test.YtampmlalpifkoaaStashT
namespace Go.Proofs.Ytampmlalpifkoaa
open Go.Eng
set_option linter.unusedVariables false
set_option linter.unusedSimpArgs false
theorem xKn : zKs ()=some (8,(1,(3,(73,())))):=rfl
theorem xKj (i f : Int) : zX3 (i,f)=some (i,(0,([f],()))):=by
 unfold zX3
 exact zQo (Qf _) rfl
theorem pS_a : pS 8 1 3 73 [] (5,(0,([1],())))=([(5,(0,([1],())))],0):=by decide
theorem pS_b : pS 8 1 3 73 [(5,(0,([1],())))] (2,(0,([1],())))=([(2,(0,([1],()))),(5,(0,([1],())))],0):=by decide
theorem pS_c : pS 8 1 3 73 [(2,(0,([1],()))),(5,(0,([1],())))] (5,(0,([9],())))=([(2,(0,([1],()))),(5,(0,([9],())))],0):=by decide
theorem two16 : yWx ()=some [(2,(0,([1],()))),(5,(0,([1],())))]:=by
 unfold yWx
 refine zQr (xKj 2 1) (zQr (xKj 5 1) ?_)
 exact zQo (Qf _) rfl
theorem vX0 : zJ7 ()=some true:=by
 unfold zJ7
 refine zQr xKn (zQr (xKj 5 1) ?_)
 refine zQr ((zJb 8 1 3 73 [] (5,(0,([1],()))) (by simp)).trans (congrArg some pS_a)) ?_
 refine zQr xKn (zQr (xKj 2 1) ?_)
 refine zQr ((zJb 8 1 3 73 [(5,(0,([1],())))] (2,(0,([1],()))) (by simp)).trans (congrArg some pS_b)) ?_
 refine zQr xKn (zQr (xKj 5 9) ?_)
 refine zQr ((zJb 8 1 3 73 [(2,(0,([1],()))),(5,(0,([1],())))] (5,(0,([9],()))) (by simp)).trans (congrArg some pS_c)) ?_
 refine zQy rfl (zQy rfl ?_)
 refine zQr two16 (zQr (zK5 _ (by simp)) ?_)
 refine zQy rfl (zQy rfl ?_)
 refine zQr (xKj 2 1) (zQr (xKj 5 9) ?_)
 refine zQo (Qf _) ?_
 exact zQr (zK5 _ (by simp)) rfl
end Go.Proofs.Ytampmlalpifkoaa
