/- Stashes: the examples. -/
import Derived.Test.YtampmlalpifkoaaStashU
import Derived.Test.YtampmlalpifkoaaStashT
namespace Go.Proofs.Ytampmlalpifkoaa
open Go.Eng
set_option linter.unusedVariables false
set_option linter.unusedSimpArgs false
theorem zYz : zW6 ()=some (8,(1,(3,(73,())))):=rfl
theorem yWy (i f : Int) : zWo (i,f)=some (i,(0,([f],()))):=by
 unfold zWo
 exact zQo (Qf _) rfl
theorem pS_a : pS 8 1 3 73 [] (5,(0,([1],())))=([(5,(0,([1],())))],0):=by decide
theorem pS_b : pS 8 1 3 73 [(5,(0,([1],())))] (2,(0,([1],())))=([(2,(0,([1],()))),(5,(0,([1],())))],0):=by decide
theorem pS_c : pS 8 1 3 73 [(2,(0,([1],()))),(5,(0,([1],())))] (5,(0,([9],())))=([(2,(0,([1],()))),(5,(0,([9],())))],0):=by decide
theorem wWn : zZ7 ()=some [(2,(0,([1],()))),(5,(0,([1],())))]:=by
 unfold zZ7
 refine zQk (yWy 2 1) (zQk (yWy 5 1) ?_)
 exact zQo (Qf _) rfl
theorem vZd : zJ8 ()=some true:=by
 unfold zJ8
 refine zQk zYz (zQk (yWy 5 1) ?_)
 refine zQk ((zJb 8 1 3 73 [] (5,(0,([1],()))) (by simp)).trans (congrArg some pS_a)) ?_
 refine zQk zYz (zQk (yWy 2 1) ?_)
 refine zQk ((zJb 8 1 3 73 [(5,(0,([1],())))] (2,(0,([1],()))) (by simp)).trans (congrArg some pS_b)) ?_
 refine zQk zYz (zQk (yWy 5 9) ?_)
 refine zQk ((zJb 8 1 3 73 [(2,(0,([1],()))),(5,(0,([1],())))] (5,(0,([9],()))) (by simp)).trans (congrArg some pS_c)) ?_
 refine zQ6 rfl (zQ6 rfl ?_)
 refine zQk wWn (zQk (yZf _ (by simp)) ?_)
 refine zQ6 rfl (zQ6 rfl ?_)
 refine zQk (yWy 2 1) (zQk (yWy 5 9) ?_)
 refine zQo (Qf _) ?_
 exact zQk (yZf _ (by simp)) rfl
end Go.Proofs.Ytampmlalpifkoaa
