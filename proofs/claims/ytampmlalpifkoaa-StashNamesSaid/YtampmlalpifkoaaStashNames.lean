/- StashNames answers true. -/
import Derived.Test.YtampmlalpifkoaaStashA
namespace Go.Proofs.Ytampmlalpifkoaa
open Go.Eng
set_option linter.unusedVariables false
set_option linter.unusedSimpArgs false
theorem nm_d : dS 8 1 3 73 [(2,(0,([1],()))),(5,(0,([1],())))] 3=([],6):=by decide
theorem nm_a : aS 8 1 3 73 [(2,(0,([1],()))),(5,(0,([1],())))] [(2,(0,([1],())))]=([],8):=by decide
theorem nm_b : aS 8 1 3 73 [(2,(0,([1],()))),(5,(0,([1],())))] [(3,(0,([1],()))),(3,(0,([1],())))]=([],8):=by decide
theorem nm_c : aS 8 1 3 73 [(2,(0,([1],()))),(5,(0,([1],())))] [(7,(0,([1],()))),(0,(0,([1],())))]=([(0,(0,([1],()))),(2,(0,([1],()))),(5,(0,([1],()))),(7,(0,([1],())))],0):=by decide
theorem nm_e : ckS 8 1 3 73 [(5,(0,([1],()))),(2,(0,([1],())))]=8:=by decide
theorem yJ7 : zX6 ()=some true:=by
 unfold zX6
 refine zQk zYz (zQk wWn ?_)
 refine zQk ((yKi 8 1 3 73 _ 3 (by simp)).trans (congrArg some nm_d)) ?_
 refine zQk zYz (zQk wWn (zQk (yWy 2 1) ?_))
 refine zQo (Qf _) (zQk ((zJc 8 1 3 73 [(2,(0,([1],()))),(5,(0,([1],())))] [(2,(0,([1],())))] (by simp)).trans (congrArg some nm_a)) ?_)
 refine zQk zYz (zQk wWn (zQk (yWy 3 1) (zQk (yWy 3 1) ?_)))
 refine zQo (Qf _) (zQk ((zJc 8 1 3 73 [(2,(0,([1],()))),(5,(0,([1],())))] [(3,(0,([1],()))),(3,(0,([1],())))] (by simp)).trans (congrArg some nm_b)) ?_)
 refine zQk zYz (zQk wWn (zQk (yWy 7 1) (zQk (yWy 0 1) ?_)))
 refine zQo (Qf _) (zQk ((zJc 8 1 3 73 [(2,(0,([1],()))),(5,(0,([1],())))] [(7,(0,([1],()))),(0,(0,([1],())))] (by simp)).trans (congrArg some nm_c)) ?_)
 refine joinTo (fun j=>j=true) (fun j hj=>by rw [hj]) (fun k hk=>?_)
 refine zQk vZd ?_
 refine zQ6 rfl (zQ6 rfl (zQ6 rfl (zQ6 rfl (zQ6 rfl (zQ6 rfl ?_)))))
 refine zQo ⟨by omega,by show 0 < 4; omega⟩ (zQu rfl (zQ6 rfl ?_))
 refine zQo ⟨by omega,by show 3 < 4; omega⟩ (zQu rfl (zQ6 rfl ?_))
 refine zQk zYz (zQk (yWy 5 1) (zQk (yWy 2 1) ?_))
 refine zQo (Qf _) (zQk ((zZi 8 1 3 73 [(5,(0,([1],()))),(2,(0,([1],())))] (by simp)).trans (congrArg some nm_e)) ?_)
 exact hk _ rfl
theorem zY0 (d : Els zXt.args) (hf : Fits zXt.args d) : zX6 d=some true:=yJ7
end Go.Proofs.Ytampmlalpifkoaa
