/- HarmNames answers true. -/
import Derived.Test.YtghnechjgchajaaHarmF
namespace Go.Proofs.Ytghnechjgchajaa
open Go.Eng
set_option linter.unusedVariables false
set_option linter.unusedSimpArgs false
def b80:Byt:=(List.replicate 81 121).set 80 (Z.bxor .u8 121 3)
theorem yW2{h:xJt}(hh:hrm c1 d1 l1 h=none):zXd h=some ([],2):=by
 rw[vWn,hh];rfl
theorem xK5:zZ8 ()=some true:=by
 unfold zZ8;refine zQs (yW2 (h:=(3,(0,(1,(0,(2,(0,()))))))) ?_) ?_
 ·rw[yWf c1 d1 l1 (3,(0,(1,(0,(2,(0,())))))) (by decide) xJ9,if_neg (by decide),if_neg (by decide),if_neg (by decide),if_pos rfl]
  rw[show vers l1 (0:Int) 1=_ from vYd,if_neg fun h=>absurd h.2 (by decide)]
 refine zQs (yW2 (h:=(5,(0,(0,(0,(3,(0,()))))))) ?_) ?_
 ·unfold hrm
  rw[if_pos rfl,wrL1,if_neg fun h=>absurd h.2 (by decide)]
 refine zQs (yW2 (h:=(1,(0,(1,(0,(0,(0,()))))))) ?_) ?_
 ·rw[yWf c1 d1 l1 (1,(0,(1,(0,(0,(0,())))))) (by decide) xJ9,if_pos rfl,if_neg fun h=>h.1 rfl]
 refine zQs (yW2 (h:=(4,(0,(2,(0,(0,(0,()))))))) ?_) ?_
 ·rw[yWf c1 d1 l1 (4,(0,(2,(0,(0,(0,())))))) (by decide) (pl1.2 ⟨0,by decide,1,by decide,rfl,rfl⟩),if_neg (by decide),if_neg (by decide),if_pos rfl]
  rw[show vers l1 (0:Int) 2=[] by decide];rfl
 refine zQs (yW2 (h:=(6,(0,(1,(0,(0,(0,()))))))) ?_) ?_
 ·rw[yWf c1 d1 l1 (6,(0,(1,(0,(0,(0,())))))) (by decide) xJ9,if_neg (by decide),if_neg (by decide),if_neg (by decide),if_neg (by decide)]
 refine zQs (yW2 (h:=(2,(0,(1,(4,(0,(0,()))))))) ?_) ?_
 ·rw[yWf c1 d1 l1 (2,(0,(1,(4,(0,(0,())))))) (by decide) xJ9,if_neg (by decide),if_pos rfl,if_neg fun h=>absurd (h.2 4 (by simp)).2 (by decide)]
 refine zQs (yJo 121) ?_;rw[if_neg (by decide)]
 refine zQa ⟨by decide,by decide⟩ (zQa (by decide) (zQd (y:=121) rfl (zQd rfl ?_)))
 refine zQa ⟨by decide,by decide⟩ (zQa (by decide) (zQd (y:=b80) rfl ?_))
 refine zQs (yJo 0) ?_;rw[if_neg (by decide)]
 refine zQa (by decide) ?_
 refine zQs (yXc (5,(0,(0,(0,(0,(0,())))))) (List.replicate 81 0) (vJ3 0 (by decide) 0 0 0 0) (by rw[nw1];rfl)) ?_
 refine zQt rfl (zQs (yJo 0) ?_);rw[if_neg (by decide)]
 refine zQa (by decide) ?_
 refine zQs (yXc (2,(0,(1,(3,(0,(0,())))))) (List.replicate 81 0) (y:=wrB (wrB d1 0 1 (bkt d1 0 3)) 0 3 (bkt d1 0 1)) ?_ rfl) ?_
 ·rw[yWf c1 d1 l1 (2,(0,(1,(3,(0,(0,())))))) (by decide) xJ9,if_neg (by decide),if_pos rfl,if_pos (show plD d1 0 [3]from pl1.2 ⟨0,by decide,2,by decide,rfl,rfl⟩)]
 refine zQt rfl (zQa (by decide) ?_)
 refine zQs (yXc (1,(0,(1,(0,(80,(3,())))))) b80 (y:=wrB d1 0 1 b80) ?_ rfl) ?_
 ·rw[yWf c1 d1 l1 (1,(0,(1,(0,(80,(3,())))))) (by decide) xJ9,if_pos rfl,if_pos ⟨by decide,by decide,by decide⟩];rfl
 refine zQs uZp ?_;rfl
theorem yXm(d:Els zZb.args)(hf:Fits zZb.args d):zZ8 d=some true:=xK5
end Go.Proofs.Ytghnechjgchajaa
