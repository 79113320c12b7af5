/- Frames: Twin, the answer's rows in places. -/
import Derived.Test.YtablhcjjfiepaaaFrvicr
namespace Go.Proofs.Ytablhcjjfiepaaa
open Go.Eng
set_option linter.unusedVariables false
set_option linter.unusedSimpArgs false
theorem vJt (h : Int) : zXz ([],(h,()))=some ((([] : List (List Int)),(([] : List (List Int)),([] : List (List MFr)))),((Dat.zJb ([] : List MFr)),(h,()))):=by
 unfold zXz
 dsimp only
 refine zQp (xW6 [] (by simp)) ?_
 rw [if_pos (show Dat.EqN (Dat.len ([] : List FrT)) 0 from rfl)]
 refine zQ2 (fun (s : List (List Int)×(List (List Int)×Int))=>s.2.2=0) (fun _=>0) ?_ rfl (by decide)
 rintro ⟨s1,s2,s3⟩ k hs hk
 dsimp only at hs ⊢
 subst hs
 refine zQh (by rfl) ?_
 rw [if_pos (show Dat.EqN (Dat.len ([] : List FrT)) 0 from rfl)]
theorem yKi (l : List FrT) (h : Int) (hs : zW0 l) (hn : 0 < l.length) : zXz (l,(h,()))=some ((dF l,(pF l,[mixF l.length l])),(Dat.xnew 0 l.length,(h,()))):=by
 have hl20:=hs.1
 unfold zXz
 dsimp only
 refine zQp (xW6 l (by omega)) ?_
 refine iteN (show ¬ l.length=0 by omega) ?_
 refine zQp (wQh l (fun x=>rfl)) ?_
 refine xYr l hs _ _ ?_
 dsimp only
 refine zQb rfl (zQb (by simp [Dat.EqN,Dat.len,zW2]) ?_)
 rfl
end Go.Proofs.Ytablhcjjfiepaaa
