/- Harms: crashes; how many versions there are. -/
import Derived.Test.YtghnechjgchajaaHarmF
namespace Go.Proofs.Ytghnechjgchajaa
open Go.Eng
set_option linter.unusedVariables false
set_option linter.unusedSimpArgs false
theorem xW9(l:List SeeT)(hl:l.length≤1000000000):zYm l=some ((wrL l).length:Int):=by
 unfold zYm;refine zQn (fun(s:Int×Int)=>∃i:Nat,i≤l.length∧s=(((wrL (l.take i)).length:Int),(i:Int))) (fun s=>l.length-s.2.toNat) ?_ ⟨0,Qw _,rfl⟩ (zXd _ _ (by omega))
 rintro s k ⟨i,hi,rfl⟩ hk;dsimp only;by_cases h:i<l.length
 ·have dec:l.length-((i+1:Nat):Int).toNat<l.length-((i:Int)).toNat:=by omega
  have hs:=wJy l h;have hle:=vXe l i;refine zQe (decide_eq_true (by simp only[Z.ofN,Z.len];omega)) ?_
  refine zQa (ixND h) (zQb (zWg l h _) ?_);by_cases h2:l[i].1=2
  ·rw[if_pos h2]at hs
   refine zQe (decide_eq_true h2) (zQb (zQ1 (by omega)) (zQb (zQ1 (by omega)) ?_))
   exact hk _ ⟨i+1,h,by rw[hs,Qz,List.length_singleton]⟩ dec
  ·rw[if_neg h2]at hs
   refine zQd (decide_eq_false h2) (zQb (zQ1 (by omega)) ?_)
   exact hk _ ⟨i+1,h,by rw[hs]⟩ dec
 ·refine zQd (decide_eq_false (by simp only[Z.ofN,Z.len];omega)) ?_
  rw[Qf (by omega)]
theorem uKe(d:List Lev)(l:List SeeT):reps d (wrL l)=reps d l:=by
 unfold reps wrL;induction l generalizing d with
 |nil=>rfl
 |cons x l ih=>
  by_cases h:x.1=2
  ·rw[List.filter_cons_of_pos (by simpa using h),List.foldl_cons,List.foldl_cons,ih]
  ·rw[List.filter_cons_of_neg (by simpa using h),List.foldl_cons,if_neg h,ih]
end Go.Proofs.Ytghnechjgchajaa
