/- Frames: the document's copies. -/
import Derived.Test.YtablhcjjfiepaaaFrtwin
import Derived.Test.YtablhcjjfiepaaaMix
namespace Go.Proofs.Ytablhcjjfiepaaa
open Go.Eng
set_option linter.unusedVariables false
set_option linter.unusedSimpArgs false
theorem yXo (x : FrT) (h1 : x.2.2.1.length ≤ 1000) (h2 : x.2.2.2.1.length ≤ 1000) :
    zZb (x.1,(x.2.1,(x.2.2.1,(x.2.2.2.1,(x.2.2.2.2.1,(x.2.2.2.2.2.1,()))))))=some x:=by
  unfold zZb
  dsimp only
  have b1 : ¬ Dat.Big (Dat.len (Dat.seg ([] : List Int) 0 0)) (Dat.len x.2.2.1) 1:=yJt (by simp [Dat.len,Dat.seg]) (by simp only [Dat.len]; omega) (by omega)
  have b2 : ¬ Dat.Big (Dat.len (Dat.seg ([] : List Int) 0 0)) (Dat.len x.2.2.2.1) 8:=yJt (by simp [Dat.len,Dat.seg]) (by simp only [Dat.len]; omega) (by omega)
  have e0 : ∀ y : List Int,Dat.app (Dat.seg ([] : List Int) 0 0) y=y:=fun y=>rfl
  have e1 : ∀ y : List Int,Dat.seg y 0 (Dat.len y)=y:=fun y=>by simp [Dat.seg,Dat.len]
  have e2 : ∀ y : List Int,Dat.Le (Dat.addN 0 (Dat.len y)) (Dat.len y):=fun y=>by simp [Dat.Le,Dat.addN,Dat.len]
  have z : ∀ y : List Int,y.length=0→y=[]:=fun y h=>List.length_eq_zero_iff.1 h
  first
  | (refine zQb (Nat.le_refl _) (zXh b1 ?_)
     refine zQb (Nat.le_refl _) (zXh b2 ?_)
     rfl)
  | (refine zQb (Nat.le_refl _) ?_
     by_cases h3 : x.2.2.1.length=0
     · refine iteP h3 (zQb (Nat.le_refl _) ?_)
       by_cases h4 : x.2.2.2.1.length=0
       · refine iteP h4 (zQb (Nat.le_refl _) (zQb (Nat.le_refl _) ?_))
         have a1:=z _ h3
         have a2:=z _ h4
         simp only [Dat.seg,List.drop_nil,List.take_nil]
         exact congrArg some (Prod.ext rfl (Prod.ext rfl (Prod.ext a1.symm (Prod.ext a2.symm rfl))))
       · refine iteN h4 (zXh b2 (zQe (e0 _) (zQb (Nat.le_refl _) (zQb (e2 _) ?_))))
         rw [e1]
         exact congrArg some (Prod.ext rfl (Prod.ext rfl (Prod.ext (z _ h3).symm (Prod.ext rfl rfl))))
     · refine iteN h3 (zXh b1 (zQe (e0 _) (zQb (Nat.le_refl _) ?_)))
       by_cases h4 : x.2.2.2.1.length=0
       · refine iteP h4 (zQb (e2 _) (zQb (Nat.le_refl _) ?_))
         rw [e1]
         exact congrArg some (Prod.ext rfl (Prod.ext rfl (Prod.ext rfl (Prod.ext (z _ h4).symm rfl))))
       · refine iteN h4 (zXh b2 (zQe (e0 _) (zQb (e2 _) (zQb (e2 _) ?_))))
         rw [e1,e1])
theorem yQ3 (l : List FrT) (h : Int) (hs : zW0 l) : zJm (l,h,())=some (l,h,()):=by
 unfold zJm
 dsimp only
 refine zQ2 (fun (s : Int×(List (List FrT)×(MixE FrT×Int)))=>∃ i : Nat,s.1=i∧i≤l.length∧GR s.2.1 s.2.2.1 (l.take i)∧s.2.2.2=h) (fun s=>l.length - s.1.toNat) ?_ ⟨0,rfl,Nat.zero_le _,gr_new,rfl⟩ (zK1 _ _ (by have:=hs.1; omega))
 rintro ⟨s1,m,d,s4⟩ k ⟨i,rfl,hi,hg,rfl⟩ hk
 dsimp only at hk hg ⊢
 by_cases hlt : i < l.length
 ·have hsm := hs.2 _ (List.getElem_mem hlt)
  refine zQi (decide_eq_true (by simp only [Dat.ofN,Dat.len]; omega)) ?_
  refine zQb (show Dat.Ix (i : Int) (Dat.len l) from ⟨by omega,by simp only [Dat.len]; omega⟩) ?_
  refine zQe (fget l hlt) ?_
  refine zQp (yXo l[i] (by omega) (by omega)) ?_
  refine zQb (Nat.le_refl _) ?_
  refine zQb (gr_gr hg) ?_
  refine iteN (by simp [Dat.len,Dat.seg]) ?_
  have hti : (l.take i).length=i:=by rw [List.length_take]; omega
  refine zXh (yJt (by rw [gr_len hg,hti]; have:=hs.1; omega) (by simp [Dat.len,Dat.seg]) (by omega)) ?_
  have hn:=gr_app hg [l[i]]
  rw [← List.take_succ_eq_append_getElem hlt] at hn
  refine zQe rfl ?_
  refine zQe rfl ?_
  refine zQe (zZh (x:=Dat.add (i : Int) 1) (by simp only [Dat.add]; have:=hs.1; omega)) ?_
  exact hk _ ⟨i+1,rfl,hlt,hn,rfl⟩ (by simp only [Dat.add]; omega)
 ·refine zQh (decide_eq_false (by simp only [Dat.ofN, Dat.len]; omega)) ?_
  refine zQb (gr_w hg) ?_
  refine zQe (gr_get hg) ?_
  rw [List.take_of_length_le (by omega)]
end Go.Proofs.Ytablhcjjfiepaaa
