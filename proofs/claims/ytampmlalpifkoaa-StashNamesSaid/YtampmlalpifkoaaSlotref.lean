/- The document's answers for slots. -/
import Derived.Test.YtampmlalpifkoaaSlot
namespace Go.Proofs.Ytampmlalpifkoaa
open Go.Eng
set_option linter.unusedVariables false
set_option linter.unusedSimpArgs false
theorem zJd (i f : Int) (d : List Int) (hd : d.length≤2000000) : zW2 (i,f,d,())=some (i,f,d,()):=by
  unfold zW2
  have c1 : Z.Le (Z.addN 0 0) (Z.len ([] : List Int)):=Qf _
  have s0 : Z.seg ([] : List Int) 0 0=[]:=rfl
  have c8 : ¬ Z.Big (Z.len ([] : List Int)) (Z.len d) 1:=by show ¬ (2 ^ 44 < (([] : List Int).length+d.length) * (1+1)); simp only [Ks]; omega
  have c7 : Z.Le (Z.addN 0 (Z.len d)) (Z.len d):=by show 0+d.length≤d.length; omega
  have sa : Z.seg d 0 (Z.len d)=d:=by show (d.drop 0).take d.length=d; rw [Q6,Ja]
  simp only
  first
  | (cases d with
     | nil =>
       rw [if_pos (show Z.EqN (Z.len ([] : List Int)) 0 from rfl),yX4 _ (by simp),Z.bind_some]
       rfl
     | cons x d =>
       have n0 : ¬ Z.EqN (Z.len (x::d)) 0:=by show ¬ ((x::d).length=0); simp
       have a0 : Z.app ([] : List Int) (x::d)=x::d:=rfl
       rw [if_neg n0,if_neg n0,if_pos c1,if_neg n0,s0,if_neg c8,Z.xQn,a0,if_pos c7,vWr _ (Qf _)]
     done)
  | (rw [yX4 _ (by omega), Z.bind_some]
     by_cases h0 : Z.EqN (Z.len d) 0
     · rw [if_pos h0,if_pos h0]
     · rw [if_neg h0,if_pos c7,sa]
     done)
  | (rw [yX4 _ (by omega),Z.bind_some])
def vWu (i f : Int) (d : List Int) (i' f' : Int) (d' : List Int) : Bool:=decide (i=i'∧f=f'∧Z.str d=Z.str d')
theorem xY8 (i f : Int) (d : List Int) : vWu i f d i f d=true:=decide_eq_true ⟨rfl,rfl,rfl⟩
theorem yKq (i f : Int) (d : List Int) (i' f' : Int) (d' : List Int) : zJo ((i,f,d,()),(i',f',d',()))=some (vWu i f d i' f' d'):=by
 unfold zJo vWu
 have pt : ∀ b : Bool,Z.zWj true b false=b:=fun b=>by cases b<;>rfl
 simp only
 rw [yKr,pt,Z.bind_some,pt]
 by_cases h1 : i=i'
 ·rw [show Z.ieq i i' = true by simp [Z.ieq, h1], cond_true]
  by_cases h2 : f=f'
  ·rw [show Z.ieq f f' = true by simp [Z.ieq, h2], cond_true]
   simp [h1,h2]
  ·rw [show Z.ieq f f' = false by simp [Z.ieq, h2], cond_false]
   simp [h2]
 ·rw [show Z.ieq i i' = false by simp [Z.ieq, h1], cond_false]
  simp [h1]
end Go.Proofs.Ytampmlalpifkoaa
