/- The document's answers for slots. -/
import Derived.Test.YtfeemnbhcafofaaDoorSlot
namespace Go.Proofs.YtfeemnbhcafofaaDoor
open Go.Eng
set_option linter.unusedVariables false
set_option linter.unusedSimpArgs false
theorem xJb (B S H W i f : Int) (d : List Int) (hl : wZ1 B S H=true) : yK9 ((B,S,H,W,()),(i,f,d,()))=some (yYf B S H i f d):=by
 unfold yK9
 obtain ⟨l1,l2,l3,l4,l5,l6⟩:=yKj.1 hl
 have hH:=yY1.1 l5
 have pt : ∀ b : Bool,Z.zQr true b false=b:=fun b=>by cases b<;>rfl
 have bad : ¬ (0≤i∧i < B∧0≤f∧f < 2 ^ H.toNat∧(d.length : Int)=S)→yYf B S H i f d=false:=fun h=>decide_eq_false h
 simp only
 rw [pt,pt]
 by_cases c1 : i < 0
 ·rw [show Z.ige i 0=false by simp [Z.ige,c1],cond_false,bad (by omega)]
 rw [show Z.ige i 0=true by simp [Z.ige]; omega,cond_true]
 by_cases c2 : i ≥ B
 ·rw [show Z.ilt i B=false by simp [Z.ilt]; omega,cond_false,bad (by omega)]
 rw [show Z.ilt i B=true by simp [Z.ilt]; omega,cond_true]
 by_cases c3 : f < 0
 ·rw [show Z.ige f 0=false by simp [Z.ige,c3],cond_false,bad (by omega)]
 rw [show Z.ige f 0=true by simp [Z.ige]; omega,cond_true,zJu H (by omega) (by omega),Z.bind_some,pt,pt]
 by_cases c4 : f ≥ 2 ^ H.toNat
 ·rw [show Z.ilt f (2 ^ H.toNat)=false by simp [Z.ilt]; omega,cond_false,bad (by omega)]
 rw [show Z.ilt f (2 ^ H.toNat)=true by simp [Z.ilt]; omega,cond_true]
 by_cases c5 : (d.length : Int)=S
 ·rw [show Z.ieq (Z.ofN (Z.len d)) S=true by simp [Z.ieq,c5],show yYf B S H i f d=true from decide_eq_true ⟨by omega,by omega,by omega,by omega,c5⟩]
 ·rw [show Z.ieq (Z.ofN (Z.len d)) S=false by simp [Z.ieq,c5],bad (fun h=>c5 h.2.2.2.2)]
theorem wQ2 (i f : Int) (d : List Int) (i0 : 0≤i) (i1 : i≤64) (f0 : 0≤f) (f1 : f≤64) (hd : d.length≤32) : yZb (i,f,d,())=some (wQt i f d):=by
 unfold yZb wQt
 have w1 : Z.wrap .i64 (Z.add i 1)=i+1:=Z.wrap_i64 (by show _≤i+1; omega) (by show i+1≤_; omega)
 have w2 : Z.wrap .u64 (i+1)=i+1:=Z.zZn (by omega) (by omega)
 have w3 : Z.wrap .u64 f=f:=Z.zZn (by omega) (by omega)
 have c4 : Z.Le (Z.addN 0 2) (Z.len ((i+1)::(f::([] : List Int)))):=Qe _
 have c5 : Z.Le (Z.addN 0 2) (Z.len ((4 : Int)::(4::([] : List Int)))):=Qe _
 have s1 : Z.seg ((i+1)::(f::([] : List Int))) 0 2=[i+1,f]:=rfl
 have s2 : Z.seg ((4 : Int)::(4::([] : List Int))) 0 2=[4,4]:=rfl
 have hl : (digs (i+1) 4++digs f 4).length=8:=by rw [Qt,zYh,zYh]
 have c6 : ¬ Z.EqN (Z.len (digs (i+1) 4++digs f 4)) 0:=by show ¬ ((digs (i+1) 4++digs f 4).length=0); omega
 have c7 : Z.Le (Z.addN 0 (Z.len (digs (i+1) 4++digs f 4))) (Z.len (digs (i+1) 4++digs f 4)):=by show 0+(digs (i+1) 4++digs f 4).length≤(digs (i+1) 4++digs f 4).length; omega
 have c8 : ¬ Z.Big (Z.len (digs (i+1) 4++digs f 4)) (Z.len d) 1:=by show ¬ (2 ^ 44 < ((digs (i+1) 4++digs f 4).length+d.length) * (1+1)); omega
 simp only
 rw [w1, Z.zQ9, w2, Z.zQ9, w3, Z.zQ9, if_pos c4, if_pos c5, s1, s2,
  xJc _ _ (by simp) (by simp) (fun m hm=>by simp at hm; omega),Z.bind_some,vZv (by omega) (by omega) (by omega) (by omega)]
 simp only
 rw [if_neg c6,if_pos c7,wK7 _ (Qe _),if_neg c8,Z.zQ9,if_pos True.intro]
theorem xX3 (i f : Int) (d : List Int) (hd : d.length≤2000000) : yX9 (i,f,d,())=some (i,f,d,()):=by
  unfold yX9
  have c1 : Z.Le (Z.addN 0 0) (Z.len ([] : List Int)):=Qe _
  have s0 : Z.seg ([] : List Int) 0 0=[]:=rfl
  have c8 : ¬ Z.Big (Z.len ([] : List Int)) (Z.len d) 1:=by show ¬ (2 ^ 44 < (([] : List Int).length+d.length) * (1+1)); simp only [Jt]; omega
  have a0 : Z.app ([] : List Int) d=d:=rfl
  have c7 : Z.Le (Z.addN 0 (Z.len d)) (Z.len d):=by show 0+d.length≤d.length; omega
  have sa : Z.seg d 0 (Z.len d)=d:=by show (d.drop 0).take d.length=d; rw [Jk,Q8]
  simp only
  rw [if_pos c1]
  first
  | (rw [s0, if_neg c8, Z.zQ9]
     rfl
     done)
  | (by_cases h0 : Z.EqN (Z.len d) 0
     · have hn : d = [] := Qu.1 h0
       rw [if_pos h0,if_pos c1,s0,hn]
     · rw [if_neg h0,s0,if_neg c8,Z.zQ9,a0,if_pos c7,sa])
def uX3 (i f : Int) (d : List Int) (i' f' : Int) (d' : List Int) : Bool:=decide (i=i'∧f=f'∧Z.str d=Z.str d')
theorem vWp (i f : Int) (d : List Int) : uX3 i f d i f d=true:=decide_eq_true ⟨rfl,rfl,rfl⟩
theorem xX4 (i f : Int) (d : List Int) (i' f' : Int) (d' : List Int) : yZa ((i,f,d,()),(i',f',d',()))=some (uX3 i f d i' f' d'):=by
 unfold yZa uX3
 have pt : ∀ b : Bool,Z.zQr true b false=b:=fun b=>by cases b<;>rfl
 simp only
 rw [yWy,pt,Z.bind_some,pt]
 by_cases h1 : i=i'
 ·rw [show Z.ieq i i' = true by simp [Z.ieq, h1], cond_true]
  by_cases h2 : f=f'
  ·rw [show Z.ieq f f' = true by simp [Z.ieq, h2], cond_true]
   simp [h1,h2]
  ·rw [show Z.ieq f f' = false by simp [Z.ieq, h2], cond_false]
   simp [h2]
 ·rw [show Z.ieq i i' = false by simp [Z.ieq, h1], cond_false]
  simp [h1]
end Go.Proofs.YtfeemnbhcafofaaDoor
