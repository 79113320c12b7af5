/- FramesTell answers true. -/
import Derived.Test.YtablhcjjfiepaaaFrspg
namespace Go.Proofs.Ytablhcjjfiepaaa
open Go.Eng
set_option linter.unusedVariables false
set_option linter.unusedSimpArgs false
theorem wK4 (x : FrT) : yQx x x=true:=by simp [yQx]
theorem yK3 (l : List FrT) (h : Int) : xXm l h l h=true:=by
 rw [yK2 rfl rfl]
 exact decide_eq_true fun i _=>wK4 _
theorem vWt (c : CfgT) (hm : mayB c=true) : (yJm c).length < 9223372036854775807∧∀ x∈yJm c,x.2.2.2.1.length < 9223372036854775807:=by
 obtain ⟨hf,hc0,hc1⟩:=vQ0 hm
 refine ⟨by simp only [yJm,List.length_replicate]; omega,fun x hx=>?_⟩
 rw [yJm] at hx
 rw [List.eq_of_mem_replicate hx]
 simp only [xWi,List.length_replicate]; omega
theorem wY5 {l : List FrT} (hs : zW0 l) : l.length < 9223372036854775807∧∀ x∈l,x.2.2.2.1.length < 9223372036854775807 :=
 ⟨by have:=hs.1; omega,fun x hx=>by have:=hs.2 x hx; omega⟩
theorem xX5 (c : CfgT) (l : List FrT) (h : Int) (lo : List FrT) (ho pg : Int) (hlen : l.length≤9223372036854775807) (hlen2 : lo.length≤9223372036854775807) : zZt (c,((l,(h,())),((lo,(ho,())),pg)))=some true:=by
 unfold zZt
 dsimp only
 refine wKe (fun j=>j=true∨(zW0 l∧zW0 lo)) (r:=some true) ?_ ?_
 rotate_left
 ·intro k hk
  refine zQp (yQq l h hlen) ?_
  cases hg : yKf l with
  | true=>exact zQi rfl (hk _ (.inl rfl))
  | false =>
   refine zQh rfl ?_
   refine zQp (yQq lo ho hlen2) ?_
   cases hg2 : yKf lo with
   | true=>exact hk _ (.inl rfl)
   | false=>exact hk _ (.inr ⟨yYi hg,yYi hg2⟩)
 intro j hj
 cases j with
 | true=>exact zQi rfl rfl
 | false =>
  obtain ⟨hs,hso⟩ : zW0 l∧zW0 lo:=by rcases hj with h | h; cases h; exact h
  refine zQh rfl ?_
  refine zQp (yQ3 l h hs) ?_
  refine zQp (xWy c) ?_
  refine zQp (xXn c) ?_
  refine zQp (find_ok c l h pg hs) ?_
  refine zQp (xQw c l h pg hs) ?_
  obtain ⟨X,hX,hvic⟩:=zK7 c l h hs
  refine zQp hX ?_
  refine zQp (yK6 c l h hs) ?_
  obtain ⟨T,dt,hT,sT,hTh⟩:=vZc l h hs
  refine zQp hT ?_
  have hA : zW0 (if chkF c l h=0 then vicS l h else (([],0,()),0,chkF c l h)).1.1:=by
   by_cases hc : chkF c l h=0
   ·rw [if_pos hc]; exact wYe hs hc
   ·rw [if_neg hc]; exact ⟨by simp,fun x hx=>by simp at hx⟩
  obtain ⟨⟨dv,sV⟩,hVh,hVe⟩:=vJo hvic
  generalize (if chkF c l h=0 then vicS l h else (([],0,()),0,chkF c l h))=A at *
  obtain ⟨⟨LA,hA1,_⟩,eA1,eA2⟩:=A
  dsimp only at hA sV hVh hVe ⊢
  generalize (if chkF c l h=0 then (match atF l pg with | some i=>((i : Int),true) | none=>(0,false)) else (0,false))=FD at *
  have hsame0 : ∀ N : (List FrT×(Int×Unit))×Int,N=(if mayB c=true then ((yJm c,(0,())),0) else (([],(0,())),8))→zXc ((N.1.1,(N.1.2.1,())),(N.1.1,(N.1.2.1,())))=some true:=by
   rintro N rfl
   cases hm : mayB c with
   | true =>
    obtain ⟨g1,g2⟩:=vWt c hm
    simp only [if_true]
    rw [zJp _ _ _ _ g1 g2,yK3]
   | false =>
    simp only [Bool.false_eq_true,if_false]
    rw [zJp _ _ _ _ (by simp) (by simp),yK3]
  generalize hN : (if mayB c=true then ((yJm c,((0 : Int),())),(0 : Int)) else (([],(0,())),8))=N at *
  have hs0:=hsame0 N rfl
  obtain ⟨sl1,sl2⟩:=wY5 hs
  refine wKe (fun j=>j=true) (r:=some true) ?_ ?_
  rotate_left
  ·intro k hk
   refine zQp hs0 ?_
   refine zQi rfl (zQi (by simp [Dat.zQg,Dat.ieq]) (zQi (by simp [Dat.zQg,Dat.ieq]) (zQi (by simp [Dat.zQg,Dat.beq]) ?_)))
   rw [hVh]
   refine vK1 sV hA (fun e h1 h2=>zQb h1 (zQe rfl (zQb h2 (zQe rfl rfl)))) ?_
   rw [hVe]
   refine zQi rfl (zQi (by simp [Dat.zQg,Dat.ieq]) (zQi (by simp [Dat.zQg,Dat.ieq]) ?_))
   rw [hTh]
   refine vK1 sT hs (fun e h1 h2=>zQb h1 (zQe rfl (zQb h2 (zQe rfl rfl)))) ?_
   exact hk _ rfl
  rintro j rfl
  refine wKe (fun j=>j=true) (r:=some true) ?_ ?_
  rotate_left
  ·intro k hk
   refine zQp (xYf hs) ?_
   refine zQp (zZr c l h hs) ?_
   refine zQi (by simp [Dat.ieq]) ?_
   refine zQp (yQt l h lo ho sl1 sl2) ?_
   refine zQp (zJp l h lo ho sl1 sl2) ?_
   refine zQi (by cases xXm l h lo ho<;>rfl) ?_
   refine zQp (yQt l h l h sl1 sl2) ?_
   rw [yK3]
   refine zQi rfl ?_
   refine zQp (yJo c l h hs) ?_
   refine zQp (yYq c l h hs) ?_
   refine zQp (zJr _ _ ?_) ?_
   ·split
    ·exact Nat.lt_of_le_of_lt (xKi _ _) sl1
    ·simp
   ·exact hk _ (by simp [Dat.zQg])
  rintro j rfl
  refine wY1 sV hA (r:=true) fun _=>?_
  refine wY1 sT hs (r:=true) fun _=>?_
  refine wKe (fun j=>j=true) (r:=some true) (by rintro j rfl; rfl) ?_
  intro k hk
  refine zQi rfl (zQi rfl ?_)
  refine zQp (yQ4 l h hs) ?_
  exact hk _ rfl
theorem yWn (d : Els zZa.args) (hf : Fits zZa.args d) : zZt d=some true:=by
 obtain ⟨c,⟨l,h,_⟩,⟨lo,ho,_⟩,pg⟩:=d
 have hl : l.length≤maxLen:=hf.2.1.1.1
 have hl2 : lo.length≤maxLen:=hf.2.2.1.1.1
 rw [vQ4] at hl hl2
 exact xX5 c l h lo ho pg hl hl2
end Go.Proofs.Ytablhcjjfiepaaa
