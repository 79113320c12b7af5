/- DevTells answers true. -/
import Derived.Test.YtnbmjkbbppcbcaaDevT
namespace Go.Proofs.Ytnbmjkbbppcbcaa
open Go.Eng
set_option linter.unusedVariables false
set_option linter.unusedSimpArgs false
theorem vXs {d : List Lev} (h : zJ4 d=false) : d.length≤1000000000∧∀ L∈d,L.length≤1000000000:=by
 obtain ⟨h1,h2⟩:=wXv h
 exact ⟨by omega,fun L hL=>by have:=h2 L hL; omega⟩
theorem uQ2 (c : CfgT) : (newD c).1.1.length≤1000000000∧∀ L∈(newD c).1.1,L.length≤1000000000:=by
 unfold newD
 split
 ·rename_i h
  obtain ⟨b1,b2⟩:=vX3 (nw_ok h)
  exact ⟨by show (nwS c).length≤_; omega,fun L hL=>by have:=(b2 L hL).1; omega⟩
 ·exact ⟨by show 0≤_; omega,fun L hL=>by simp at hL⟩
theorem xYg (c : CfgT) (d o : List Lev) : zKc (c,((d,()),(o,())))=some true:=by
 unfold zKc
 dsimp only
 refine wXs (fun j=>j=true∨(j=false∧zJ4 d=false∧zJ4 o=false)) (fun j hj=>?_) (fun k hk=>?_)
 ·rcases hj with rfl | ⟨rfl, gd, go⟩
  ·exact zQy rfl rfl
  refine zQz rfl ?_
  have hb:=uWi gd
  obtain ⟨i1,i2⟩:=vXs gd
  obtain ⟨n1,n2⟩:=uQ2 c
  refine zQ6 (xX7 d hb) ?_
  refine zQ6 (wKf c) (zQ6 (xJg c) ?_)
  refine zQ6 (xQd d hb) ?_
  refine wXs (fun j=>j=true) (fun j13 hj=>?_) (fun k hk=>?_)
  ·subst hj
   refine wXs (fun j=>j=true) (fun j30 hj=>?_) (fun k hk=>?_)
   ·subst hj
    refine vWu hb ?_
    refine wXs (fun j=>j=true) (fun j hj=>by rw [hj]) (fun k hk=>?_)
    refine zQy rfl (zQy rfl ?_)
    refine zQ6 (zKw d d i1 i2) ?_
    exact hk _ (by rw [decide_eq_true rfl]; rfl)
   ·refine zQ6 (xQe d o i1 i2) (zQ6 (zKw d o i1 i2) ?_)
    refine zQy (by simp [Z.beq]) ?_
    refine zQ6 (xQe d d i1 i2) ?_
    refine zQy (by rw [decide_eq_true rfl]; rfl) ?_
    obtain ⟨v1,v2⟩:=vX2 (d:=d) (d':=d) rfl
    refine zQb v1 (zQ6 v2 ?_)
    refine zQ6 (zKw d d i1 i2) ?_
    exact hk _ (by rw [decide_eq_true rfl]; rfl)
  ·refine zQ6 (zKw _ _ n1 n2) ?_
   refine zQy (decide_eq_true rfl) ?_
   refine zQy (by simp [Z.zWw,Z.ieq]) ?_
   refine zQ6 (xWe c d i1 i2) (zQ6 (xQ2 c d i1 i2) ?_)
   exact hk _ (by simp [Z.zWw,Z.ieq])
 ·refine zQ6 (yWx d) ?_
  cases gd : zJ4 d with
  | true=>exact zQy rfl (hk _ (.inl rfl))
  | false =>
   refine zQz rfl ?_
   refine zQ6 (yWx o) ?_
   cases go : zJ4 o with
   | true=>exact hk _ (.inl rfl)
   | false=>exact hk _ (.inr ⟨rfl,gd,go⟩)
theorem yXi (d : Els zZf.args) (hf : Fits zZf.args d) : zKc d=some true:=by
 obtain ⟨c,⟨d,_⟩,⟨o,_⟩⟩:=d
 exact xYg c d o
end Go.Proofs.Ytnbmjkbbppcbcaa
