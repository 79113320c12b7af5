/- DevReplays answers true. -/
import Derived.Test.YtnbmjkbbppcbcaaDevR
import Derived.Test.YtnbmjkbbppcbcaaM6
namespace Go.Proofs.Ytnbmjkbbppcbcaa
open Go.Eng
set_option linter.unusedVariables false
set_option linter.unusedSimpArgs false
theorem xW1 (c : CfgT) (d : List Lev) (l : List SeeT) (hl : l.length≤2000000) (hb : ∀ x∈l,x.2.2.2.1.length≤2000000) : zZi (c,((d,()),l))=some true:=by
  unfold zZi
  dsimp only
  refine wZw (fun j=>j=true∨(j=false∧yXh d=false)) (fun j hj=>?_) (fun k hk=>?_)
  · rcases hj with rfl | ⟨rfl, gd⟩
    · exact zQs rfl rfl
    refine zQp rfl ?_
    have hB:=uKs gd
    obtain ⟨g1,g2⟩:=wZz gd
    have i1 : d.length≤1000000000:=by omega
    have i2 : ∀ L∈d,L.length≤1000000000:=fun L hL=>by have:=(g2 L hL).1; omega
    refine zQ7 (twinG d hB) ?_
    refine zQ7 (wQr l hl hb) ?_
    refine zQ7 (uZq c d l i1 (fun L hL=>by have:=(g2 L hL).1; omega) hl) ?_
    refine zQ7 (wY5 c d l i1 i2 hl) ?_
    have last : ∀ j22 : Bool,j22=true→Z.join (σ:=Bool) (fun k96 =>
 (bif j22 then Z.bind (zK2 ((d,()),(d,()))) fun (x97 : Bool) =>
 (bif (Z.zQx true x97 false) then Z.bind (zZe (l,l)) fun (x98 : Bool) =>
 k96 (Z.zQx true x98 false)
 else k96 false)
 else k96 false)) (fun (j99 : Bool) =>
 some j99)=some true:=fun j22 hj=>by
      subst hj
      refine wZw (fun j=>j=true) (fun j hj=>by rw [hj]) (fun k hk=>?_)
      refine zQs rfl ?_
      refine zQ7 (zYm d d i1 i2) ?_
      rw [decide_eq_true rfl]
      refine zQs rfl ?_
      exact zQ7 (xZu l (by omega)) (hk _ rfl)
    have bad : ∀ e : Int,repR c d l=(([],([],[])),((.nil,()),e))→repD c d l=(([],()),e)→_:=fun e h1 h2=>(⟨h1,h2⟩ : repR c d l=(([],([],[])),((.nil,()),e))∧repD c d l=(([],()),e))
    have cases3 : (∃ e : Int,repR c d l=(([],([],[])),((.nil,()),e))∧repD c d l=(([],()),e))∨(yW3 c d∧(∀ x∈l,zKl d x)∧repR c d l=((qD (reps d l),(p1D d d.length,[p2D d d.length])),((.ref 0 0 d.length d.length,()),0))∧repD c d l=((reps d l,()),0)):=by
      unfold repR repD
      by_cases hok : yW3 c d
      · by_cases hall : ∀ x ∈ l, zKl d x
        · exact .inr ⟨hok,hall,by rw [if_pos hok,if_pos hall],by rw [if_pos hok,if_pos hall]⟩
        · exact .inl ⟨2,by rw [if_pos hok,if_neg hall],by rw [if_pos hok,if_neg hall]⟩
      · exact .inl ⟨8,by rw [if_neg hok],by rw [if_neg hok]⟩
    clear bad
    rcases cases3 with ⟨e,h1,h2⟩ | ⟨hok,hall,h1,h2⟩
    · rw [h1, h2]
      refine wZw (fun j=>j=true) (fun j hj=>?_) (fun k hk=>?_)
      · refine zQu (fun (s : Int × List Byt) => s.1 = 0) (fun s => 0) ?_ rfl (by omega)
        rintro s k hs hk
        refine zQp (by rw [hs]; rfl) ?_
        exact last j hj
      · refine zQa (by simp [Z.XOk, MixE.xok]) (zQ7 (y := []) rfl ?_)
        refine zQ7 (zYm [] [] (by simp) (by simp)) ?_
        rw [decide_eq_true rfl]
        exact zQs rfl (hk _ (by simp [Z.zQx,Z.ieq]))
    · rw [h1, h2]
      have hd:=yZa hall l.length (Qf _)
      rw [Jd] at hd
      have hok2:=uKb hd hok
      obtain ⟨b1,b2⟩:=yZ4 hok2
      refine wZw (fun j=>j=true) (fun j hj=>?_) (fun k hk=>?_)
      · exact wKo hB (reps d l) hd (last j hj)
      · obtain ⟨v1, v2⟩ := vKe hd
        refine zQa v1 (zQ7 v2 ?_)
        refine zQ7 (zYm _ _ (by omega) (fun L hL=>by have:=(b2 L hL).1; omega)) ?_
        rw [decide_eq_true rfl]
        exact zQs rfl (hk _ rfl)
  · refine zQ7 (xWp d) ?_
    cases gd : yXh d with
    | true=>exact zQs rfl (hk _ (.inl rfl))
    | false =>
      refine zQp rfl ?_
      obtain ⟨g,hg⟩:=xY2 l
      refine zQ7 hg ?_
      cases g with
      | true=>exact hk _ (.inl rfl)
      | false=>exact hk _ (.inr ⟨rfl,gd⟩)
theorem vZa {l : List Nat} {n : Nat} (h : n∈l) : n≤l.sum:=by
 induction l with
 | nil=>cases h
 | cons x l ih =>
  rcases Jf.1 h with rfl | h
  ·simp
  ·have:=ih h; simp only [List.sum_cons]; omega
theorem sizB (d : List Int) : siz (.list (.int .u8)) d=d.length+1:=by
 have key : ∀ d : List Int,(List.map (siz (.int .u8)) d).sum=d.length:=by
  intro d
  induction d with
  | nil=>rfl
  | cons x d ih =>
   rw [Qg,List.sum_cons,ih,Jl]
   show 1+d.length=d.length+1
   omega
 show (List.map (siz (.int .u8)) d).sum+1=d.length+1
 rw [key]
abbrev cSee : C:=.pair (.int .u8) (.pair (.int .i64) (.pair (.int .i64) (.pair (.list (.int .u8)) .unit)))
theorem vK5 (x : SeeT) : x.2.2.2.1.length+3≤siz cSee x:=by
 have:=sizB x.2.2.2.1
 simp only [siz] at this ⊢
 omega
theorem uZm {l : List SeeT} {n : Nat} (h : siz (.list cSee) l≤n) : l.length≤n∧∀ x∈l,x.2.2.2.1.length≤n:=by
 have h3 : siz (.list cSee) l=(l.map (siz cSee)).sum+1:=by simp only [siz]
 refine ⟨?_,fun x hx=>?_⟩
 ·have : ∀ l : List SeeT,l.length≤(l.map (siz cSee)).sum:=by
   intro l
   induction l with
   | nil=>simp
   | cons x l ih =>
    have:=vK5 x
    rw [Qg,List.sum_cons,Jl]; omega
  have:=this l
  omega
 ·have h1 := vK5 x
  have h2:=vZa (List.mem_map_of_mem (f:=siz cSee) hx)
  omega
theorem yQ1 (d : Els zWt.args) (hf : Fits zWt.args d) (hz : sizs zWt.args d≤1048576) : zZi d=some true:=by
 obtain ⟨c,⟨d,_⟩,l⟩:=d
 have h1 : siz (.list cSee) l≤1048576:=by
  simp only [sizs,zWt] at hz
  unfold cSee
  omega
 obtain ⟨a,b⟩:=uZm h1
 exact xW1 c d l (by omega) fun x hx=>by have:=b x hx; omega
end Go.Proofs.Ytnbmjkbbppcbcaa
