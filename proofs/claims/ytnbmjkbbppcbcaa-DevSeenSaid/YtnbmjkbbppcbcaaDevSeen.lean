/- DevSeen answers true. -/
import Derived.Test.YtnbmjkbbppcbcaaDevBack
namespace Go.Proofs.Ytnbmjkbbppcbcaa
open Go.Eng
set_option linter.unusedVariables false
set_option linter.unusedSimpArgs false
theorem xZf (k level : Int) (at_ : List Int) (all : List Byt) {i : Nat} (h1 : i < at_.length) (h2 : i < all.length) (h : i < (zXw k level at_ all).length) : (zXw k level at_ all)[i]=(k,(level,(at_[i],(all[i],())))):=by simp [zXw]
theorem xZe {k level : Int} {at_ : List Int} {all : List Byt} {x : SeeT} (hx : x∈zXw k level at_ all) : ∃ (i : Nat) (h1 : i < at_.length) (h2 : i < all.length),x=(k,(level,(at_[i],(all[i],())))):=by
 obtain ⟨i,hi,rfl⟩:=List.getElem_of_mem hx
 have hl : (zXw k level at_ all).length=min at_.length all.length:=by simp [zXw]
 exact ⟨i,by omega,by omega,xZf k level at_ all (by omega) (by omega) hi⟩
theorem vXc (d : List Lev) (l m : List SeeT) : reps d (l++m)=reps (reps d l) m:=by unfold reps; rw [List.foldl_append]
theorem wJ3 : ∀ (l : List SeeT) (d : List Lev), (∀ x ∈ l, x.1 = 1) → reps d l = d
 | [],_,_=>rfl
 | x::l,d,h=>by
  have h1:=h x (by simp)
  have e : reps d (x::l)=reps (if x.1=2 then wrB d x.2.1 x.2.2.1 x.2.2.2.1 else d) l:=rfl
  rw [e,if_neg (by rw [h1]; decide)]
  exact wJ3 l d fun y hy=>h y (by simp [hy])
theorem vXb (d : List Lev) (level : Int) (at_ : List Int) (all : List Byt) : reps d (zXw 2 level at_ all)=wrs d level at_ all:=by
 unfold reps zXw wrs
 rw [List.foldl_map]
 rfl
theorem vZ5 {d : List Lev} {level : Int} {at_ : List Int} (hp : plD d level at_) {i : Nat} (h : i < at_.length) : plD d level [at_[i]]:=⟨hp.1,fun x hx=>by
 rw [List.mem_singleton] at hx
 subst hx
 exact hp.2 _ (Q6 h)⟩
theorem wQ2 (c : CfgT) (d : List Lev) (level : Int) (at_ : List Int) (all : List Byt) : zKx (c,((d,()),(level,(at_,all))))=some true:=by
 unfold zKx
 dsimp only
 refine zQv uXa ?_
 refine yY4 (fun j=>j=true∨(j=false∧yW3 d=false∧at_.length≤20∧all.length≤20)) (fun j hj=>?_) (fun k hk=>?_)
 ·rcases hj with rfl | ⟨rfl, gd, ha, hb⟩
  ·exact zQs rfl rfl
  refine zQq rfl ?_
  obtain ⟨i1,i2⟩:=vX7 gd
  have i3 : ∀ L∈d,L.length≤100000000:=fun L hL=>by have:=(wXv gd).2 L hL; omega
  refine zQv (yW5 c d level at_ all i1 i2 (by omega) (by omega)) ?_
  refine zQv (yZs c d level at_ i1 i2 (by omega)) ?_
  by_cases hgood : zYz c d∧wrOk d level at_ all
  ·obtain ⟨hok, hw⟩ := hgood
   have ew : wrD c d level at_ all=((wrs d level at_ all,()),(zXw 2 level at_ all,0)):=by unfold wrD; rw [if_pos hok,if_pos hw]
   have er : rdD c d level at_=(at_.map (bkt d level),(zXw 1 level at_ (at_.map (bkt d level)),0)):=by unfold rdD; rw [if_pos hok,if_pos hw.1]
   rw [ew,er]
   have hlen:=hw.2.1
   have ml : (at_.map (bkt d level)).length=at_.length:=by simp
   have s1 : (zXw 1 level at_ (at_.map (bkt d level))).length=at_.length:=xJg _ _ _ _ ml
   have s2 : (zXw 2 level at_ all).length=at_.length:=xJg _ _ _ _ hlen
   refine yY4 (fun j=>j=false) (fun j hj=>?_) (fun k hk=>zQq rfl (hk _ rfl))
   subst hj
   refine zQq rfl ?_
   refine zQa (Qf _) ?_
   refine zZf (bigD (by show 0≤2000000; omega) (by simp only [Z.len]; omega) (by omega)) ?_
   refine zQd (y:=zXw 1 level at_ (at_.map (bkt d level))) rfl ?_
   refine zZf (bigD (by simp only [Z.len]; omega) (by simp only [Z.len]; omega) (by omega)) ?_
   refine zQa rfl ?_
   refine zQd (y:=zXw 1 level at_ (at_.map (bkt d level))++zXw 2 level at_ all) rfl ?_
   refine zQv (xQl c d _ i1 i3 (by rw [Q4]; omega)) ?_
   have hall : ∀ x∈zXw 1 level at_ (at_.map (bkt d level))++zXw 2 level at_ all,yJc d x:=by
    intro x hx
    rcases Qu.1 hx with hx | hx
    ·obtain ⟨i, h1, h2, rfl⟩ := xZe hx
     refine ⟨.inl rfl,vZ5 hw.1 h1, ?_⟩
     show ((at_.map (bkt d level))[i]).length=(bkt d level at_[i]).length
     rw [List.getElem_map]
    ·obtain ⟨i, h1, h2, rfl⟩ := xZe hx
     exact ⟨.inr rfl,vZ5 hw.1 h1,hw.2.2 i h1 h2⟩
   have e22 : repD c d (zXw 1 level at_ (at_.map (bkt d level))++zXw 2 level at_ all)=((wrs d level at_ all,()),0):=by
    unfold repD
    rw [if_pos hok,if_pos hall,vXc,wJ3 _ d (fun x hx=>by obtain ⟨i,h1,h2,rfl⟩:=xZe hx; rfl),vXb]
   rw [e22]
   obtain ⟨e1,e2⟩:=uQz (wYf (wWm hok hw) hok)
   refine yY4 (fun j=>j=false) (fun j hj=>?_) (fun k hk=>?_)
   ·subst hj
    refine zQq rfl ?_
    refine zQ3 (fun (s : Int)=>∃ i : Nat,s=(i : Int)∧i≤at_.length) (fun s=>at_.length - s.toNat) ?_ ⟨0,rfl,Jj _⟩ (zKh _ _ (by omega))
    rintro s k ⟨i,rfl,hi⟩ hk
    by_cases h : i < at_.length
    ·refine zQs (decide_eq_true (by simp only [Z.ofN, Z.len]; omega)) ?_
     have h1 : i < (zXw 1 level at_ (at_.map (bkt d level))).length:=by omega
     have h2 : i < (zXw 2 level at_ all).length:=by omega
     have hm : i < (at_.map (bkt d level)).length:=by omega
     have ha' : i < all.length:=by omega
     have x1:=ixND h1
     have x2:=ixND h2
     have g1:=(zXl _ h1 (0,(0,(0,(([] : List (Int)),()))))).trans (xZf 1 level at_ (at_.map (bkt d level)) h hm h1)
     have g2:=(zXl _ h2 (0,(0,(0,(([] : List (Int)),()))))).trans (xZf 2 level at_ all h ha' h2)
     refine yY4 (fun j=>j=false) (fun j hj=>?_) (fun k' hk'=>?_)
     ·subst hj
      refine zQq rfl (zQd (zXv (by omega)) ?_)
      exact hk _ ⟨i+1,rfl,h⟩ (by show at_.length - ((i+1 : Nat) : Int).toNat < at_.length - ((i : Int)).toNat; omega)
     ·refine zQa x1 (zQd g1 (zQq rfl ?_))
      refine zQa x2 (zQd g2 (zQq rfl ?_))
      refine zQa x1 (zQd g1 (zQq (by simp [Z.zQz,Z.ine]) ?_))
      refine zQa x1 (zQd g1 (zQa (ixND h) (zQd (zXl at_ h _) ?_)))
      refine zQq (by simp [Z.zQz,Z.ine]) ?_
      refine zQa x1 (zQd g1 (zQa (ixND hm) (zQd (zXl _ hm _) ?_)))
      refine zQv (zYf _ _) ?_
      rw [decide_eq_true rfl]
      refine zQq rfl ?_
      refine zQa x2 (zQd g2 (zQa (ixND ha') (zQd (zXl _ ha' _) ?_)))
      refine zQv (zYf _ _) ?_
      rw [decide_eq_true rfl]
      exact hk' _ rfl
    ·refine zQq (decide_eq_false (by simp only [Z.ofN, Z.len]; omega)) ?_
     refine yY4 (fun j=>j=true) (fun j hj=>by rw [hj]) (fun k' hk'=>?_)
     refine zQs rfl (zQs rfl ?_)
     refine zQv (xZh _ _ e1 e2) ?_
     exact hk' _ (by rw [decide_eq_true rfl]; rfl)
   ·refine zQq (by simp only [Z.ine, Z.ofN, Z.len, ml]; simp) ?_
    refine zQq (by simp only [Z.zQz,Z.ine,Z.ofN,Z.len,s1]; simp) ?_
    exact hk _ (by simp only [Z.zQz,Z.ine,Z.ofN,Z.len,s2]; simp)
  ·have ew : ∃ e : Int,wrD c d level at_ all=(([],()),([],e))∧Z.ine e 0=true:=by
    unfold wrD
    by_cases hok : zYz c d
    ·by_cases hw : wrOk d level at_ all
     ·exact absurd ⟨hok,hw⟩ hgood
     ·exact ⟨2,by rw [if_pos hok,if_neg hw],rfl⟩
    ·exact ⟨8,by rw [if_neg hok],rfl⟩
   obtain ⟨e,ew,he⟩:=ew
   rw [ew]
   refine yY4 (fun j=>j=true) (fun j hj=>?_) (fun k hk=>zQs he (hk _ rfl))
   subst hj
   refine zQs rfl ?_
   refine yY4 (fun j=>j=true) (fun j hj=>by rw [hj]) (fun k hk=>?_)
   exact zQs rfl (zQs he (hk _ rfl))
 ·refine zQv (xQ8 d) ?_
  cases gd : yW3 d with
  | true=>exact zQs rfl (hk _ (.inl rfl))
  | false =>
   refine zQq rfl ?_
   by_cases ha : 20 < at_.length
   ·exact zQs (by simp only [Z.zQz,Z.igt,Z.ofN,Z.len]; simp; omega) (hk _ (.inl rfl))
   ·refine zQq (by simp only [Z.zQz, Z.igt, Z.ofN, Z.len]; simp; omega) ?_
    obtain ⟨g,hg,hgl⟩:=uWh all
    refine zQv hg ?_
    cases g with
    | true=>exact zQs rfl (hk _ (.inl rfl))
    | false=>exact zQq rfl (hk _ (.inr ⟨rfl,gd,by omega,hgl rfl⟩))
theorem yZf (d : Els zZw.args) (hf : Fits zZw.args d) : zKx d=some true:=by
 obtain ⟨c,⟨d,_⟩,level,at_,all⟩:=d
 exact wQ2 c d level at_ all
end Go.Proofs.Ytnbmjkbbppcbcaa
