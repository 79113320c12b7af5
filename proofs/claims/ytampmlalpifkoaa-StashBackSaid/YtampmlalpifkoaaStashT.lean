/- Stashes: a block dropped; two the same. -/
import Derived.Test.YtampmlalpifkoaaStashR
namespace Go.Proofs.Ytampmlalpifkoaa
open Go.Eng
set_option linter.unusedVariables false
set_option linter.unusedSimpArgs false
theorem yZ0 {α : Type} (x y : List α) (q : Nat) (h : q≤x.length) : (zQc x q y).take q=x.take q:=by
 unfold zQc
 rw [Jv,Q6 (by rw [Kt]; omega),List.take_take,Nat.min_self]
theorem xXb {α : Type} (x y : List α) (q : Nat) (h : q≤x.length) : (zQc x q y).take (q+y.length)=x.take q++y:=by
 unfold zQc
 have l : (x.take q++y).length=q+y.length:=by rw [Q2,Kt]; omega
 rw [Q6 (by omega),Qr (by omega)]
def dS (B S H W : Int) (s : List Blk) (id : Int) : List Blk×Int:=if ckS B S H W s=0 then (if (fdS s id).isSome=true then (xWs s id,0) else ([],6)) else ([],8)
theorem yZ6 (B S H W : Int) (s : List Blk) (id : Int) (hl : s.length≤1000000) : zY3 ((B,(S,(H,(W,())))),(s,id))=some (dS B S H W s id):=by
 unfold zY3
 dsimp only
 refine zQl (zX9 B S H W s (by omega)) ?_
 unfold dS
 rcases (wXy B S H W s).symm with h8 | h0
 ·refine zQy (by rw [h8]; rfl) ?_
  rw [if_neg (by omega),h8]
 have hp:=(yW9.1 (yJd h0).2).2
 have hd:=xKt h0
 rw [if_pos h0]
 refine zQ0 (by rw [h0]; rfl) ?_
 refine bis (s:=s) (id:=id) (by omega) rfl hp (fun lo hi k hlt hh hm ka kb=>?_) (fun k=>?_)
 ·dsimp only
  refine xQ2 hlt (by omega) ?_
  refine zQu (ixN hm (by omega)) (zQ4 (getN s hm _) ?_)
  refine zQl (y:=s[lo+(hi - lo) / 2].1) rfl ?_
  by_cases hs : s[lo+(hi - lo) / 2].1 < id
  ·refine zQy (decide_eq_true hs) ?_
   exact zQ4 (xXc (by omega)) (ka hs)
  ·exact zQ0 (decide_eq_false hs) (kb hs)
 dsimp only
 have hle:=xXz s id
 have hdr:=wXn s id hp
 generalize hP : lbN s id=p at *
 refine zQ0 (decide_eq_false (by omega)) ?_
 by_cases hlt : ¬ p < s.length
 ·rw [wXl hp (by omega)]
  refine zQ0 (decide_eq_false (by simp only [Z.ofN,Z.len]; omega)) ?_
  rfl
 have hlt : p < s.length:=by omega
 refine zQy (decide_eq_true (by simp only [Z.ofN,Z.len]; omega)) ?_
 refine zQu (ixN hlt (by omega)) (zQ4 (getN s hlt _) ?_)
 refine zQl (y:=s[p].1) rfl ?_
 by_cases he : ¬ s[p].1=id
 ·rw [vWo hp hP hlt he]
  refine zQy (by simp [Z.bnot,Z.zQj,Z.ieq,he]) ?_
  rfl
 have he : s[p].1=id:=by omega
 rw [hdr (by rw [xWo hp hP hlt he]; rfl),xWo hp hP hlt he,Option.isSome_some,if_pos rfl]
 refine zQ0 (by simp [Z.bnot,Z.zQj,Z.ieq,he]) ?_
 refine zQu (Z.yZx.2 ⟨Int.le_refl _,by simp only [Z.ofN,Z.len]; omega,by simp only [Z.ofN,Z.len]; omega,by simp only [Z.ofN,Z.len]; omega⟩) ?_
 refine xXa hl hd ?_
 dsimp only
 refine zQ4 (y:=((p+1 : Nat) : Int)) (xXc (by omega)) ?_
 refine iteP (bdN (Qf _)) ?_
 refine iteP (by show Z.Bd ((p+1 : Nat) : Int) s.length; exact bdN (by omega)) ?_
 refine iteP (by show Z.Bd (p : Int) (p+1); exact bdN (by omega)) ?_
 refine iteP (by show p < s.length; exact hlt) ?_
 refine zQ0 (by simp only [Z.ieq,beq_eq_false_iff_ne]; omega) ?_
 refine iteP (bdN hle) ?_
 refine iteP (by show 0 < s.length; omega) ?_
 refine iteP (by show Z.Bd ((p+1 : Nat) : Int) s.length; exact bdN (by omega)) ?_
 have sg : Z.seg s (Z.addN (Z.addN 0 0) 0) (Z.subN (Z.toN (p : Int)) 0)=s.take p:=rfl
 by_cases h1 : p+1 < s.length
 ·refine iteP (by show p + 1 < s.length; exact h1) ?_
  have sd : Z.seg s (Z.addN 0 (Z.toN ((p+1 : Nat) : Int))) (Z.subN s.length (Z.toN ((p+1 : Nat) : Int)))=s.drop (p+1):=by
   show (s.drop (0+(p+1))).take (s.length - (p+1))=s.drop (p+1)
   rw [J2,Qr (by simp)]
  rw [sd]
  have tl : (s.drop (p+1)).length=s.length - (p+1):=Ku
  generalize s.drop (p+1)=t at *
  refine iteP (by show 0+(p+1)+(s.length - (p+1))≤s.length; omega) ?_
  refine iteP (by show 0+0+(p - 0)≤s.length; omega) ?_
  refine iteN (by show ¬ 2 ^ 44 < ((s.drop (0+0)).take (p - 0)).length.add t.length * (40+1); show ¬ 2 ^ 44 < (((s.drop 0).take p).length+t.length) * (40+1); rw [Kt,Jj,tl]; omega) ?_
  refine iteP (by show p - 0+t.length≤s.length - 0; omega) ?_
  refine iteP (by show 0+0+(p - 0+t.length)≤s.length; omega) ?_
  refine zQ4 (y:=zQc s p t) (by show zQc s (0+0+(p - 0)) t=zQc s p t; simp) ?_
  have l1 : (zQc s p t).length=s.length:=zQt _ _ _ (by omega)
  refine iteP (by show Z.Bd (s.length : Int) (s.length - 0); exact bdN (by omega)) ?_
  refine iteP (by show Z.Bd ((p - 0+t.length : Nat) : Int) s.length; exact bdN (by omega)) ?_
  refine iteP (by show p - 0+t.length < s.length - 0; omega) ?_
  refine iteP (by show 0+0+(p - 0+t.length)+(s.length - (p - 0+t.length))≤(zQc s p t).length; rw [l1]; omega) ?_
  refine zQ4 (y:=zQc (zQc s p t) (p+t.length) (List.replicate (s.length - (p+t.length)) noB)) (by show zQc (zQc s p t) (0+0+(p - 0+t.length)) (List.replicate (s.length - (p - 0+t.length)) noB)=_; simp) ?_
  refine iteP (by show 0+0+(p - 0+t.length)≤_; rw [Z.len,zQt _ _ _ (by rw [List.length_replicate,l1]; omega),l1]; omega) ?_
  have : Z.seg (zQc (zQc s p t) (p+t.length) (List.replicate (s.length - (p+t.length)) noB)) (Z.addN 0 0) (Z.addN (Z.subN (Z.toN (p : Int)) 0) (Z.len t))=s.take p++t:=by
   show (List.drop 0 _).take (p - 0+t.length)=_
   rw [Jj,Nat.sub_zero,yZ0 _ _ _ (by rw [l1]; omega),xXb _ _ _ (by omega)]
  rw [this]
 ·refine iteN (by show ¬ p + 1 < s.length; exact h1) ?_
  refine iteP (by show 0+0+(p - 0)≤s.length; omega) ?_
  refine iteN (by show ¬ 2 ^ 44 < (((s.drop 0).take p).length+0) * (40+1); rw [Kt,Jj]; omega) ?_
  refine iteP (by show p - 0+0≤s.length - 0; omega) ?_
  refine iteP (by show 0+0+(p - 0+0)≤s.length; omega) ?_
  refine zQ4 (y:=s) (by show zQc s (0+0+(p - 0)) []=s; simp [zQc]) ?_
  refine iteP (by show Z.Bd (s.length : Int) (s.length - 0); exact bdN (by omega)) ?_
  refine iteP (by show Z.Bd ((p - 0+0 : Nat) : Int) s.length; exact bdN (by omega)) ?_
  refine iteP (by show p - 0+0 < s.length - 0; omega) ?_
  refine iteP (by show 0+0+(p - 0+0)+(s.length - (p - 0+0))≤s.length; omega) ?_
  refine zQ4 (y:=zQc s p (List.replicate (s.length - p) noB)) (by show zQc s (0+0+(p - 0+0)) (List.replicate (s.length - (p - 0+0)) noB)=_; simp) ?_
  refine iteP (by show 0+0+(p - 0+0)≤_; rw [Z.len,zQt _ _ _ (by rw [List.length_replicate]; omega)]; omega) ?_
  have : Z.seg (zQc s p (List.replicate (s.length - p) noB)) (Z.addN 0 0) (Z.addN (Z.subN (Z.toN (p : Int)) 0) (Z.len ([] : List Blk)))=s.take p++s.drop (p+1):=by
   show (List.drop 0 _).take (p - 0+0)=_
   rw [Jj,Ke,Nat.sub_zero,yZ0 _ _ _ (by omega),List.drop_eq_nil_of_le (by omega),Jh]
  rw [this]
theorem yKc (x : Blk) : zZn ((x.1,(x.2.1,(x.2.2.1,()))),(x.1,(x.2.1,(x.2.2.1,()))))=some true:=by rw [yKg,xYn]
theorem zJ8 (s : List Blk) (hl : s.length≤1000000) : zXs (s,s)=some true:=by
 unfold zXs
 dsimp only
 refine zQ0 (by simp [Z.ine]) ?_
 refine yQb (fun (d : Int)=>∃ i : Nat,d=i∧i≤s.length) (fun d=>s.length - d.toNat) ?_ ⟨0,rfl,J7 _⟩ (wKa _ _ (by omega))
 rintro d k ⟨i,rfl,hi⟩ hk
 by_cases hlt : i < s.length
 ·refine zQy (decide_eq_true (by simp only [Z.ofN, Z.len]; omega)) ?_
  refine zQu (ixN hlt (by omega)) (zQ4 (getN s hlt _) ?_)
  refine zQu (ixN hlt (by omega)) (zQ4 (getN s hlt _) ?_)
  refine zQl (yKc s[i]) ?_
  refine zQ0 rfl ?_
  refine zQ4 (xXc (by omega)) ?_
  exact hk _ ⟨i+1,rfl,hlt⟩ (by show s.length - (((i+1 : Nat) : Int)).toNat < s.length - ((i : Int)).toNat; omega)
 ·exact zQ0 (decide_eq_false (by simp only [Z.ofN,Z.len]; omega)) rfl
end Go.Proofs.Ytampmlalpifkoaa
