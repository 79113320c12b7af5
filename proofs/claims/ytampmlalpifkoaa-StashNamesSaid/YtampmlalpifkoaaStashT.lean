/- Stashes: a block dropped; two the same. -/
import Derived.Test.YtampmlalpifkoaaStashR
namespace Go.Proofs.Ytampmlalpifkoaa
open Go.Eng
set_option linter.unusedVariables false
set_option linter.unusedSimpArgs false
theorem yKc {α : Type} (x y : List α) (q : Nat) (h : q≤x.length) : (zQb x q y).take q=x.take q:=by
 unfold zQb
 rw [Jp,Q9 (by rw [Jw]; omega),List.take_take,Nat.min_self]
theorem xXo {α : Type} (x y : List α) (q : Nat) (h : q≤x.length) : (zQb x q y).take (q+y.length)=x.take q++y:=by
 unfold zQb
 have l : (x.take q++y).length=q+y.length:=by rw [Q0,Jw]; omega
 rw [Q9 (by omega),Qr (by omega)]
def dS (B S H W : Int) (s : List Blk) (id : Int) : List Blk×Int:=if ckS B S H W s=0 then (if (fdS s id).isSome=true then (wJz s id,0) else ([],6)) else ([],8)
theorem yKi (B S H W : Int) (s : List Blk) (id : Int) (hl : s.length≤1000000) : yQk ((B,(S,(H,(W,())))),(s,id))=some (dS B S H W s id):=by
 unfold yQk
 dsimp only
 refine zQk (zZi B S H W s (by omega)) ?_
 unfold dS
 rcases (wZ2 B S H W s).symm with h8 | h0
 ·refine zQ6 (by rw [h8]; rfl) ?_
  rw [if_neg (by omega),h8]
 have hp:=(yKj.1 (yJl h0).2).2
 have hd:=xJb h0
 rw [if_pos h0]
 refine zWm (by rw [h0]; rfl) ?_
 refine bis (s:=s) (id:=id) (by omega) rfl hp (fun lo hi k hlt hh hm ka kb=>?_) (fun k=>?_)
 ·dsimp only
  refine xWg hlt (by omega) ?_
  refine zQo (ixN hm (by omega)) (zQu (getN s hm _) ?_)
  refine zQk (y:=s[lo+(hi - lo) / 2].1) rfl ?_
  by_cases hs : s[lo+(hi - lo) / 2].1 < id
  ·refine zQ6 (decide_eq_true hs) ?_
   exact zQu (xXp (by omega)) (ka hs)
  ·exact zWm (decide_eq_false hs) (kb hs)
 dsimp only
 have hle:=xQa s id
 have hdr:=wZp s id hp
 generalize hP : lbN s id=p at *
 refine zWm (decide_eq_false (by omega)) ?_
 by_cases hlt : ¬ p < s.length
 ·rw [wZn hp (by omega)]
  refine zWm (decide_eq_false (by simp only [Z.ofN,Z.len]; omega)) ?_
  rfl
 have hlt : p < s.length:=by omega
 refine zQ6 (decide_eq_true (by simp only [Z.ofN,Z.len]; omega)) ?_
 refine zQo (ixN hlt (by omega)) (zQu (getN s hlt _) ?_)
 refine zQk (y:=s[p].1) rfl ?_
 by_cases he : ¬ s[p].1=id
 ·rw [vXv hp hP hlt he]
  refine zQ6 (by simp [Z.bnot,Z.zWj,Z.ieq,he]) ?_
  rfl
 have he : s[p].1=id:=by omega
 rw [hdr (by rw [xW2 hp hP hlt he]; rfl),xW2 hp hP hlt he,Option.isSome_some,if_pos rfl]
 refine zWm (by simp [Z.bnot,Z.zWj,Z.ieq,he]) ?_
 refine zQo (Z.yXb.2 ⟨Int.le_refl _,by simp only [Z.ofN,Z.len]; omega,by simp only [Z.ofN,Z.len]; omega,by simp only [Z.ofN,Z.len]; omega⟩) ?_
 refine yKa hl hd ?_
 dsimp only
 refine zQu (y:=((p+1 : Nat) : Int)) (xXp (by omega)) ?_
 refine iteP (bdN (Qf _)) ?_
 refine iteP (by show Z.Bd ((p+1 : Nat) : Int) s.length; exact bdN (by omega)) ?_
 refine iteP (by show Z.Bd (p : Int) (p+1); exact bdN (by omega)) ?_
 refine iteP (by show p < s.length; exact hlt) ?_
 refine zWm (by simp only [Z.ieq,beq_eq_false_iff_ne]; omega) ?_
 refine iteP (bdN hle) ?_
 refine iteP (by show 0 < s.length; omega) ?_
 refine iteP (by show Z.Bd ((p+1 : Nat) : Int) s.length; exact bdN (by omega)) ?_
 have sg : Z.seg s (Z.addN (Z.addN 0 0) 0) (Z.subN (Z.toN (p : Int)) 0)=s.take p:=rfl
 by_cases h1 : p+1 < s.length
 ·refine iteP (by show p + 1 < s.length; exact h1) ?_
  have sd : Z.seg s (Z.addN 0 (Z.toN ((p+1 : Nat) : Int))) (Z.subN s.length (Z.toN ((p+1 : Nat) : Int)))=s.drop (p+1):=by
   show (s.drop (0+(p+1))).take (s.length - (p+1))=s.drop (p+1)
   rw [Jj,Qr (by simp)]
  rw [sd]
  have tl : (s.drop (p+1)).length=s.length - (p+1):=J4
  generalize s.drop (p+1)=t at *
  refine iteP (by show 0+(p+1)+(s.length - (p+1))≤s.length; omega) ?_
  refine iteP (by show 0+0+(p - 0)≤s.length; omega) ?_
  refine iteN (by show ¬ 2 ^ 44 < ((s.drop (0+0)).take (p - 0)).length.add t.length * (40+1); show ¬ 2 ^ 44 < (((s.drop 0).take p).length+t.length) * (40+1); rw [Jw,Q6,tl]; omega) ?_
  refine iteP (by show p - 0+t.length≤s.length - 0; omega) ?_
  refine iteP (by show 0+0+(p - 0+t.length)≤s.length; omega) ?_
  refine zQu (y:=zQb s p t) (by show zQb s (0+0+(p - 0)) t=zQb s p t; simp) ?_
  have l1 : (zQb s p t).length=s.length:=zQv _ _ _ (by omega)
  refine iteP (by show Z.Bd (s.length : Int) (s.length - 0); exact bdN (by omega)) ?_
  refine iteP (by show Z.Bd ((p - 0+t.length : Nat) : Int) s.length; exact bdN (by omega)) ?_
  refine iteP (by show p - 0+t.length < s.length - 0; omega) ?_
  refine iteP (by show 0+0+(p - 0+t.length)+(s.length - (p - 0+t.length))≤(zQb s p t).length; rw [l1]; omega) ?_
  refine zQu (y:=zQb (zQb s p t) (p+t.length) (List.replicate (s.length - (p+t.length)) noB)) (by show zQb (zQb s p t) (0+0+(p - 0+t.length)) (List.replicate (s.length - (p - 0+t.length)) noB)=_; simp) ?_
  refine iteP (by show 0+0+(p - 0+t.length)≤_; rw [Z.len,zQv _ _ _ (by rw [List.length_replicate,l1]; omega),l1]; omega) ?_
  have : Z.seg (zQb (zQb s p t) (p+t.length) (List.replicate (s.length - (p+t.length)) noB)) (Z.addN 0 0) (Z.addN (Z.subN (Z.toN (p : Int)) 0) (Z.len t))=s.take p++t:=by
   show (List.drop 0 _).take (p - 0+t.length)=_
   rw [Q6,Nat.sub_zero,yKc _ _ _ (by rw [l1]; omega),xXo _ _ _ (by omega)]
  rw [this]
 ·refine iteN (by show ¬ p + 1 < s.length; exact h1) ?_
  refine iteP (by show 0+0+(p - 0)≤s.length; omega) ?_
  refine iteN (by show ¬ 2 ^ 44 < (((s.drop 0).take p).length+0) * (40+1); rw [Jw,Q6]; omega) ?_
  refine iteP (by show p - 0+0≤s.length - 0; omega) ?_
  refine iteP (by show 0+0+(p - 0+0)≤s.length; omega) ?_
  refine zQu (y:=s) (by show zQb s (0+0+(p - 0)) []=s; simp [zQb]) ?_
  refine iteP (by show Z.Bd (s.length : Int) (s.length - 0); exact bdN (by omega)) ?_
  refine iteP (by show Z.Bd ((p - 0+0 : Nat) : Int) s.length; exact bdN (by omega)) ?_
  refine iteP (by show p - 0+0 < s.length - 0; omega) ?_
  refine iteP (by show 0+0+(p - 0+0)+(s.length - (p - 0+0))≤s.length; omega) ?_
  refine zQu (y:=zQb s p (List.replicate (s.length - p) noB)) (by show zQb s (0+0+(p - 0+0)) (List.replicate (s.length - (p - 0+0)) noB)=_; simp) ?_
  refine iteP (by show 0+0+(p - 0+0)≤_; rw [Z.len,zQv _ _ _ (by rw [List.length_replicate]; omega)]; omega) ?_
  have : Z.seg (zQb s p (List.replicate (s.length - p) noB)) (Z.addN 0 0) (Z.addN (Z.subN (Z.toN (p : Int)) 0) (Z.len ([] : List Blk)))=s.take p++s.drop (p+1):=by
   show (List.drop 0 _).take (p - 0+0)=_
   rw [Q6,Ka,Nat.sub_zero,yKc _ _ _ (by omega),List.drop_eq_nil_of_le (by omega),Jh]
  rw [this]
theorem wW6 (x : Blk) : zJo ((x.1,(x.2.1,(x.2.2.1,()))),(x.1,(x.2.1,(x.2.2.1,()))))=some true:=by rw [yKq,xY8]
theorem yZf (s : List Blk) (hl : s.length≤1000000) : zZk (s,s)=some true:=by
 unfold zZk
 dsimp only
 refine zWm (by simp [Z.ine]) ?_
 refine yQr (fun (d : Int)=>∃ i : Nat,d=i∧i≤s.length) (fun d=>s.length - d.toNat) ?_ ⟨0,rfl,J9 _⟩ (wJg _ _ (by omega))
 rintro d k ⟨i,rfl,hi⟩ hk
 by_cases hlt : i < s.length
 ·refine zQ6 (decide_eq_true (by simp only [Z.ofN, Z.len]; omega)) ?_
  refine zQo (ixN hlt (by omega)) (zQu (getN s hlt _) ?_)
  refine zQo (ixN hlt (by omega)) (zQu (getN s hlt _) ?_)
  refine zQk (wW6 s[i]) ?_
  refine zWm rfl ?_
  refine zQu (xXp (by omega)) ?_
  exact hk _ ⟨i+1,rfl,hlt⟩ (by show s.length - (((i+1 : Nat) : Int)).toNat < s.length - ((i : Int)).toNat; omega)
 ·exact zWm (decide_eq_false (by simp only [Z.ofN,Z.len]; omega)) rfl
end Go.Proofs.Ytampmlalpifkoaa
