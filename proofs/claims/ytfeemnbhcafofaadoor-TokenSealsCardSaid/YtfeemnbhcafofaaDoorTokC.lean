/- A token's size. -/
import Derived.Test.YtfeemnbhcafofaaDoorTokB
namespace Go.Proofs.YtfeemnbhcafofaaDoor
open Go.Eng
set_option linter.unusedVariables false
set_option linter.unusedSimpArgs false
theorem vQk {c : CfgT} (hm : mayB c=true) : 1≤c.2.2.2.2.1∧c.2.2.2.2.1≤64:=by
 have hn : xZz c=true:=by simp only [mayB,Qb] at hm; exact hm.1
 simp only [xZz,bndS,okB,Jg,K9,Qb,decide_eq_true_eq,K0] at hn
 obtain ⟨h1,h2,h3,h4,h5,h6,h7,h8,h9⟩:=hn
 exact ⟨by have:=h5.1; omega,by have:=h5.2; omega⟩
noncomputable def lvP (c : CfgT) (i : Nat) : Int×Int:=(LV c c.1 c.2.1).getD i (0,0)
noncomputable def szI (c : CfgT) (i : Nat) : Int:=32+c.2.2.2.2.1 * (8+(lvP c i).2)
noncomputable def szN (c : CfgT) : Nat → Int
 | 0=>0
 | i+1=>szN c i+szI c i
theorem yQ3 {c : CfgT} (hm : mayB c=true) {i : Nat} (hi : i < nL c) : (1≤(lvP c i).1∧(lvP c i).1≤64)∧1≤(lvP c i).2∧(lvP c i).2≤32:=by
 obtain ⟨N,_⟩:=zXz hm
 have hl : i < (LV c c.1 c.2.1).length:=hi
 have : lvP c i=(LV c c.1 c.2.1)[i]:=by unfold lvP; simp [List.getD,hl]
 rw [this]
 exact vWe N _ (Qv hl)
theorem wWx {c : CfgT} {i : Nat} (hi : i < nL c) : ∃ h : i < (allS c).length,(allS c)[i]=lvlS c (lvP c i):=by
 have hl : i < (LV c c.1 c.2.1).length:=hi
 obtain ⟨h1,h2⟩:=xXc hl
 exact ⟨h1,by rw [h2]; unfold lvP; simp [List.getD,hl]⟩
theorem prod_b {a b : Int} (a0 : 1≤a) (a1 : a≤64) (b0 : 9≤b) (b1 : b≤40) : 9≤a * b∧a * b≤2560 :=
 ⟨by have:=Int.mul_le_mul a0 b0 (by omega) (by omega); omega,by have:=Int.mul_le_mul a1 b1 (by omega) (by omega); omega⟩
theorem uWw {c : CfgT} (hm : mayB c=true) {i : Nat} (hi : i < nL c) : 9≤c.2.2.2.2.1 * (8+(lvP c i).2)∧c.2.2.2.2.1 * (8+(lvP c i).2)≤2560:=by
 obtain ⟨a,b⟩:=vQk hm
 obtain ⟨_,d,e⟩:=yQ3 hm hi
 exact prod_b a b (by omega) (by omega)
theorem uWv {c : CfgT} (hm : mayB c = true) : ∀ i, i ≤ nL c → 0 ≤ szN c i ∧ szN c i ≤ 2592 * i
 | 0,_=>⟨Int.le_refl _,by simp [szN]⟩
 | i+1,hi=>by
  obtain ⟨a,b⟩:=uWv hm i (by omega)
  obtain ⟨d,e⟩:=uWw hm (show i < nL c by omega)
  simp only [szN,szI]
  omega
noncomputable def vYk (c : CfgT) : Int×Int:=if mayB c=true then (szN c (nL c)+4 * (zW8 c).1+32,0) else (0,8)
theorem uQ3 {c : CfgT} (hm : mayB c=true) {i : Nat} (hi : i < nL c) : zYt (lvlS c (lvP c i))=some (List.replicate (8+(lvP c i).2).toNat 0,0):=by
 obtain ⟨N,_⟩:=zXz hm
 obtain ⟨_,q2⟩:=wWw N (yQ3 hm hi)
 refine (xK5 _ _ _ _).trans ?_
 unfold uZm
 rw [if_pos q2]
theorem xXh (c : CfgT) : yX0 c=some (vYk c):=by
 unfold yX0 vYk
 refine zQe (zZl c) ?_
 cases hm : mayB c with
 | false=>exact zQq rfl rfl
 | true =>
  refine zQm rfl ?_
  obtain ⟨n1,n64⟩:=yZ2 hm
  have hal : (allS c).length=nL c:=zW7 c
  refine zQn (fun (s : Int×Int)=>∃ i : Nat,s=((i : Int),32+szN c i)∧i≤nL c) (fun s=>nL c - s.1.toNat) ?_ ⟨0,by simp [szN],Q5 _⟩ (zKi _ _ (by omega))
  rintro s k ⟨i,rfl,hi⟩ hk
  dsimp only at hk ⊢
  obtain ⟨s0,s1⟩:=uWv hm i hi
  by_cases hlt : i < nL c
  ·refine zQq (decide_eq_true (by simp only [Z.ofN, Z.len, if_true, hal]; omega)) ?_
   obtain ⟨hl,hg⟩:=wWx hlt
   refine zQa (ixN (l:=allS c) hl (by omega)) (zQb (getN (allS c) hl _) ?_)
   rw [hg]
   refine zQe (uQ3 hm hlt) ?_
   refine zQm rfl ?_
   obtain ⟨a,b⟩:=uWw hm hlt
   have hlen : Z.ofN (Z.len (List.replicate (8+(lvP c i).2).toNat (0 : Int)))=8+(lvP c i).2:=by
    obtain ⟨_,d,e⟩:=yQ3 hm hlt
    simp only [Z.ofN,Z.len,List.length_replicate]; omega
   refine zQb (y:=c.2.2.2.2.1 * (8+(lvP c i).2)) (by rw [hlen]; exact zW9 (by simp only [Z.mul]; omega)) ?_
   refine zQb (y:=32+c.2.2.2.2.1 * (8+(lvP c i).2)) (zW9 (by simp only [Z.add]; omega)) ?_
   refine zQb (y:=32+szN c (i+1)) ((zW9 (by simp only [Z.add]; omega)).trans (by simp only [Z.add,szN,szI]; omega)) ?_
   refine zQb (zJ6 (by omega)) ?_
   exact hk _ ⟨i+1,rfl,hlt⟩ (by show nL c - (((i+1 : Nat) : Int)).toNat < nL c - ((i : Int)).toNat; omega)
  ·have e : i = nL c := by omega
   subst e
   refine zQm (decide_eq_false (by simp only [Z.ofN,Z.len,if_true,hal]; omega)) ?_
   refine zQb (vKk hm) ?_
   obtain ⟨hl,hg⟩:=yJ1 hm
   refine zQa (ixN (l:=allS c) hl (by omega)) (zQb (getN (allS c) hl _) ?_)
   rw [hg]
   obtain ⟨l1,l2⟩:=(zYe hm).1
   refine zQb (y:=4 * (zW8 c).1) (zW9 (by simp only [Z.mul,lvlS]; omega)) ?_
   refine zQb (y:=szN c (nL c)+4 * (zW8 c).1+32) ((zW9 (by simp only [Z.add]; omega)).trans (by simp only [Z.add]; omega)) ?_
   rfl
theorem xX1 (c : CfgT) : yX6 c=some (vYk c):=by
 unfold yX6 vYk
 refine zQe (zYj c) ?_
 cases hm : mayB c with
 | false=>exact zQq rfl rfl
 | true =>
  refine zQm rfl ?_
  obtain ⟨N,_⟩:=zXz hm
  obtain ⟨n1,n64⟩:=yZ2 hm
  have hal : (allS c).length=nL c:=zW7 c
  have hmany : yX8 c=some (szN c (nL c)+4 * (zW8 c).1+32):=by
   unfold yX8
   refine zQe (y:=allS c) (zZh N) ?_
   refine zQn (fun (s : Int×Int)=>∃ i : Nat,s=(szN c i,(i : Int))∧i≤nL c) (fun s=>nL c - s.2.toNat) ?_ ⟨0,by simp [szN],Q5 _⟩ (zKi _ _ (by omega))
   rintro s k ⟨i,rfl,hi⟩ hk
   dsimp only at hk ⊢
   obtain ⟨s0,s1⟩:=uWv hm i hi
   by_cases hlt : i < nL c
   ·refine zQq (decide_eq_true (by simp only [Z.ofN, Z.len, hal]; omega)) ?_
    refine zQb (y:=szN c i+32) (zW9 (by simp only [Z.add]; omega)) ?_
    obtain ⟨hl,hg⟩:=wWx hlt
    refine zQa (ixN (l:=allS c) hl (by omega)) (zQb (getN (allS c) hl _) ?_)
    rw [hg]
    obtain ⟨a,b⟩:=uWw hm hlt
    obtain ⟨_,d,e⟩:=yQ3 hm hlt
    refine zQb (y:=8+(lvP c i).2) (zW9 (by simp only [Z.add,lvlS]; omega)) ?_
    refine zQb (y:=c.2.2.2.2.1 * (8+(lvP c i).2)) (zW9 (by simp only [Z.mul]; omega)) ?_
    refine zQb (y:=szN c (i+1)) ((zW9 (by simp only [Z.add]; omega)).trans (by simp only [Z.add,szN,szI]; omega)) ?_
    refine zQb (zJ6 (by omega)) ?_
    exact hk _ ⟨i+1,rfl,hlt⟩ (by show nL c - (((i+1 : Nat) : Int)).toNat < nL c - ((i : Int)).toNat; omega)
   ·have e : i = nL c := by omega
    subst e
    refine zQm (decide_eq_false (by simp only [Z.ofN,Z.len,hal]; omega)) ?_
    refine zQb (vKk hm) ?_
    obtain ⟨hl,hg⟩:=yJ1 hm
    refine zQa (ixN (l:=allS c) hl (by omega)) (zQb (getN (allS c) hl _) ?_)
    rw [hg]
    obtain ⟨l1,l2⟩:=(zYe hm).1
    refine zQb (y:=4 * (zW8 c).1) (zW9 (by simp only [Z.mul,lvlS]; omega)) ?_
    refine zQb (y:=szN c (nL c)+4 * (zW8 c).1) (zW9 (by simp only [Z.add]; omega)) ?_
    refine zQb (y:=szN c (nL c)+4 * (zW8 c).1+32) (zW9 (by simp only [Z.add]; omega)) ?_
    rfl
  exact zQe hmany rfl
end Go.Proofs.YtfeemnbhcafofaaDoor
