/- What a token needs of levels and stashes. -/
import Derived.Test.YtfeemnbhcafofaaDoorConftells
import Derived.Test.YtfeemnbhcafofaaDoorStep
import Derived.Test.YtfeemnbhcafofaaDoorStep2
import Derived.Test.YtfeemnbhcafofaaDoorSlotref
import Derived.Test.YtfeemnbhcafofaaDoorEntry
namespace Go.Proofs.YtfeemnbhcafofaaDoor
open Go.Eng
set_option linter.unusedVariables false
set_option linter.unusedSimpArgs false
theorem getN {α : Type} (l : List α) {i : Nat} (h : i < l.length) (z : α) : Z.get l (Z.toN (i : Int)) z=l[i]:=by simp [Z.get,Z.toN,List.getD,h]
theorem ixN {α : Type} {l : List α} {i : Nat} (h : i < l.length) (hb : l.length < 9223372036854775808) : Z.Ix (i : Int) (Z.len l):=⟨by omega,by simp only [Z.len]; omega⟩
theorem uQ6 {T F : Int} (hF : 2 ≤ F) (hF8 : F ≤ 8) (hT : 1 ≤ T) : ∀ (k : Nat) (n s : Int), 1 ≤ n → n ≤ 64 → 1 ≤ s → s ≤ 32 → ∀ p ∈ lv T F k n s, (1 ≤ p.1 ∧ p.1 ≤ 64) ∧ 1 ≤ p.2 ∧ p.2 ≤ 32
 | 0,_,_,_,_,_,_,p,hp=>by simp [lv] at hp
 | k+1,n,s,h1,h2,h3,h4,p,hp=>by
  rw [vKe] at hp
  rcases Jf.1 hp with rfl | hp
  ·exact ⟨⟨h1,h2⟩,h3,h4⟩
  ·by_cases ht : n ≤ T
   ·rw [if_pos ht] at hp; simp at hp
   ·rw [if_neg ht] at hp
    obtain ⟨a,b⟩:=vQg hF hF8 (show 2≤n by omega)
    exact uQ6 hF hF8 hT k _ _ a (by omega) (by omega) (by omega) p hp
theorem vWe {c : CfgT} (N : Nums c) : ∀ p∈LV c c.1 c.2.1,(1≤p.1∧p.1≤64)∧1≤p.2∧p.2≤32 :=
 uQ6 N.f1 N.f2 N.t1 64 _ _ N.p1 N.p2 N.s1 N.s2
theorem yKm {n : Int} (h1 : 1≤n) (h64 : n≤64) : may (zXh n)=true∧n≤2 ^ (zXh n).toNat∧(2 : Int) ^ (zXh n).toNat≤64:=by
 refine ⟨?_, ?_, ?_⟩
 ·rw [yY1]; unfold zXh; (repeat' split)<;>omega
 ·unfold zXh; (repeat' split)<;>simp<;>omega
 ·unfold zXh; (repeat' split)<;>simp
theorem wWw {c : CfgT} (N : Nums c) {p : Int×Int} (hp : (1≤p.1∧p.1≤64)∧1≤p.2∧p.2≤32) : wZ1 p.1 p.2 (zXh p.1)=true∧(zYs p.1 p.2 (zXh p.1) (c.2.2.2.1 * (8+p.2)+64)).2=0:=by
 obtain ⟨a,b,_⟩:=yKm hp.1.1 hp.1.2
 have h:=yKj.2 ⟨hp.1.1,hp.1.2,hp.2.1,hp.2.2,a,b⟩
 refine ⟨h, ?_⟩
 have l1:=N.l1
 have l2:=N.l2
 unfold zYs
 rw [if_pos h]
 rcases (show c.2.2.2.1=1∨c.2.2.2.1=2∨c.2.2.2.1=3∨c.2.2.2.1=4 by omega) with e | e | e | e<;>rw [e]<;>(repeat' split)<;>first | rfl | omega
def stQ (B S H : Int) (s : List Blk) (i : Nat) : Bool:=yYf B S H (s.getD i noB).1 (s.getD i noB).2.1 (s.getD i noB).2.2.1&&(decide (i=0) || decide ((s.getD (i - 1) noB).1 < (s.getD i noB).1))
def stB (B S H : Int) (s : List Blk) : Bool:=decide (∀ i,i < s.length→stQ B S H s i=true)
theorem zK9 {s : List Blk} {i : Nat} (h : i < s.length) : s.getD i noB=s[i]:=by simp [List.getD,h]
theorem wYz {B S H : Int} {s : List Blk} {i : Nat} (h : i < s.length) (hq : stQ B S H s i=false) : stB B S H s=false:=decide_eq_false fun hh=>by rw [hh i h] at hq; cases hq
theorem xWi (B S H W : Int) (s : List Blk) (hl : s.length < 9223372036854775808) (h0 : (zYs B S H W).2=0) : yQl ((B,(S,(H,(W,())))),s)=some (if stB B S H s=true then 0 else 8):=by
 unfold yQl
 dsimp only
 refine zQe (zJs B S H W) ?_
 refine zQm (by rw [h0]; rfl) ?_
 refine zQn (fun (d : Int)=>∃ i : Nat,d=i∧i≤s.length∧∀ j,j < i→stQ B S H s j=true) (fun d=>s.length - d.toNat) ?_ ⟨0,rfl,Q5 _,fun _ h=>absurd h (Nat.not_lt_zero _)⟩ (zKi _ _ (by omega))
 rintro d k ⟨i,rfl,hi,hq⟩ hk
 by_cases hlt : i < s.length
 ·refine zQq (decide_eq_true (by simp only [Z.ofN, Z.len]; omega)) ?_
  refine zQa (ixN hlt (by omega)) (zQb (getN s hlt _) ?_)
  refine zQe (yWs B S H W s[i].1 s[i].2.1 s[i].2.2.1) ?_
  have hi1 : Z.wrap .i64 (Z.add (i : Int) 1)=((i+1 : Nat) : Int):=Z.zXq (by omega)
  have next : stQ B S H s i=true→k ((i+1 : Nat) : Int)=some (if stB B S H s=true then 0 else 8):=fun hs=>by
   refine hk _ ⟨i+1,rfl,hlt,fun j hj=>?_⟩ (by show s.length - (((i+1 : Nat) : Int)).toNat < s.length - ((i : Int)).toNat; omega)
   by_cases e : j=i
   ·subst e; exact hs
   ·exact hq j (by omega)
  unfold yXt
  rw [if_pos h0]
  cases hb : yYf B S H s[i].1 s[i].2.1 s[i].2.2.1 with
  | false =>
   refine zQq rfl ?_
   rw [wYz hlt (by unfold stQ; rw [zK9 hlt,hb]; rfl)]
   rfl
  | true =>
   refine zQm rfl ?_
   by_cases h00 : i=0
   ·subst h00
    refine zQm (by rfl) ?_
    refine zQb hi1 (next ?_)
    unfold stQ; rw [zK9 hlt,hb]; rfl
   ·refine zQq (decide_eq_true (by omega)) ?_
    refine zQb (y:=((i - 1 : Nat) : Int)) ((zW9 (x:=Z.sub (i : Int) 1) (by simp only [Z.sub]; omega)).trans (by simp only [Z.sub]; omega)) ?_
    have hp : i - 1 < s.length:=by omega
    refine zQa (ixN hp (by omega)) (zQb (getN s hp _) ?_)
    by_cases hle : s[i - 1].1 < s[i].1
    ·refine zQm (by simp [Z.zQr, Z.ige]; omega) ?_
     refine zQb hi1 (next ?_)
     unfold stQ; rw [zK9 hlt,zK9 hp,hb,decide_eq_true hle]; simp
    ·refine zQq (by simp [Z.zQr, Z.ige]; omega) ?_
     rw [wYz hlt (by unfold stQ; rw [zK9 hlt,zK9 hp,decide_eq_false hle]; simp [h00])]
     rfl
 ·refine zQm (decide_eq_false (by simp only [Z.ofN, Z.len]; omega)) ?_
  have : stB B S H s=true:=decide_eq_true fun j hj=>hq j (by omega)
  rw [this]; rfl
theorem xJa (B S H W : Int) (s : List Blk) (hl : s.length < 9223372036854775808) (h0 : wZ1 B S H=true) : yK8 ((B,(S,(H,(W,())))),s)=some (stB B S H s):=by
 unfold yK8
 dsimp only
 refine zQn (fun (d : Int)=>∃ i : Nat,d=i∧i≤s.length∧∀ j,j < i→stQ B S H s j=true) (fun d=>s.length - d.toNat) ?_ ⟨0,rfl,Q5 _,fun _ h=>absurd h (Nat.not_lt_zero _)⟩ (zKi _ _ (by omega))
 rintro d k ⟨i,rfl,hi,hq⟩ hk
 by_cases hlt : i < s.length
 ·refine zQq (decide_eq_true (by simp only [Z.ofN, Z.len]; omega)) ?_
  refine zQa (ixN hlt (by omega)) (zQb (getN s hlt _) ?_)
  refine zQe (xJb B S H W s[i].1 s[i].2.1 s[i].2.2.1 h0) ?_
  have hi1 : Z.wrap .i64 (Z.add (i : Int) 1)=((i+1 : Nat) : Int):=Z.zXq (by omega)
  have next : stQ B S H s i=true→k ((i+1 : Nat) : Int)=some (stB B S H s):=fun hs=>by
   refine hk _ ⟨i+1,rfl,hlt,fun j hj=>?_⟩ (by show s.length - (((i+1 : Nat) : Int)).toNat < s.length - ((i : Int)).toNat; omega)
   by_cases e : j=i
   ·subst e; exact hs
   ·exact hq j (by omega)
  cases hb : yYf B S H s[i].1 s[i].2.1 s[i].2.2.1 with
  | false =>
   refine zQq rfl ?_
   rw [wYz hlt (by unfold stQ; rw [zK9 hlt,hb]; rfl)]
  | true =>
   refine zQm rfl ?_
   by_cases h00 : i=0
   ·subst h00
    refine zQm (by rfl) ?_
    refine zQb hi1 (next ?_)
    unfold stQ; rw [zK9 hlt,hb]; rfl
   ·refine zQq (decide_eq_true (by omega)) ?_
    refine zQa (ixN hlt (by omega)) (zQb (getN s hlt _) ?_)
    refine zQb (y:=((i - 1 : Nat) : Int)) ((zW9 (x:=Z.sub (i : Int) 1) (by simp only [Z.sub]; omega)).trans (by simp only [Z.sub]; omega)) ?_
    have hp : i - 1 < s.length:=by omega
    refine zQa (ixN hp (by omega)) (zQb (getN s hp _) ?_)
    by_cases hle : s[i - 1].1 < s[i].1
    ·refine zQm (by simp [Z.zQr, Z.ile]; omega) ?_
     refine zQb hi1 (next ?_)
     unfold stQ; rw [zK9 hlt,zK9 hp,hb,decide_eq_true hle]; simp
    ·refine zQq (by simp [Z.zQr, Z.ile]; omega) ?_
     rw [wYz hlt (by unfold stQ; rw [zK9 hlt,zK9 hp,decide_eq_false hle]; simp [h00])]
 ·refine zQm (decide_eq_false (by simp only [Z.ofN, Z.len]; omega)) ?_
  have : stB B S H s=true:=decide_eq_true fun j hj=>hq j (by omega)
  rw [this]
abbrev OrmT:=List Int×(List Blk×Unit)
theorem yZ3 {l : List Int} (h : l.length=32) : n32 l=l:=zQu h
theorem xXc {c : CfgT} {i : Nat} (h : i < (LV c c.1 c.2.1).length) : ∃ h' : i < (allS c).length,(allS c)[i]=lvlS c ((LV c c.1 c.2.1)[i]):=⟨by simpa [allS] using h,by simp [allS]⟩
theorem zW7 (c : CfgT) : (allS c).length=(LV c c.1 c.2.1).length:=by simp [allS]
noncomputable def olB (c : CfgT) (i : Nat) (o : OrmT) : Bool:=stB ((LV c c.1 c.2.1).getD i (0,0)).1 ((LV c c.1 c.2.1).getD i (0,0)).2 (zXh ((LV c c.1 c.2.1).getD i (0,0)).1) o.2.1
theorem yXc (c : CfgT) (i : Nat) (o : OrmT) (hm : mayB c=true) (hi : i < (LV c c.1 c.2.1).length) (hl : o.2.1.length < 9223372036854775808) : yZg (c,((i : Int),(o.1,(o.2.1,()))))=some (if olB c i o=true then 0 else 8):=by
 obtain ⟨N,hL4⟩:=zXz hm
 have hL64 : (LV c c.1 c.2.1).length≤64:=xYx _ _ 64 _ _
 obtain ⟨h',hg⟩:=xXc hi
 have hp:=vWe N _ (Qv hi)
 obtain ⟨q1,q2⟩:=wWw N hp
 have hsh : zYb (c,(i : Int))=some (lvlS c ((LV c c.1 c.2.1)[i]),0):=by
  unfold zYb
  refine zQe (zZl c) ?_
  rw [if_pos hm]
  refine zQm rfl ?_
  refine zQm (decide_eq_false (by omega)) ?_
  refine zQm (by simp only [Z.zQr,Z.ige,Z.ofN,Z.len,zW7,cond_false]; exact decide_eq_false (by omega)) ?_
  refine zQa (ixN h' (by rw [zW7]; omega)) (zQb (getN _ h' _) ?_)
  rw [hg]
 unfold yZg
 dsimp only
 refine zQe hsh ?_
 refine zQm rfl ?_
 refine zQe (xWi _ _ _ _ o.2.1 hl q2) ?_
 unfold olB
 simp only [List.getD,Qn hi,K8]
 rfl
theorem yZw (c : CfgT) (i : Nat) (o : OrmT) (hm : mayB c=true) (hi : i < (LV c c.1 c.2.1).length) (hl : o.2.1.length < 9223372036854775808) : yK7 (c,((i : Int),(o.1,(o.2.1,()))))=some (olB c i o):=by
 obtain ⟨N,hL4⟩:=zXz hm
 have hL64 : (LV c c.1 c.2.1).length≤64:=xYx _ _ 64 _ _
 obtain ⟨h',hg⟩:=xXc hi
 have hp:=vWe N _ (Qv hi)
 obtain ⟨q1,q2⟩:=wWw N hp
 have hsh : yQp (c,(i : Int))=some (lvlS c ((LV c c.1 c.2.1)[i]),true):=by
  unfold yQp
  refine zQe (zYj c) ?_
  rw [hm]
  refine zQm rfl ?_
  refine zQe (y:=allS c) (zZh N) ?_
  refine zQm (decide_eq_false (by omega)) ?_
  refine zQm (by simp only [Z.zQr,Z.ige,Z.ofN,Z.len,zW7,cond_false]; exact decide_eq_false (by omega)) ?_
  refine zQa (ixN h' (by rw [zW7]; omega)) (zQb (getN _ h' _) ?_)
  rw [hg]
 unfold yK7
 dsimp only
 refine zQe hsh ?_
 refine zQq rfl ?_
 refine zQe (xJa _ _ _ _ o.2.1 hl q1) ?_
 unfold olB
 simp only [List.getD,Qn hi,K8]
 simp only [Z.zQr]
 rfl
end Go.Proofs.YtfeemnbhcafofaaDoor
