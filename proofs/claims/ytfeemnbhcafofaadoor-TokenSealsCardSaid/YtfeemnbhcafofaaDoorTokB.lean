/- May a store be: as the program and the document tell. -/
import Derived.Test.YtfeemnbhcafofaaDoorTokA
namespace Go.Proofs.YtfeemnbhcafofaaDoor
open Go.Eng
set_option linter.unusedVariables false
set_option linter.unusedSimpArgs false
theorem yJy {β : Type} {f : Int → (Int → Option β) → Option β} {n : Nat} (Q : Nat → Bool) {bad fin : β} (hn : n < 9223372036854775808)
  (hgo : ∀ (i : Nat) k r,i < n→Q i=true→k ((i+1 : Nat) : Int)=some r→f (i : Int) k=some r)
  (hbad : ∀ (i : Nat) k,i < n→Q i=false→f (i : Int) k=some bad) (hend : ∀ k,f (n : Int) k=some fin) :
  Z.loop f 0=some (if decide (∀ i,i < n→Q i=true)=true then fin else bad):=by
 refine zQn (fun (d : Int)=>∃ i : Nat,d=i∧i≤n∧∀ j,j < i→Q j=true) (fun d=>n - d.toNat) ?_ ⟨0,rfl,Q5 _,fun _ h=>absurd h (Nat.not_lt_zero _)⟩ (zKi _ _ (by omega))
 rintro d k ⟨i,rfl,hi,hq⟩ hk
 by_cases hlt : i < n
 ·cases hQ : Q i with
  | true =>
   refine hgo i k _ hlt hQ (hk _ ⟨i+1,rfl,hlt,fun j hj=>?_⟩ (by show n - (((i+1 : Nat) : Int)).toNat < n - ((i : Int)).toNat; omega))
   by_cases e : j=i
   ·subst e; exact hQ
   ·exact hq j (by omega)
  | false =>
   rw [decide_eq_false (fun h=>by rw [h i hlt] at hQ; cases hQ)]
   exact hbad i k hlt hQ
 ·have e : i = n := by omega
  subst e
  rw [decide_eq_true (fun j hj=>hq j hj)]
  exact hend k
theorem zJ6 {i : Nat} (h : i < 9223372036854775807) : Z.wrap .i64 (Z.add (i : Int) 1)=((i+1 : Nat) : Int):=Z.zXq (by omega)
def noO : OrmT:=([],([],()))
noncomputable def nL (c : CfgT) : Nat:=(LV c c.1 c.2.1).length
noncomputable def zW8 (c : CfgT) : Int×Int:=(LV c c.1 c.2.1).getD (nL c - 1) (0,0)
noncomputable def okL (c : CfgT) (L : List OrmT) : Bool:=decide (∀ i,i < nL c→olB c i (L.getD i noO)=true)
def mpB (h n : Int) : Bool:=decide (0≤n∧n≤2 ^ h.toNat)
def okM (h : Int) (M : List Int) : Bool:=decide (∀ j,j < M.length→mpB h (M.getD j 0)=true)
noncomputable def recB (c : CfgT) (L : List OrmT) (M : List Int) : Bool:=mayB c&&(decide (L.length=nL c)&&(okL c L&&(decide ((M.length : Int)=(zW8 c).1)&&okM (zXh (zW8 c).1) M)))
structure StOk (L : List OrmT) (M : List Int) : Prop where
 ll : L.length < 9223372036854775808
 ml : M.length < 9223372036854775808
 root : ∀ o∈L,o.1.length=32
 st : ∀ o∈L,o.2.1.length < 9223372036854775808
 mr : ∀ n∈M, -9223372036854775808≤n∧n≤9223372036854775807
theorem zK8 {L : List OrmT} {i : Nat} (h : i < L.length) : L.getD i noO=L[i]:=by simp [List.getD,h]
theorem yZ2 {c : CfgT} (hm : mayB c=true) : 1≤nL c∧nL c≤64:=by
 obtain ⟨N,_⟩:=zXz hm
 exact ⟨LV_pos N N.p1 N.p2,xYx _ _ 64 _ _⟩
theorem yJ1 {c : CfgT} (hm : mayB c=true) : ∃ h : nL c - 1 < (allS c).length,(allS c)[nL c - 1]=lvlS c (zW8 c):=by
 have h:=yZ2 hm
 have hl : nL c - 1 < (LV c c.1 c.2.1).length:=by unfold nL at h ⊢; omega
 obtain ⟨h1,h2⟩:=xXc hl
 exact ⟨h1,by rw [h2]; unfold zW8; simp [List.getD,hl]⟩
theorem zYe {c : CfgT} (hm : mayB c=true) : (1≤(zW8 c).1∧(zW8 c).1≤64)∧1≤(zW8 c).2∧(zW8 c).2≤32:=by
 obtain ⟨N,_⟩:=zXz hm
 have h:=yZ2 hm
 have hl : nL c - 1 < (LV c c.1 c.2.1).length:=by unfold nL at h ⊢; omega
 have : zW8 c=(LV c c.1 c.2.1)[nL c - 1]:=by unfold zW8; simp [List.getD,hl]
 rw [this]
 exact vWe N _ (Qv hl)
theorem vKk {c : CfgT} (hm : mayB c=true) : Z.wrap .i64 (Z.sub (Z.ofN (Z.len (allS c))) 1)=((nL c - 1 : Nat) : Int):=by
 have h:=yZ2 hm
 have hl : (allS c).length=nL c:=zW7 c
 rw [zW9]<;>simp only [Z.sub,Z.ofN,Z.len,hl]<;>omega
theorem xJd (c : CfgT) (L : List OrmT) (M : List Int) (nx tk : Int) (hs : StOk L M) : yJd (c,(L,(M,(nx,(tk,())))))=some (if recB c L M=true then 0 else 8):=by
 unfold yJd
 dsimp only
 refine zQe (zZl c) ?_
 cases hm : mayB c with
 | false=>refine zQq rfl ?_; simp [recB,hm]
 | true =>
  refine zQm rfl ?_
  have hal : (allS c).length=nL c:=zW7 c
  obtain ⟨n1,n64⟩:=yZ2 hm
  by_cases hlen : L.length=nL c
  ·refine zQm (by simp only [Z.ine, Z.ofN, Z.len, if_true, hal, hlen]; simp) ?_
   have goal : recB c L M=(okL c L&&(decide ((M.length : Int)=(zW8 c).1)&&okM (zXh (zW8 c).1) M)):=by simp [recB,hm,hlen]
   rw [goal]
   have key : ∀ v,v=(if okL c L=true then (if (decide ((M.length : Int)=(zW8 c).1)&&okM (zXh (zW8 c).1) M)=true then (0 : Int) else 8) else 8)→some v=some (if (okL c L&&(decide ((M.length : Int)=(zW8 c).1)&&okM (zXh (zW8 c).1) M))=true then 0 else 8):=by
    rintro v rfl
    cases okL c L<;>simp
   refine Eq.trans (yJy (n:=nL c) (fun i=>olB c i (L.getD i noO)) (bad:=8) (fin:=(if (decide ((M.length : Int)=(zW8 c).1)&&okM (zXh (zW8 c).1) M)=true then (0 : Int) else 8)) (by omega) ?_ ?_ ?_) (key _ rfl)
   ·intro i k r hi hq hr
    have hiL : i < L.length:=by omega
    have hroot:=hs.root _ (Qv hiL)
    refine zQq (decide_eq_true (by simp only [Z.ofN,Z.len,hlen]; omega)) ?_
    refine zQa (ixN hiL (by omega)) (zQb (getN L hiL _) ?_)
    rw [yZ3 hroot]
    refine zQe (yXc c i L[i] hm hi (hs.st _ (Qv hiL))) ?_
    rw [zK8 hiL] at hq
    rw [hq]
    exact zQm rfl (zQb (zJ6 (by omega)) hr)
   ·intro i k hi hq
    have hiL : i < L.length:=by omega
    have hroot:=hs.root _ (Qv hiL)
    refine zQq (decide_eq_true (by simp only [Z.ofN,Z.len,hlen]; omega)) ?_
    refine zQa (ixN hiL (by omega)) (zQb (getN L hiL _) ?_)
    rw [yZ3 hroot]
    refine zQe (yXc c i L[i] hm hi (hs.st _ (Qv hiL))) ?_
    rw [zK8 hiL] at hq
    rw [hq]
    exact zQq rfl rfl
   ·intro k
    refine zQm (decide_eq_false (by simp only [Z.ofN,Z.len,hlen]; omega)) ?_
    refine zQb (vKk hm) ?_
    obtain ⟨hl,hg⟩:=yJ1 hm
    refine zQa (ixN (l:=allS c) hl (by omega)) (zQb (getN (allS c) hl _) ?_)
    rw [hg]
    by_cases hM : (M.length : Int)=(zW8 c).1
    ·refine zQm (by simp only [Z.ine, Z.ofN, Z.len, hM]; simp [lvlS]) ?_
     rw [decide_eq_true hM,Jr]
     have hmay : may (zXh (zW8 c).1)=true:=(yKm (zYe hm).1.1 (zYe hm).1.2).1
     have ec : ∀ j (hj : j < M.length),zKl (zXh (zW8 c).1,M[j])=some (if mpB (zXh (zW8 c).1) (M.getD j 0)=true then 0 else 8):=by
      intro j hj
      obtain ⟨m0,m1⟩:=hs.mr _ (Qv hj)
      rw [yWj _ _ m0 m1]
      unfold chkS mpB
      rw [if_pos hmay]
      simp [List.getD,hj]
     refine yJy (n:=M.length) (fun j=>mpB (zXh (zW8 c).1) (M.getD j 0)) hs.ml ?_ ?_ ?_
     ·intro j k r hj hq hr
      refine zQq (decide_eq_true (by simp only [Z.ofN,Z.len]; omega)) ?_
      have:=hs.ml
      refine zQa (ixN hj (by omega)) (zQb (getN M hj _) ?_)
      refine zQe (ec j hj) ?_
      rw [if_pos hq]
      exact zQm rfl (zQb (zJ6 (by omega)) hr)
     ·intro j k hj hq
      refine zQq (decide_eq_true (by simp only [Z.ofN,Z.len]; omega)) ?_
      have:=hs.ml
      refine zQa (ixN hj (by omega)) (zQb (getN M hj _) ?_)
      refine zQe (ec j hj) ?_
      rw [hq]
      exact zQq rfl rfl
     ·intro k
      exact zQm (decide_eq_false (by simp only [Z.ofN,Z.len]; omega)) rfl
    ·refine zQq (by simp only [Z.ine, Z.ofN, Z.len, lvlS]; simpa using hM) ?_
     rw [decide_eq_false hM]
     rfl
  ·refine zQq (by simp only [Z.ine, Z.ofN, Z.len, if_true, hal]; simp; omega) ?_
   simp [recB,hlen]
theorem xK8 (c : CfgT) (L : List OrmT) (M : List Int) (nx tk : Int) (hs : StOk L M) : yK6 (c,(L,(M,(nx,(tk,())))))=some (recB c L M):=by
 unfold yK6
 dsimp only
 refine zQe (zYj c) ?_
 cases hm : mayB c with
 | false=>refine zQq rfl ?_; simp [recB,hm]
 | true =>
  refine zQm rfl ?_
  obtain ⟨N,_⟩:=zXz hm
  refine zQe (y:=allS c) (zZh N) ?_
  have hal : (allS c).length=nL c:=zW7 c
  obtain ⟨n1,n64⟩:=yZ2 hm
  refine zQb (vKk hm) ?_
  obtain ⟨hl,hg⟩:=yJ1 hm
  refine zQa (ixN (l:=allS c) hl (by omega)) (zQb (getN (allS c) hl _) ?_)
  rw [hg]
  by_cases hlen : L.length=nL c
  ·refine zQm (by simp only [Z.ine, Z.ofN, Z.len, hal, hlen]; simp) ?_
   by_cases hM : (M.length : Int)=(zW8 c).1
   ·refine zQm (by simp only [Z.zQr, Z.ine, Z.ofN, Z.len, hM]; simp [lvlS]) ?_
    have goal : recB c L M=(okL c L&&okM (zXh (zW8 c).1) M):=by simp [recB,hm,hlen,hM]
    rw [goal]
    have key : ∀ v,v=(if okL c L=true then okM (zXh (zW8 c).1) M else false)→some v=some (okL c L&&okM (zXh (zW8 c).1) M):=by
     rintro v rfl
     cases okL c L<;>simp
    refine Eq.trans (yJy (n:=nL c) (fun i=>olB c i (L.getD i noO)) (bad:=false) (fin:=okM (zXh (zW8 c).1) M) (by omega) ?_ ?_ ?_) (key _ rfl)
    ·intro i k r hi hq hr
     have hiL : i < L.length:=by omega
     have hroot:=hs.root _ (Qv hiL)
     refine zQq (decide_eq_true (by simp only [Z.ofN,Z.len,hal]; omega)) ?_
     refine zQa (ixN hiL (by omega)) (zQb (getN L hiL _) ?_)
     rw [yZ3 hroot]
     refine zQe (yZw c i L[i] hm hi (hs.st _ (Qv hiL))) ?_
     rw [zK8 hiL] at hq
     rw [hq]
     exact zQm rfl (zQb (zJ6 (by omega)) hr)
    ·intro i k hi hq
     have hiL : i < L.length:=by omega
     have hroot:=hs.root _ (Qv hiL)
     refine zQq (decide_eq_true (by simp only [Z.ofN,Z.len,hal]; omega)) ?_
     refine zQa (ixN hiL (by omega)) (zQb (getN L hiL _) ?_)
     rw [yZ3 hroot]
     refine zQe (yZw c i L[i] hm hi (hs.st _ (Qv hiL))) ?_
     rw [zK8 hiL] at hq
     rw [hq]
     exact zQq rfl rfl
    ·intro k
     refine zQm (decide_eq_false (by simp only [Z.ofN,Z.len,hal]; omega)) ?_
     have hmay : may (zXh (zW8 c).1)=true:=(yKm (zYe hm).1.1 (zYe hm).1.2).1
     have ec : ∀ j (hj : j < M.length),yWw (zXh (zW8 c).1,M[j])=some (mpB (zXh (zW8 c).1) (M.getD j 0)):=by
      intro j hj
      rw [xK9 _ _ hmay]
      simp [mpB,List.getD,hj]
     have key2 : ∀ v,v=(if okM (zXh (zW8 c).1) M=true then true else false)→some v=some (okM (zXh (zW8 c).1) M):=by
      rintro v rfl
      cases okM (zXh (zW8 c).1) M<;>simp
     refine Eq.trans (yJy (n:=M.length) (fun j=>mpB (zXh (zW8 c).1) (M.getD j 0)) (bad:=false) (fin:=true) hs.ml ?_ ?_ ?_) (key2 _ rfl)
     ·intro j k r hj hq hr
      refine zQq (decide_eq_true (by simp only [Z.ofN,Z.len]; omega)) ?_
      have:=hs.ml
      refine zQa (ixN hj (by omega)) (zQb (getN M hj _) ?_)
      refine zQe (ec j hj) ?_
      rw [hq]
      exact zQm rfl (zQb (zJ6 (by omega)) hr)
     ·intro j k hj hq
      refine zQq (decide_eq_true (by simp only [Z.ofN,Z.len]; omega)) ?_
      have:=hs.ml
      refine zQa (ixN hj (by omega)) (zQb (getN M hj _) ?_)
      refine zQe (ec j hj) ?_
      rw [hq]
      exact zQq rfl rfl
     ·intro k
      exact zQm (decide_eq_false (by simp only [Z.ofN,Z.len]; omega)) rfl
   ·refine zQq (by simp only [Z.zQr, Z.ine, Z.ofN, Z.len, lvlS, cond_false]; simpa using hM) ?_
    simp [recB,hM]
  ·refine zQq (by simp only [Z.ine, Z.ofN, Z.len, hal]; simp; omega) ?_
   simp [recB,hlen]
end Go.Proofs.YtfeemnbhcafofaaDoor
