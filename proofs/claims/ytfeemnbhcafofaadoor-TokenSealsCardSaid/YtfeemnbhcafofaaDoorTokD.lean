/- A token's text. -/
import Derived.Test.YtfeemnbhcafofaaDoorTokC
import Derived.Test.YtfeemnbhcafofaaDoorShaE
namespace Go.Proofs.YtfeemnbhcafofaaDoor
open Go.Eng
set_option linter.unusedVariables false
set_option linter.unusedSimpArgs false
theorem iteT {β : Type} {c : Prop} [Decidable c] {A B : Option β} {r : β} (hc : c) (h : A=some r) : (if c then A else B)=some r:=by rw [if_pos hc]; exact h
theorem bigT {a b : Nat} (ha : a≤1000000) (hb : b≤1000000) : ¬ Z.Big a b 1:=by
 simp only [Z.Big]
 have : (2 : Nat) ^ 44=17592186044416:=by decide
 omega
theorem dgl (n : Int) (m : Nat) : (digs n m).length=m:=by simp [digs]
def slW (S : Int) (s : List Blk) (n : Nat) : List Int:=if n < s.length then wQt (s.getD n noB).1 (s.getD n noB).2.1 (s.getD n noB).2.2.1 else List.replicate (8+S).toNat 0
def stT (S : Int) (s : List Blk) : Nat → List Int
 | 0=>[]
 | n+1=>stT S s n++slW S s n
noncomputable def lvT (c : CfgT) (L : List OrmT) : Nat → List Int
 | 0=>[]
 | i+1=>lvT c L i++((L.getD i noO).1++stT (lvP c i).2 (L.getD i noO).2.1 c.2.2.2.2.1.toNat)
def mpT (M : List Int) : Nat → List Int
 | 0=>[]
 | j+1=>mpT M j++digs (M.getD j 0) 4
theorem wJm (M : List Int) : ∀ j, (mpT M j).length = 4 * j
 | 0=>rfl
 | j+1=>by simp only [mpT,Qt,wJm M j,dgl]; omega
theorem vJ0 {B S H : Int} {s : List Blk} (h : stB B S H s=true) {n : Nat} (hn : n < s.length) : yYf B S H s[n].1 s[n].2.1 s[n].2.2.1=true:=by
 have:=(of_decide_eq_true h) n hn
 unfold stQ at this
 rw [zK9 hn,Qb] at this
 exact this.1
theorem wK4 {B S H : Int} {s : List Blk} (h : stB B S H s=true) (h0 : 0≤S) (h1 : S≤32) (n : Nat) : (slW S s n).length≤40:=by
 unfold slW
 split
 ·rename_i hn
  have hb:=vJ0 h hn
  unfold yYf at hb
  have:=(of_decide_eq_true hb).2.2.2.2
  rw [zK9 hn]
  simp only [wQt,Qt,dgl]; omega
 ·rw [List.length_replicate]; omega
theorem wQr {B S H : Int} {s : List Blk} (h : stB B S H s = true) (h0 : 0 ≤ S) (h1 : S ≤ 32) : ∀ n, (stT S s n).length ≤ 40 * n
 | 0=>Qe _
 | n+1=>by
  have a:=wQr h h0 h1 n
  have b:=wK4 h h0 h1 n
  simp only [stT,Qt]; omega
theorem wJp {c : CfgT} {L : List OrmT} (hm : mayB c = true) (hL : okL c L = true) (hlen : L.length = nL c) (hr : ∀ o ∈ L, o.1.length = 32) : ∀ i, i ≤ nL c → (lvT c L i).length ≤ 2592 * i
 | 0,_=>Qe _
 | i+1,hi=>by
  have a:=wJp hm hL hlen hr i (by omega)
  have hiL : i < L.length:=by omega
  have b:=(of_decide_eq_true hL) i (by omega)
  obtain ⟨_,d,e⟩:=yQ3 hm (show i < nL c by omega)
  rw [zK8 hiL] at b
  obtain ⟨k0,k1⟩:=vQk hm
  have g:=wQr (s:=L[i].2.1) b (by show 0≤(lvP c i).2; omega) (by show (lvP c i).2≤32; omega) c.2.2.2.2.1.toNat
  have r:=hr _ (Qv hiL)
  simp only [lvT,Qt,zK8 hiL,r]
  have : (stT (lvP c i).2 L[i].2.1 c.2.2.2.2.1.toNat).length≤40 * c.2.2.2.2.1.toNat:=g
  omega
noncomputable def xWv (c : CfgT) (L : List OrmT) (M : List Int) : List Int:=lvT c L (nL c)++mpT M M.length
noncomputable def fitK (c : CfgT) (L : List OrmT) : Bool:=decide (∀ i,i < nL c→decide (((L.getD i noO).2.1.length : Int)≤c.2.2.2.2.1)=true)
noncomputable def tokS (c : CfgT) (k : List Int) (L : List OrmT) (M : List Int) : List Int×Int :=
 if recB c L M=true then (if fitK c L=true then (xWv c L M++digS (k++xWv c L M),0) else ([],4)) else ([],8)
theorem xX7 {c : CfgT} {L : List OrmT} {M : List Int} (h : recB c L M=true) : mayB c=true∧L.length=nL c∧okL c L=true∧(M.length : Int)=(zW8 c).1∧okM (zXh (zW8 c).1) M=true:=by
 simp only [recB,Qb,decide_eq_true_eq] at h
 exact ⟨h.1,h.2.1,h.2.2.1,h.2.2.2.1,h.2.2.2.2⟩
theorem nL4 {c : CfgT} (hm : mayB c=true) : nL c≤4:=(zXz hm).2
theorem uWp {c : CfgT} (hm : mayB c=true) {i : Nat} (hi : i < nL c) {b : Blk} (hb : yYf (lvP c i).1 (lvP c i).2 (zXh (lvP c i).1) b.1 b.2.1 b.2.2.1=true) : zJo (lvlS c (lvP c i),(b.1,(b.2.1,(b.2.2.1,()))))=some (wQt b.1 b.2.1 b.2.2.1,0):=by
 obtain ⟨N,_⟩:=zXz hm
 obtain ⟨_,q2⟩:=wWw N (yQ3 hm hi)
 refine (xXs _ _ _ _ _ _ _).trans ?_
 unfold vXs
 have : yXt (lvP c i).1 (lvP c i).2 (zXh (lvP c i).1) (c.2.2.2.1 * (8+(lvP c i).2)+64) b.1 b.2.1 b.2.2.1=0:=by
  unfold yXt
  rw [if_pos q2,if_pos hb]
 rw [if_pos this]
theorem ofOk {c : CfgT} (hm : mayB c=true) {i : Nat} (hi : i < nL c) {b : Blk} (hb : yYf (lvP c i).1 (lvP c i).2 (zXh (lvP c i).1) b.1 b.2.1 b.2.2.1=true) : yZb (b.1,(b.2.1,(b.2.2.1,())))=some (wQt b.1 b.2.1 b.2.2.1):=by
 unfold yYf at hb
 obtain ⟨h1,h2,h3,h4,h5⟩:=of_decide_eq_true hb
 obtain ⟨⟨a1,a2⟩,a3,a4⟩:=yQ3 hm hi
 have:=(yKm a1 a2).2.2
 exact wQ2 _ _ _ h1 (by omega) h3 (by omega) (by omega)
theorem fit_le {c : CfgT} {L : List OrmT} {i : Nat} (hf : fitK c L=true) (hi : i < nL c) : ((L.getD i noO).2.1.length : Int)≤c.2.2.2.2.1:=of_decide_eq_true ((of_decide_eq_true hf) i hi)
theorem fit_no {c : CfgT} {L : List OrmT} {i : Nat} (hi : i < nL c) (h : ¬ ((L.getD i noO).2.1.length : Int)≤c.2.2.2.2.1) : fitK c L=false :=
 decide_eq_false fun hh=>h (of_decide_eq_true (hh i hi))
theorem digOk {h n : Int} (hm : may h=true) (hb : mpB h n=true) (m0 : -9223372036854775808≤n) (m1 : n≤9223372036854775807) : zJ3 (h,n)=some (digs n 4,0):=by
 rw [xWu _ _ m0 m1]
 have:=of_decide_eq_true hb
 unfold wrS
 have e : chkS h n=0:=by unfold chkS; rw [if_pos hm,if_pos this]
 rw [if_pos e]
theorem xXi (c : CfgT) (ky : List Int) (L : List OrmT) (M : List Int) (nx tk : Int) (hk32 : ky.length=32) (hs : StOk L M) : yX1 (c,(ky,(L,(M,(nx,(tk,()))))))=some (tokS c ky L M):=by
 unfold yX1 tokS
 dsimp only
 refine zQe (xJd c L M nx tk hs) ?_
 cases hrec : recB c L M with
 | false=>exact zQq rfl rfl
 | true =>
  refine zQm rfl ?_
  obtain ⟨hm,hlen,hL,hMl,hMo⟩:=xX7 hrec
  refine zQe (y:=(allS c,0)) (by rw [zZl,if_pos hm]) ?_
  refine zQm rfl ?_
  have hal : (allS c).length=nL c:=zW7 c
  obtain ⟨n1,n64⟩:=yZ2 hm
  have n4:=nL4 hm
  obtain ⟨k0,k1⟩:=vQk hm
  have hnk : zQu hk32=zQu hk32:=rfl
  refine zQa rfl ?_
  refine zQn (fun (s : Int×List Int)=>∃ i : Nat,s=((i : Int),lvT c L i)∧i≤nL c∧∀ j,j < i→((L.getD j noO).2.1.length : Int)≤c.2.2.2.2.1) (fun s=>nL c - s.1.toNat) ?_ ⟨0,rfl,Q5 _,fun _ h=>absurd h (Nat.not_lt_zero _)⟩ (zKi _ _ (by omega))
  rintro s k ⟨i,rfl,hi,hfit⟩ hk
  dsimp only at hk ⊢
  have hlvl:=wJp hm hL hlen hs.root i hi
  by_cases hlt : i < nL c
  ·refine zQq (decide_eq_true (by simp only [Z.ofN, Z.len, hal]; omega)) ?_
   obtain ⟨hl,hg⟩:=wWx hlt
   have hiL : i < L.length:=by omega
   refine zQa (ixN (l:=allS c) hl (by omega)) (zQb (getN (allS c) hl _) ?_)
   refine zQa (ixN hiL (by omega)) (zQb (getN L hiL _) ?_)
   rw [hg]
   have hroot:=hs.root _ (Qv hiL)
   have hst:=(of_decide_eq_true hL) i hlt
   rw [zK8 hiL] at hst
   replace hst : stB (lvP c i).1 (lvP c i).2 (zXh (lvP c i).1) L[i].2.1=true:=hst
   obtain ⟨⟨p1,p2⟩,p3,p4⟩:=yQ3 hm hlt
   by_cases hK : (L[i].2.1.length : Int)≤c.2.2.2.2.1
   ·refine zQm (decide_eq_false (by simp only [Z.ofN, Z.len]; omega)) ?_
    rw [yZ3 hroot]
    refine zQy (bigT (by simp only [Z.len]; omega) (by simp only [Z.len]; omega)) ?_
    refine zQa rfl ?_
    refine zQb (y:=lvT c L i++L[i].1) rfl (zQa rfl ?_)
    refine zQn (fun (s : Int×List Int)=>∃ n : Nat,s=((n : Int),lvT c L i++(L[i].1++stT (lvP c i).2 L[i].2.1 n))∧(n : Int)≤c.2.2.2.2.1) (fun s=>c.2.2.2.2.1.toNat - s.1.toNat) ?_ ⟨0,by simp [stT],by omega⟩ (zKi _ _ (by omega))
    rintro s k2 ⟨n,rfl,hn⟩ hk2
    dsimp only at hk2 ⊢
    have hstl:=wQr hst (by omega) p4 n
    have hslw:=wK4 hst (by omega) p4 n
    have hacc : (lvT c L i++(L[i].1++stT (lvP c i).2 L[i].2.1 n)).length≤100000:=by simp only [Qt]; omega
    by_cases hnK : (n : Int) < c.2.2.2.2.1
    ·refine zQq (decide_eq_true hnK) ?_
     refine zQe (uQ3 hm hlt) ?_
     have fin : ∀ x,x=slW (lvP c i).2 L[i].2.1 n→(lvT c L i++(L[i].1++stT (lvP c i).2 L[i].2.1 n))++x=lvT c L i++(L[i].1++stT (lvP c i).2 L[i].2.1 (n+1)):=by
      rintro x rfl; simp [stT]
     by_cases hns : n < L[i].2.1.length
     ·refine zQq (decide_eq_true (by simp only [Z.ofN, Z.len]; omega)) ?_
      have hsl:=hs.st _ (Qv hiL)
      refine zQa (ixN hns (by omega)) (zQb (getN _ hns _) ?_)
      refine zQe (uWp hm hlt (vJ0 hst hns)) ?_
      have e : wQt L[i].2.1[n].1 L[i].2.1[n].2.1 L[i].2.1[n].2.2.1=slW (lvP c i).2 L[i].2.1 n:=by
       unfold slW; rw [if_pos hns,zK9 hns]
      dsimp only
      rw [e]
      refine zQy (bigT (by simp only [Z.len]; omega) (by simp only [Z.len]; omega)) (zQa rfl (zQb (fin _ rfl) (zQb (zJ6 (by omega)) (zQa rfl ?_))))
      exact hk2 _ ⟨n+1,rfl,by omega⟩ (by show c.2.2.2.2.1.toNat - (((n+1 : Nat) : Int)).toNat < c.2.2.2.2.1.toNat - ((n : Int)).toNat; omega)
     ·refine zQm (decide_eq_false (by simp only [Z.ofN, Z.len]; omega)) ?_
      have e : List.replicate (8+(lvP c i).2).toNat (0 : Int)=slW (lvP c i).2 L[i].2.1 n:=by
       unfold slW; rw [if_neg hns]
      dsimp only
      rw [e]
      refine zQy (bigT (by simp only [Z.len]; omega) (by simp only [Z.len]; omega)) (zQa rfl (zQb (fin _ rfl) (zQb (zJ6 (by omega)) (zQa rfl ?_))))
      exact hk2 _ ⟨n+1,rfl,by omega⟩ (by show c.2.2.2.2.1.toNat - (((n+1 : Nat) : Int)).toNat < c.2.2.2.2.1.toNat - ((n : Int)).toNat; omega)
    ·have en : n = c.2.2.2.2.1.toNat := by omega
     refine zQm (decide_eq_false hnK) ?_
     refine zQb (zJ6 (by omega)) (zQa rfl ?_)
     refine hk _ ⟨i+1, ?_,hlt,fun j hj=>?_⟩ (by show nL c - (((i+1 : Nat) : Int)).toNat < nL c - ((i : Int)).toNat; omega)
     ·rw [lvT,zK8 hiL,en]
     ·by_cases e : j = i
      ·subst e; rw [zK8 hiL]; exact hK
      ·exact hfit j (by omega)
   ·refine zQq (decide_eq_true (by simp only [Z.ofN, Z.len]; omega)) ?_
    rw [fit_no hlt (by rw [zK8 hiL]; exact hK)]
    rfl
  ·have e : i = nL c := by omega
   subst e
   have hfk : fitK c L=true:=decide_eq_true fun j hj=>decide_eq_true (hfit j hj)
   rw [hfk,if_pos rfl,if_pos rfl]
   refine zQm (decide_eq_false (by simp only [Z.ofN,Z.len,hal]; omega)) ?_
   refine zQb (vKk hm) ?_
   obtain ⟨hl,hg⟩:=yJ1 hm
   refine zQa (ixN (l:=allS c) hl (by omega)) (zQb (getN (allS c) hl _) ?_)
   rw [hg]
   refine zQa rfl ?_
   obtain ⟨l1,l2⟩:=(zYe hm).1
   have hmay : may (zXh (zW8 c).1)=true:=(yKm l1 l2).1
   have hmp : ∀ j,(mpT M j).length=4 * j:=wJm M
   refine zQn (fun (s : Int×List Int)=>∃ j : Nat,s=((j : Int),lvT c L (nL c)++mpT M j)∧j≤M.length) (fun s=>M.length - s.1.toNat) ?_ ⟨0,by simp [mpT],Q5 _⟩ (zKi _ _ (by omega))
   rintro s k2 ⟨j,rfl,hj⟩ hk2
   dsimp only at hk2 ⊢
   have hmj:=hmp j
   have hacc : (lvT c L (nL c)++mpT M j).length≤100000:=by simp only [Qt]; omega
   by_cases hjl : j < M.length
   ·refine zQq (decide_eq_true (by simp only [Z.ofN, Z.len]; omega)) ?_
    refine zQa (ixN hjl (by omega)) (zQb (getN M hjl _) ?_)
    obtain ⟨m0,m1⟩:=hs.mr _ (Qv hjl)
    have hb:=(of_decide_eq_true hMo) j hjl
    have eg : M.getD j 0=M[j]:=by simp [List.getD,hjl]
    rw [eg] at hb
    refine zQe (digOk hmay hb m0 m1) ?_
    refine zQm rfl ?_
    refine zQy (bigT (by simp only [Z.len]; omega) (by simp only [Z.len,dgl]; omega)) (zQa rfl (zQb (y:=lvT c L (nL c)++mpT M (j+1)) (by simp [mpT,eg,hjl]) (zQb (zJ6 (by omega)) (zQa rfl ?_))))
    exact hk2 _ ⟨j+1,rfl,hjl⟩ (by show M.length - (((j+1 : Nat) : Int)).toNat < M.length - ((j : Int)).toNat; omega)
   ·have ej : j = M.length := by omega
    subst ej
    refine zQm (decide_eq_false (by simp only [Z.ofN,Z.len]; omega)) ?_
    rw [zQu hk32]
    refine zQa (by simp only [Z.Le,Z.len,hk32]; omega) (iteT (by simp only [Z.Lt]; omega) (zQa (by simp only [Z.Le,Z.addN,Z.subN,Z.len,hk32]; omega) ?_))
    have hseg : Z.seg ky 0 (Z.subN 32 0)=ky:=by simp [Z.seg,Z.subN,← hk32]
    rw [hseg]
    have hof:=ofBig [ky,lvT c L (nL c)++mpT M M.length] (by simp) (fun x hx=>by
     rcases Jf.1 hx with rfl | hx
     ·omega
     ·rcases Jf.1 hx with rfl | hx
      ·exact hacc
      ·simp at hx)
    refine zQe hof ?_
    have hfl : [ky,lvT c L (nL c)++mpT M M.length].flatten=ky++(lvT c L (nL c)++mpT M M.length):=by simp
    rw [hfl]
    refine zQa (by simp [Z.EqN,Z.len,Z.rep]) ?_
    have hd:=vQ4 (ky++(lvT c L (nL c)++mpT M M.length))
    rw [zQu hd]
    refine zQa (by simp only [Z.Le,Z.len,hd]; omega) (iteT (by simp only [Z.Lt]; omega) (zQa (by simp only [Z.Le,Z.addN,Z.subN,Z.len,hd]; omega) ?_))
    have hsd : Z.seg (digS (ky++(lvT c L (nL c)++mpT M M.length))) 0 (Z.subN 32 0)=digS (ky++(lvT c L (nL c)++mpT M M.length)):=by
     simp only [Z.seg,Z.subN,Jk]
     exact Qp (by omega)
    rw [hsd]
    refine zQy (bigT (by simp only [Z.len]; omega) (by simp only [Z.len,hd]; omega)) (zQa rfl (zQb rfl ?_))
    rfl
end Go.Proofs.YtfeemnbhcafofaaDoor
