/- A token's text, by the document. -/
import Derived.Test.YtfeemnbhcafofaaDoorTokD
namespace Go.Proofs.YtfeemnbhcafofaaDoor
open Go.Eng
set_option linter.unusedVariables false
set_option linter.unusedSimpArgs false
theorem wQ1 (c : CfgT) (ky : List Int) (L : List OrmT) (M : List Int) (nx tk : Int) (hk32 : ky.length = 32) (hs : StOk L M) (hrec : recB c L M = true) (hf : fitK c L = true) :
  xWx (c,(ky,(L,(M,(nx,(tk,()))))))=some (xWv c L M++digS (ky++xWv c L M)):=by
 unfold xWx
 dsimp only
 obtain ⟨hm,hlen,hL,hMl,hMo⟩:=xX7 hrec
 obtain ⟨N,_⟩:=zXz hm
 refine zQe (y:=allS c) (zZh N) ?_
 have hal : (allS c).length=nL c:=zW7 c
 obtain ⟨n1,n64⟩:=yZ2 hm
 have n4:=nL4 hm
 obtain ⟨k0,k1⟩:=vQk hm
 refine zQa rfl ?_
 refine zQn (fun (s : List Int×Int)=>∃ i : Nat,s=(lvT c L i,(i : Int))∧i≤nL c) (fun s=>nL c - s.2.toNat) ?_ ⟨0,rfl,Q5 _⟩ (zKi _ _ (by omega))
 rintro s k ⟨i,rfl,hi⟩ hk
 dsimp only at hk ⊢
 have hlvl:=wJp hm hL hlen hs.root i hi
 by_cases hlt : i < nL c
 ·refine zQq (decide_eq_true (by simp only [Z.ofN, Z.len, hal]; omega)) ?_
  obtain ⟨hl,hg⟩:=wWx hlt
  have hiL : i < L.length:=by omega
  have hix:=ixN hiL (by omega)
  refine zQa hix (zQb (getN L hiL _) ?_)
  have hroot:=hs.root _ (Qv hiL)
  have hst:=(of_decide_eq_true hL) i hlt
  rw [zK8 hiL] at hst
  replace hst : stB (lvP c i).1 (lvP c i).2 (zXh (lvP c i).1) L[i].2.1=true:=hst
  obtain ⟨⟨p1,p2⟩,p3,p4⟩:=yQ3 hm hlt
  have hKi:=fit_le hf hlt
  rw [zK8 hiL] at hKi
  rw [yZ3 hroot]
  have hsl : Z.slice L[i].1 0 32=L[i].1:=by
   simp only [Z.slice,Jk]
   exact Qp (by omega)
  rw [hsl]
  refine zQy (bigT (by simp only [Z.len]; omega) (by simp only [Z.len]; omega)) ?_
  refine zQa rfl ?_
  refine zQb (y:=lvT c L i++L[i].1) rfl (zQa rfl ?_)
  refine zQn (fun (s : List Int×Int)=>∃ n : Nat,s=(lvT c L i++(L[i].1++stT (lvP c i).2 L[i].2.1 n),(n : Int))∧(n : Int)≤c.2.2.2.2.1) (fun s=>c.2.2.2.2.1.toNat - s.2.toNat) ?_ ⟨0,by simp [stT],by omega⟩ (zKi _ _ (by omega))
  rintro s k2 ⟨n,rfl,hn⟩ hk2
  dsimp only at hk2 ⊢
  have hstl:=wQr hst (by omega) p4 n
  have hslw:=wK4 hst (by omega) p4 n
  have hacc : (lvT c L i++(L[i].1++stT (lvP c i).2 L[i].2.1 n)).length≤100000:=by simp only [Qt]; omega
  by_cases hnK : (n : Int) < c.2.2.2.2.1
  ·refine zQq (decide_eq_true hnK) ?_
   refine zQa hix (zQb (getN L hiL _) ?_)
   have fin : ∀ x,x=slW (lvP c i).2 L[i].2.1 n→(lvT c L i++(L[i].1++stT (lvP c i).2 L[i].2.1 n))++x=lvT c L i++(L[i].1++stT (lvP c i).2 L[i].2.1 (n+1)):=by
    rintro x rfl; simp [stT]
   by_cases hns : n < L[i].2.1.length
   ·refine zQq (decide_eq_true (by simp only [Z.ofN, Z.len]; omega)) ?_
    have hsl:=hs.st _ (Qv hiL)
    refine zQa hix (zQb (getN L hiL _) ?_)
    refine zQa (ixN hns (by omega)) (zQb (getN _ hns _) ?_)
    refine zQe (ofOk hm hlt (vJ0 hst hns)) ?_
    have e : wQt L[i].2.1[n].1 L[i].2.1[n].2.1 L[i].2.1[n].2.2.1=slW (lvP c i).2 L[i].2.1 n:=by
     unfold slW; rw [if_pos hns,zK9 hns]
    rw [e]
    refine zQy (bigT (by simp only [Z.len]; omega) (by simp only [Z.len]; omega)) (zQa rfl (zQb (fin _ rfl) (zQb (zJ6 (by omega)) (zQa rfl ?_))))
    exact hk2 _ ⟨n+1,rfl,by omega⟩ (by show c.2.2.2.2.1.toNat - (((n+1 : Nat) : Int)).toNat < c.2.2.2.2.1.toNat - ((n : Int)).toNat; omega)
   ·refine zQm (decide_eq_false (by simp only [Z.ofN, Z.len]; omega)) ?_
    refine zQa (ixN (l:=allS c) hl (by omega)) (zQb (getN (allS c) hl _) ?_)
    rw [hg]
    refine zQb (y:=8+(lvP c i).2) (zW9 (by simp only [Z.add,lvlS]; omega)) ?_
    refine zQa (Z.wYl.2 ⟨by omega,by omega,by omega⟩) ?_
    have e : List.replicate (8+(lvP c i).2).toNat (0 : Int)=slW (lvP c i).2 L[i].2.1 n:=by
     unfold slW; rw [if_neg hns]
    refine zQb (y:=slW (lvP c i).2 L[i].2.1 n) e ?_
    refine zQy (bigT (by simp only [Z.len]; omega) (by simp only [Z.len]; omega)) (zQa rfl (zQb (fin _ rfl) (zQb (zJ6 (by omega)) (zQa rfl ?_))))
    exact hk2 _ ⟨n+1,rfl,by omega⟩ (by show c.2.2.2.2.1.toNat - (((n+1 : Nat) : Int)).toNat < c.2.2.2.2.1.toNat - ((n : Int)).toNat; omega)
  ·have en : n = c.2.2.2.2.1.toNat := by omega
   refine zQm (decide_eq_false hnK) ?_
   refine zQb (zJ6 (by omega)) (zQa rfl ?_)
   refine hk _ ⟨i+1, ?_,hlt⟩ (by show nL c - (((i+1 : Nat) : Int)).toNat < nL c - ((i : Int)).toNat; omega)
   rw [lvT,zK8 hiL,en]
 ·have e : i = nL c := by omega
  subst e
  refine zQm (decide_eq_false (by simp only [Z.ofN,Z.len,hal]; omega)) ?_
  refine zQa rfl ?_
  obtain ⟨l1,l2⟩:=(zYe hm).1
  have hmay : may (zXh (zW8 c).1)=true:=(yKm l1 l2).1
  have h64:=(yKm l1 l2).2.2
  have hmp : ∀ j,(mpT M j).length=4 * j:=wJm M
  refine zQn (fun (s : List Int×Int)=>∃ j : Nat,s=(lvT c L (nL c)++mpT M j,(j : Int))∧j≤M.length) (fun s=>M.length - s.2.toNat) ?_ ⟨0,by simp [mpT],Q5 _⟩ (zKi _ _ (by omega))
  rintro s k2 ⟨j,rfl,hj⟩ hk2
  dsimp only at hk2 ⊢
  have hmj:=hmp j
  have hacc : (lvT c L (nL c)++mpT M j).length≤90000:=by simp only [Qt]; omega
  by_cases hjl : j < M.length
  ·refine zQq (decide_eq_true (by simp only [Z.ofN, Z.len]; omega)) ?_
   refine zQa (ixN hjl (by omega)) (zQb (getN M hjl _) ?_)
   have hb:=(of_decide_eq_true hMo) j hjl
   have eg : M.getD j 0=M[j]:=by simp [List.getD,hjl]
   rw [eg] at hb
   have hbb:=of_decide_eq_true hb
   refine zQe (xWk _ hbb.1 (by omega)) ?_
   refine zQy (bigT (by simp only [Z.len]; omega) (by simp only [Z.len,dgl]; omega)) (zQa rfl (zQb (y:=lvT c L (nL c)++mpT M (j+1)) (by simp [mpT,eg,hjl]) (zQb (zJ6 (by omega)) (zQa rfl ?_))))
   exact hk2 _ ⟨j+1,rfl,hjl⟩ (by show M.length - (((j+1 : Nat) : Int)).toNat < M.length - ((j : Int)).toNat; omega)
  ·have ej : j = M.length := by omega
   subst ej
   refine zQm (decide_eq_false (by simp only [Z.ofN,Z.len]; omega)) ?_
   rw [zQu hk32]
   refine zQa (by simp only [Z.Le,Z.len,hk32]; omega) (iteT (by simp only [Z.Lt]; omega) (zQa (by simp only [Z.Le,Z.addN,Z.subN,Z.len,hk32]; omega) ?_))
   have hseg : Z.seg ky 0 (Z.subN 32 0)=ky:=by simp [Z.seg,Z.subN,← hk32]
   rw [hseg]
   refine zQa (Qe _) (zQy (bigT (by simp [Z.len,Z.seg]) (by simp only [Z.len]; omega)) ?_)
   refine zQb (y:=ky) rfl ?_
   refine zQy (bigT (by simp only [Z.len]; omega) (by simp only [Z.len]; omega)) (zQa rfl (zQb rfl ?_))
   refine zQe (wQ3 _ (by simp only [Z.app,Qt] at hacc ⊢; omega)) ?_
   refine zQa (by simp [Z.EqN,Z.len,Z.rep]) ?_
   have hd:=vQ4 (ky++(lvT c L (nL c)++mpT M M.length))
   change (if Z.Le 32 (Z.len (Z.norm 32 (digS (ky++(lvT c L (nL c)++mpT M M.length))) 0)) then _ else _)=_
   simp only [Z.app]
   rw [zQu hd]
   refine zQa (by simp only [Z.Le,Z.len,hd]; omega) (iteT (by simp only [Z.Lt]; omega) (zQa (by simp only [Z.Le,Z.addN,Z.subN,Z.len,hd]; omega) ?_))
   have hsd : Z.seg (digS (ky++(lvT c L (nL c)++mpT M M.length))) 0 (Z.subN 32 0)=digS (ky++(lvT c L (nL c)++mpT M M.length)):=by
    simp only [Z.seg,Z.subN,Jk]
    exact Qp (by omega)
   rw [hsd]
   refine zQy (bigT (by simp only [Z.len]; omega) (by simp only [Z.len,hd]; omega)) (zQa (by first | trivial | rfl) (zQb rfl ?_))
   rfl
theorem xX2 (c : CfgT) (ky : List Int) (L : List OrmT) (M : List Int) (nx tk : Int) (hk32 : ky.length=32) (hs : StOk L M) : yX7 (c,(ky,(L,(M,(nx,(tk,()))))))=some (tokS c ky L M):=by
 unfold yX7 tokS
 dsimp only
 refine zQe (xK8 c L M nx tk hs) ?_
 cases hrec : recB c L M with
 | false=>exact zQq rfl rfl
 | true =>
  refine zQm rfl ?_
  obtain ⟨hm,hlen,hL,hMl,hMo⟩:=xX7 hrec
  obtain ⟨n1,n64⟩:=yZ2 hm
  rw [if_pos rfl,zQu hk32]
  have key : ∀ v,v=(if fitK c L=true then (xWv c L M++digS (ky++xWv c L M),(0 : Int)) else ([],4))→some v=some (if fitK c L=true then (xWv c L M++digS (ky++xWv c L M),0) else ([],4)):=by
   rintro v rfl; rfl
  cases hf : fitK c L with
  | true =>
   refine Eq.trans (yJy (n:=nL c) (fun i=>decide (((L.getD i noO).2.1.length : Int)≤c.2.2.2.2.1)) (bad:=([],4)) (fin:=(xWv c L M++digS (ky++xWv c L M),0)) (by omega) ?_ ?_ ?_) ?_
   ·intro i k r hi hq hr
    have hiL : i < L.length:=by omega
    rw [zK8 hiL] at hq
    refine zQq (decide_eq_true (by simp only [Z.ofN,Z.len,hlen]; omega)) ?_
    refine zQa (ixN hiL (by omega)) (zQb (getN L hiL _) ?_)
    have hq':=of_decide_eq_true hq
    refine zQm (decide_eq_false (by simp only [Z.ofN,Z.len]; omega)) ?_
    exact zQb (zJ6 (by omega)) hr
   ·intro i k hi hq
    have hiL : i < L.length:=by omega
    rw [zK8 hiL] at hq
    refine zQq (decide_eq_true (by simp only [Z.ofN,Z.len,hlen]; omega)) ?_
    refine zQa (ixN hiL (by omega)) (zQb (getN L hiL _) ?_)
    have hq':=of_decide_eq_false hq
    exact zQq (decide_eq_true (by simp only [Z.ofN,Z.len]; omega)) rfl
   ·intro k
    refine zQm (decide_eq_false (by simp only [Z.ofN,Z.len,hlen]; omega)) ?_
    refine zQa (by simp only [Z.EqN,Z.len,hk32]) ?_
    exact zQe (wQ1 c ky L M nx tk hk32 hs hrec hf) rfl
   ·show some (if fitK c L = true then _ else _) = _
    rw [hf]
  | false =>
   rw [show (if false=true then (xWv c L M++digS (ky++xWv c L M),(0 : Int)) else ([],4))=([],4) from rfl]
   have hex : ∃ i,i < nL c∧¬ ((L.getD i noO).2.1.length : Int)≤c.2.2.2.2.1:=by
    have h1:=of_decide_eq_false hf
    exact Classical.byContradiction fun h2=>h1 fun i hi=>decide_eq_true (Classical.byContradiction fun h3=>h2 ⟨i,hi,h3⟩)
   obtain ⟨w,hw,hwK⟩:=hex
   refine zQn (fun (d : Int)=>∃ i : Nat,d=i∧i≤w) (fun d=>w - d.toNat) ?_ ⟨0,rfl,Q5 _⟩ (zKi _ _ (by omega))
   rintro d k ⟨i,rfl,hi⟩ hk
   have hiL : i < L.length:=by omega
   refine zQq (decide_eq_true (by simp only [Z.ofN,Z.len,hlen]; omega)) ?_
   refine zQa (ixN hiL (by omega)) (zQb (getN L hiL _) ?_)
   by_cases hK : (L[i].2.1.length : Int)≤c.2.2.2.2.1
   ·refine zQm (decide_eq_false (by simp only [Z.ofN, Z.len]; omega)) ?_
    have hiw : i≠w:=by
     rintro rfl
     rw [zK8 hiL] at hwK
     exact hwK hK
    refine zQb (zJ6 (by omega)) (hk _ ⟨i+1,rfl,by omega⟩ (by show w - (((i+1 : Nat) : Int)).toNat < w - ((i : Int)).toNat; omega))
   ·exact zQq (decide_eq_true (by simp only [Z.ofN,Z.len]; omega)) rfl
end Go.Proofs.YtfeemnbhcafofaaDoor
