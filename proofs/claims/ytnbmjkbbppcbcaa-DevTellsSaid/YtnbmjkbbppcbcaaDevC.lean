/- Devices: shapes, which may be, what is read and written. -/
import Derived.Test.YtnbmjkbbppcbcaaDevB
import Derived.Test.YtnbmjkbbppcbcaaConftells
namespace Go.Proofs.Ytnbmjkbbppcbcaa
open Go.Eng
set_option linter.unusedVariables false
set_option linter.unusedSimpArgs false
abbrev ShT:=Int×(Int×Unit)
def shp (l : LvlT) : ShT:=(2 * 2 ^ l.2.2.1.toNat - 1,(8+l.2.2.2.1,()))
noncomputable def shS (c : CfgT) : List ShT:=(allS c).map shp
theorem lv_in {c : CfgT} (N : Nums c) : ∀ (k : Nat) (n z : Int), n.toNat ≤ k → 1 ≤ n → n ≤ 64 → 0 ≤ z → z ≤ 32 → ∀ p ∈ LV c n z, (1 ≤ p.1 ∧ p.1 ≤ 64) ∧ 0 ≤ p.2 ∧ p.2 ≤ 32
 | 0,n,z,hk,h1,_,_,_=>by omega
 | k+1,n,z,hk,h1,h64,z0,z32=>by
  intro p hp
  have f1:=N.f1
  have f2:=N.f2
  have hLV:=vZk N h1 h64 (s:=z)
  rw [hLV] at hp
  rcases Jh.1 hp with rfl | hp
  ·exact ⟨⟨h1,h64⟩,z0,z32⟩
  ·by_cases ht : n ≤ c.2.2.2.2.2.2.2.2.1
   ·rw [if_pos ht] at hp; simp at hp
   ·rw [if_neg ht] at hp
    have t1:=N.t1
    obtain ⟨a,b⟩:=wXh f1 f2 (show 2≤n by omega)
    exact lv_in N k (nxt c.2.2.1 n) (4 * c.2.2.1) (by omega) a (by omega) (by omega) (by omega) p hp
theorem wKc (n : Int) : may (wQr n)=true:=by
 rw [yKa]; unfold wQr; (repeat' split)<;>omega
theorem yY4 {h : Int} (hm : may h=true) : (2 : Int)≤2 ^ h.toNat∧(2 : Int) ^ h.toNat≤64:=by
 rcases yZc hm with rfl | rfl | rfl | rfl | rfl | rfl<;>decide
theorem xYt {c : CfgT} (N : Nums c) : ∀ l∈allS c,may l.2.2.1=true∧72≤l.2.2.2.1∧l.2.2.2.1≤224:=by
 intro l hl
 obtain ⟨p,hp,rfl⟩:=Q6.1 hl
 obtain ⟨_,h1,h2⟩:=lv_in N c.1.toNat c.1 c.2.1 (Qf _) N.p1 N.p2 (by have:=N.s1; omega) N.s2 p hp
 obtain ⟨m1,m2⟩:=mul_b N.l1 N.l2 (show 8≤8+p.2 by omega) (by omega)
 refine ⟨wKc _, ?_, ?_⟩
 ·show 72≤c.2.2.2.1 * (8+p.2)+64; omega
 ·show c.2.2.2.1 * (8+p.2)+64≤224; omega
theorem uQd {c : CfgT} (N : Nums c) : ∀ s∈shS c,3≤s.1∧s.1≤127∧80≤s.2.1∧s.2.1≤232:=by
 intro s hs
 obtain ⟨l,hl,rfl⟩:=Q6.1 hs
 obtain ⟨h1,h2,h3⟩:=xYt N l hl
 obtain ⟨q1,q2⟩:=yY4 h1
 show 3≤2 * 2 ^ l.2.2.1.toNat - 1∧2 * 2 ^ l.2.2.1.toNat - 1≤127∧80≤8+l.2.2.2.1∧8+l.2.2.2.1≤232
 generalize (2 : Int) ^ l.2.2.1.toNat=q at *
 omega
theorem yW9 (c : CfgT) : (shS c).length=(allS c).length:=by simp [shS]
theorem wW2 {α : Type} (l : List α) {i : Nat} (h : i < l.length) (z : α) : (l.take i++List.replicate (l.length - i) z).set i l[i]=l.take (i+1)++List.replicate (l.length - (i+1)) z:=by
 have l1 : (l.take i).length=i:=by rw [J0]; omega
 rw [List.set_append_right _ _ (by omega),l1,Nat.sub_self,Q7 h,Jv]
 congr 1
 obtain ⟨m,hm⟩ : ∃ m,l.length - i=m+1:=⟨l.length - i - 1,by omega⟩
 have hm2 : l.length - (i+1)=m:=by omega
 rw [hm,hm2,Jy]
 rfl
theorem yQ0 (c : CfgT) : zJ7 c=some (if mayB c then (shS c,0) else ([],8)):=by
 unfold zJ7
 refine zQ6 (yJr c) ?_
 cases hm : mayB c with
 | false=>exact zQy rfl rfl
 | true =>
  obtain ⟨N,_⟩:=zK7 hm
  have hal:=zJo c
  simp only [if_true]
  refine zQz rfl ?_
  refine zQb (Z.zKe.2 ⟨by simp only [Z.ofN,Z.len]; omega,Int.le_refl _,by simp only [Z.ofN,Z.len]; omega,by simp only [Z.ofN,Z.len]; omega⟩) ?_
  refine zQv (fun (s : Int×List ShT)=>∃ i : Nat,i≤(allS c).length∧s=((i : Int),(shS c).take i++List.replicate ((shS c).length - i) (0,(0,())))) (fun s=>(allS c).length - s.1.toNat) ?_ ⟨0,Jd _,by rw [yW9]; rfl⟩ (zKn _ _ (by omega))
  rintro s k ⟨i,hi,rfl⟩ hk
  dsimp only
  have hsl:=yW9 c
  by_cases h : i < (allS c).length
  ·refine zQy (decide_eq_true (by simp only [Z.ofN, Z.len]; omega)) ?_
   refine zQb (ixND h) (zQe (zZw (allS c) h _) ?_)
   obtain ⟨h1,h2,h3⟩:=xYt N _ (Jb h)
   have hg : (shS c)[i]'(by omega)=shp (allS c)[i]:=by simp [shS]
   refine zQ6 ((yJq _).trans (by rw [if_pos h1])) ?_
   refine zQz rfl ?_
   refine zQe (y:=8+(allS c)[i].2.2.2.1) (yW6 (by simp only [Z.add]; omega)) ?_
   refine zQb ⟨by omega,by show (i : Int) < (((allS c).length : Int).toNat : Int); omega⟩ ?_
   refine zQb (by show 0+i < _; simp; omega) ?_
   refine zQe (y:=(shS c).take (i+1)++List.replicate ((shS c).length - (i+1)) (0,(0,()))) ?_ ?_
   ·show List.set _ (0 + i) (shp (allS c)[i]) = _
    rw [Js,← hg]
    exact wW2 (shS c) (by omega) _
   refine zQe (zXy (by omega)) ?_
   exact hk _ ⟨i+1,h,rfl⟩ (by show (allS c).length - ((i+1 : Nat) : Int).toNat < (allS c).length - ((i : Int)).toNat; omega)
  ·refine zQz (decide_eq_false (by simp only [Z.ofN, Z.len]; omega)) ?_
   have hi2 : i=(shS c).length:=by omega
   subst hi2
   rw [Jo,Nat.sub_self,List.replicate_zero,Jk]
   refine zQb (by show 0+((allS c).length : Int).toNat≤(shS c).length; omega) ?_
   congr 2
   show ((shS c).drop 0).take (((allS c).length : Int).toNat)=_
   rw [J9,Qi (by omega)]
def xYh (c : CfgT) (d : List Lev) : Prop:=mayB c=true∧d.length=(shS c).length∧∀ (i : Nat) (h : i < d.length) (h' : i < (shS c).length),(d[i].length : Int)=(shS c)[i].1∧∀ b∈d[i],(b.length : Int)=(shS c)[i].2.1
open Classical in
noncomputable def ckD (c : CfgT) (d : List Lev) : Int:=if xYh c d then 0 else 8
theorem vQn {c : CfgT} {d : List Lev} (h : xYh c d) : ckD c d=0:=if_pos h
theorem yZs {c : CfgT} {d : List Lev} (h : ¬ xYh c d) : ckD c d=8:=if_neg h
theorem uWw (c : CfgT) (d : List Lev) : (ckD c d=0∧xYh c d)∨(ckD c d=8∧¬ xYh c d):=by
 by_cases h : xYh c d
 ·exact .inl ⟨vQn h,h⟩
 ·exact .inr ⟨yZs h,h⟩
theorem xWe (c : CfgT) (d : List Lev) (hl : d.length≤1000000000) (hL : ∀ L∈d,L.length≤1000000000) : yZp (c,(d,()))=some (ckD c d):=by
 unfold yZp
 dsimp only
 refine zQ6 (yQ0 c) ?_
 cases hm : mayB c with
 | false =>
  refine zQy rfl ?_
  rw [yZs fun h=>by rw [h.1] at hm; cases hm]
  rfl
 | true =>
  have hal:=zJo c
  have hsl:=yW9 c
  simp only [if_true]
  refine zQz rfl ?_
  by_cases hlen : d.length=(shS c).length
  ·refine zQz (by simp only [Z.ine, Z.ofN, Z.len, hlen]; simp) ?_
   refine zQv (fun (s : Int)=>∃ i : Nat,s=(i : Int)∧i≤d.length∧∀ (j : Nat) (h : j < d.length) (h' : j < (shS c).length),j < i→(d[j].length : Int)=(shS c)[j].1) (fun s=>d.length - s.toNat) ?_ ⟨0,rfl,Jd _,fun _ _ _ h=>absurd h (Nat.not_lt_zero _)⟩ (zKn _ _ (by omega))
   rintro s k ⟨i,rfl,hi,hq⟩ hk
   by_cases h : i < d.length
   ·have h' : i < (shS c).length := by omega
    refine zQy (decide_eq_true (by simp only [Z.ofN,Z.len]; omega)) ?_
    refine zQb (ixND h') (zQe (zZw (shS c) h' _) ?_)
    refine zQb (ixND h) (zQe (zZw d h _) ?_)
    by_cases he : (d[i].length : Int)=(shS c)[i].1
    ·refine zQz (by simp only [Z.ine, Z.ofN, Z.len, he]; simp) ?_
     refine zQe (zXy (by omega)) ?_
     refine hk _ ⟨i+1,rfl,h,fun j hj hj' hji=>?_⟩ (by show d.length - ((i+1 : Nat) : Int).toNat < d.length - ((i : Int)).toNat; omega)
     by_cases e : j=i
     ·subst e; exact he
     ·exact hq j hj hj' (by omega)
    ·refine zQy (by simpa only [Z.ine, Z.ofN, Z.len, bne_iff_ne, ne_eq] using he) ?_
     rw [yZs fun hh=>he (hh.2.2 i h h').1]
   ·refine zQz (decide_eq_false (by simp only [Z.ofN, Z.len]; omega)) ?_
    have hq1 : ∀ (j : Nat) (h : j < d.length) (h' : j < (shS c).length),(d[j].length : Int)=(shS c)[j].1:=fun j h h'=>hq j h h' (by omega)
    clear hk hq
    refine zQv (fun (s : Int)=>∃ i : Nat,s=(i : Int)∧i≤d.length∧∀ (j : Nat) (h : j < d.length) (h' : j < (shS c).length),j < i→∀ b∈d[j],(b.length : Int)=(shS c)[j].2.1) (fun s=>d.length - s.toNat) ?_ ⟨0,rfl,Jd _,fun _ _ _ h=>absurd h (Nat.not_lt_zero _)⟩ (zKn _ _ (by omega))
    rintro s k ⟨i,rfl,hi,hq⟩ hk
    by_cases h : i < d.length
    ·have h' : i < (shS c).length := by omega
     refine zQy (decide_eq_true (by simp only [Z.ofN,Z.len]; omega)) ?_
     refine zQb (ixND h) (zQe (zZw d h _) ?_)
     have hLi:=hL _ (Jb h)
     refine zQv (fun (s : Int)=>∃ q : Nat,s=(q : Int)∧q≤d[i].length∧∀ (j : Nat) (hj : j < d[i].length),j < q→(d[i][j].length : Int)=(shS c)[i].2.1) (fun s=>d[i].length - s.toNat) ?_ ⟨0,rfl,Jd _,fun _ _ h=>absurd h (Nat.not_lt_zero _)⟩ (zKn _ _ (by omega))
     rintro s k2 ⟨q,rfl,hqi,hqq⟩ hk2
     by_cases hlt : q < d[i].length
     ·refine zQy (decide_eq_true (by simp only [Z.ofN, Z.len]; omega)) ?_
      refine zQb (ixND hlt) (zQe (zZw d[i] hlt _) ?_)
      refine zQb (ixND h') (zQe (zZw (shS c) h' _) ?_)
      by_cases he : (d[i][q].length : Int)=(shS c)[i].2.1
      ·refine zQz (by simp only [Z.bnot, Z.ieq, Z.ofN, Z.len, he]; simp) ?_
       refine zQe (zXy (by omega)) ?_
       refine hk2 _ ⟨q+1,rfl,hlt,fun j hj hji=>?_⟩ (by show d[i].length - ((q+1 : Nat) : Int).toNat < d[i].length - ((q : Int)).toNat; omega)
       by_cases e : j=q
       ·subst e; exact he
       ·exact hqq j hj (by omega)
      ·refine zQy (by simp only [Z.bnot, Z.ieq, Z.ofN, Z.len]; simpa using he) ?_
       rw [yZs fun hh=>he ((hh.2.2 i h h').2 _ (Jb hlt))]
     ·refine zQz (decide_eq_false (by simp only [Z.ofN, Z.len]; omega)) ?_
      refine zQe (zXy (by omega)) ?_
      refine hk _ ⟨i+1,rfl,h,fun j hj hj' hji=>?_⟩ (by show d.length - ((i+1 : Nat) : Int).toNat < d.length - ((i : Int)).toNat; omega)
      by_cases e : j=i
      ·subst e
       intro b hb
       obtain ⟨x,hx,rfl⟩:=List.getElem_of_mem hb
       exact hqq x hx (by omega)
      ·exact hq j hj hj' (by omega)
    ·refine zQz (decide_eq_false (by simp only [Z.ofN, Z.len]; omega)) ?_
     rw [vQn ⟨hm,hlen,fun i h h'=>⟨hq1 i h h',hq i h h' (by omega)⟩⟩]
  ·refine zQy (by simp only [Z.ine, Z.ofN, Z.len, bne_iff_ne, ne_eq]; omega) ?_
   rw [yZs fun h=>hlen h.2.1]
theorem vX3 {c : CfgT} {d : List Lev} (h : xYh c d) : d.length≤64∧∀ L∈d,(3≤L.length∧L.length≤127)∧∀ b∈L,80≤b.length∧b.length≤232:=by
 obtain ⟨hm,hlen,hall⟩:=h
 obtain ⟨N,_⟩:=zK7 hm
 have hal:=zJo c
 have hsl:=yW9 c
 refine ⟨by omega,fun L hL=>?_⟩
 obtain ⟨i,hi,rfl⟩:=List.getElem_of_mem hL
 have hi' : i < (shS c).length:=by omega
 obtain ⟨h1,h2⟩:=hall i hi hi'
 obtain ⟨a1,a2,a3,a4⟩:=uQd N _ (Jb hi')
 refine ⟨by omega,fun b hb=>?_⟩
 have:=h2 b hb
 omega
end Go.Proofs.Ytnbmjkbbppcbcaa
