/- Devices: what was seen, done again. -/
import Derived.Test.YtnbmjkbbppcbcaaDevF
import Derived.Test.YtnbmjkbbppcbcaaDevH
namespace Go.Proofs.Ytnbmjkbbppcbcaa
open Go.Eng
set_option linter.unusedVariables false
set_option linter.unusedSimpArgs false
def sumS (l : List SeeT) (k : Nat) : Nat:=((l.take k).map fun x=>min x.2.2.2.1.length 100000).sum
theorem xJ0 (l : List SeeT) {k : Nat} (h : k < l.length) : sumS l (k+1)=sumS l k+min l[k].2.2.2.1.length 100000:=by
 unfold sumS; rw [Q2 h,Qy,List.sum_append]; simp
theorem wYj (l : List SeeT) : ∀ k, sumS l k ≤ 100000 * k
 | 0=>by simp [sumS]
 | k+1=>by
  have ih:=wYj l k
  by_cases h : k < l.length
  ·rw [xJ0 l h]; omega
  ·have : sumS l (k + 1) = sumS l k := by unfold sumS; rw [Qi (by omega), Qi (by omega)]
   omega
theorem xY2 (l : List SeeT) : ∃ g,zZw l=some g:=by
 refine ⟨decide (2000 < l.length) || decide (200000 < sumS l 2000), ?_⟩
 unfold zZw
 have fin : ∀ n : Nat,n=sumS l 2000→(bif (Z.igt (Z.ofN (Z.len l)) 2000) then some true else some (Z.zQx false true (Z.igt (n : Int) 200000)))=some (decide (2000 < l.length) || decide (200000 < sumS l 2000)):=fun n hn=>by
  by_cases h : 2000 < l.length
  ·rw [decide_eq_true h]
   exact zQs (by simp only [Z.igt,Z.ofN,Z.len]; exact decide_eq_true (by omega)) rfl
  ·rw [decide_eq_false h]
   refine zQp (by simp only [Z.igt,Z.ofN,Z.len]; exact decide_eq_false (by omega)) ?_
   rw [show Z.zQx false true (Z.igt (n : Int) 200000)=decide ((n : Int) > 200000) from rfl,Bool.false_or,hn]
   congr 1
   exact decide_eq_decide.2 (by omega)
 refine zQu (fun (s : Int×Int)=>∃ i : Nat,i≤l.length∧i≤2000∧s=((sumS l i : Int),(i : Int))) (fun s=>2000 - s.2.toNat) ?_ ⟨0,Q9 _,by omega,rfl⟩ (zZn 2000 _ (by omega))
 rintro s k ⟨i,hi,hi2,rfl⟩ hk
 dsimp only
 by_cases h : i < l.length
 ·refine zQs (decide_eq_true (by simp only [Z.ofN, Z.len]; omega)) ?_
  by_cases h2 : i < 2000
  ·refine zQs (by simp [Z.zQx, Z.ilt]; omega) ?_
   refine zQa (ixND h) (zQc (zXe l h _) ?_)
   have e:=xJ0 l h
   have b:=wYj l i
   rw [min_i]
   refine zQc (y:=((sumS l (i+1) : Nat) : Int)) ((yJv (by simp only [Z.add]; omega)).trans (by simp only [Z.add]; omega)) ?_
   refine zQc (zWz (by omega)) ?_
   exact hk _ ⟨i+1,h,h2,rfl⟩ (by show 2000 - ((i+1 : Nat) : Int).toNat < 2000 - ((i : Int)).toNat; omega)
  ·refine zQp (by simp [Z.zQx, Z.ilt]; omega) ?_
   have : i=2000:=by omega
   subst this
   exact fin _ rfl
 ·refine zQp (decide_eq_false (by simp only [Z.ofN, Z.len]; omega)) ?_
  refine fin _ ?_
  unfold sumS; rw [Qi (by omega),Qi (by omega)]
theorem segR {α : Type} (l : List α) : Z.app (Z.seg ([] : List α) 0 0) l=l:=rfl
theorem wQr (l : List SeeT) (hl : l.length≤2000000) (hb : ∀ x∈l,x.2.2.2.1.length≤2000000) : zKh l=some l:=by
 unfold zKh
 refine zQa rfl ?_
 refine zQu (fun (s : List SeeT×Int)=>∃ i : Nat,i≤l.length∧s=(l.take i,(i : Int))) (fun s=>l.length - s.2.toNat) ?_ ⟨0,Q9 _,rfl⟩ (zZn _ _ (by omega))
 rintro s k ⟨i,hi,rfl⟩ hk
 dsimp only
 by_cases h : i < l.length
 ·refine zQs (decide_eq_true (by simp only [Z.ofN, Z.len]; omega)) ?_
  refine zQa (ixND h) (zQc (zXe l h _) ?_)
  have hx:=hb _ (Qt h)
  refine zQa (Qf _) ?_
  refine zZj (bigD (by show 0≤2000000; omega) (by simp only [Z.len]; omega) (by omega)) ?_
  refine zQc (y:=l[i].2.2.2.1) (segR _) ?_
  refine zQa (Qf _) ?_
  refine zZj (bigD (by simp only [Z.len,J5]; omega) (by show 1≤2000000; omega) (by omega)) ?_
  refine zQa rfl ?_
  refine zQc (y:=l.take (i+1)) (by rw [Q2 h]; rfl) ?_
  refine zQc (zWz (by omega)) ?_
  refine zQa rfl ?_
  exact hk _ ⟨i+1,h,rfl⟩ (by show l.length - ((i+1 : Nat) : Int).toNat < l.length - ((i : Int)).toNat; omega)
 ·refine zQp (decide_eq_false (by simp only [Z.ofN, Z.len]; omega)) ?_
  rw [Qi (by omega)]
theorem xZu (l : List SeeT) (hl : l.length≤1000000000) : zZe (l,l)=some true:=by
 unfold zZe
 refine zQp (by simp [Z.ine]) ?_
 refine zQu (fun (s : Int)=>∃ i : Nat,s=(i : Int)∧i≤l.length) (fun s=>l.length - s.toNat) ?_ ⟨0,rfl,Q9 _⟩ (zZn _ _ (by omega))
 rintro s k ⟨i,rfl,hi⟩ hk
 by_cases h : i < l.length
 ·have g := zXe l h (0, (0, (0, (([] : List (Int)), ()))))
  have x:=ixND h
  refine zQs (decide_eq_true (by simp only [Z.ofN,Z.len]; omega)) ?_
  refine zQa x (zQc g (zQa x (zQc g ?_)))
  refine zQp (by simp [Z.ine]) ?_
  refine zQa x (zQc g (zQa x (zQc g ?_)))
  refine zQp (by simp [Z.zQx,Z.ine]) ?_
  refine zQa x (zQc g (zQa x (zQc g ?_)))
  refine zQp (by simp [Z.zQx,Z.ine]) ?_
  refine zQa x (zQc g (zQa x (zQc g ?_)))
  refine zQ7 (yZe _ _) ?_
  rw [decide_eq_true rfl]
  refine zQp rfl ?_
  refine zQc (zWz (by omega)) ?_
  exact hk _ ⟨i+1,rfl,h⟩ (by show l.length - ((i+1 : Nat) : Int).toNat < l.length - ((i : Int)).toNat; omega)
 ·exact zQp (decide_eq_false (by simp only [Z.ofN,Z.len]; omega)) rfl
theorem wX1 (L : Lev) (hl : L.length≤1000000) (hf : L.flatten.length≤1000000) : zX6 L=some L:=by
 unfold zX6
 refine zQu (fun (s : MixE (List Int)×(List Lev×Int))=>∃ i : Nat,i≤L.length∧s=(.ref 0 0 i i,([L.take i],(i : Int)))) (fun s=>L.length - s.2.2.toNat) ?_ ⟨0,Q9 _,rfl⟩ (zZn _ _ (by omega))
 rintro s k ⟨i,hi,rfl⟩ hk
 dsimp only
 have tl : (L.take i).length=i:=by rw [J5]; omega
 by_cases h : i < L.length
 ·refine zQs (decide_eq_true (by simp only [Z.ofN, Z.len]; omega)) ?_
  refine zQa (ixND h) (zQc (zXe L h _) ?_)
  have hx:=zYc L h
  refine zQa (Qf _) ?_
  refine zZj (bigD (by show 0≤2000000; omega) (by simp only [Z.len]; omega) (by omega)) ?_
  refine zQc (y:=L[i]) (segR _) ?_
  refine zQa (Qf _) ?_
  refine zQa (by simp [Z.XGr,MixE.xgr,tl]) ?_
  refine iteN (by show ¬ (1 : Nat)=0; decide) ?_
  refine zZj (bigD (by show i≤2000000; omega) (by show 1≤2000000; omega) (by omega)) ?_
  refine zQc (y:=[L.take (i+1)]) ?_ ?_
  ·show [L.take i].set 0 ([L.take i].getD 0 [] ++ [L[i]]) = _
   rw [Q2 h]; rfl
  refine zQc (y:=MixE.ref 0 0 (i+1) (i+1)) rfl ?_
  refine zQc (zWz (by omega)) ?_
  exact hk _ ⟨i+1,h,rfl⟩ (by show L.length - ((i+1 : Nat) : Int).toNat < L.length - ((i : Int)).toNat; omega)
 ·refine zQp (decide_eq_false (by simp only [Z.ofN, Z.len]; omega)) ?_
  have hi2 : i=L.length:=by omega
  subst hi2
  rw [Jd]
  refine zQa (by simp [Z.XW,MixE.xw]) ?_
  refine zQc (y:=L) ?_ rfl
  show (L.drop 0).take L.length=L
  rw [Kh,Qi (Qf _)]
theorem twinG (d : List Lev) (hb : DevB d) : yWm (d,())=some (d,()):=by
 unfold yWm
 dsimp only
 have hn:=hb.many
 refine zQa rfl ?_
 refine zQu (fun (s : Int×List Lev)=>∃ i : Nat,i≤d.length∧s=((i : Int),d.take i)) (fun s=>d.length - s.1.toNat) ?_ ⟨0,Q9 _,rfl⟩ (zZn _ _ (by omega))
 rintro s k ⟨i,hi,rfl⟩ hk
 dsimp only
 by_cases h : i < d.length
 ·refine zQs (decide_eq_true (by simp only [Z.ofN, Z.len]; omega)) ?_
  refine zQa (ixND h) (zQc (zXe d h _) ?_)
  have hL:=hb.lev _ (Qt h)
  have hF:=hb.flat _ (Qt h)
  refine zQ7 (wX1 d[i] (by omega) hF) ?_
  refine zQa (Qf _) ?_
  refine zZj (bigD (by simp only [Z.len,J5]; omega) (by show 1≤2000000; omega) (by omega)) ?_
  refine zQa rfl ?_
  refine zQc (y:=d.take (i+1)) (by rw [Q2 h]; rfl) ?_
  refine zQc (zWz (by omega)) ?_
  refine zQa rfl ?_
  exact hk _ ⟨i+1,h,rfl⟩ (by show d.length - ((i+1 : Nat) : Int).toNat < d.length - ((i : Int)).toNat; omega)
 ·refine zQp (decide_eq_false (by simp only [Z.ofN, Z.len]; omega)) ?_
  rw [Qi (by omega)]
def yQg (d : List Lev) (n : Nat) : List (MixE Byt):=(List.range n).map fun j=>Z.xrow j (d.getD j [])
theorem wKr (d : List Lev) {i : Nat} (h : i < d.length) : yQg d (i+1)=yQg d i++[Z.xrow i d[i]]:=by
 unfold yQg; rw [List.range_succ,Qy]; simp [List.getD,h]
theorem zJ5 (d : List Lev) (n : Nat) : (yQg d n).length=n:=by simp [yQg]
theorem twinR (d : List Lev) (hb : DevB d) : zJm (d,())=some ((d,[yQg d d.length]),(.ref 0 0 d.length d.length,())):=by
 unfold zJm
 dsimp only
 have hn:=hb.many
 refine zQu (fun (s : Int×(List (List (MixE Byt))×(List Lev×MixE (MixE Byt))))=>∃ i : Nat,i≤d.length∧s=((i : Int),([yQg d i],(d.take i, .ref 0 0 i i)))) (fun s=>d.length - s.1.toNat) ?_ ⟨0,Q9 _,rfl⟩ (zZn _ _ (by omega))
 rintro s k ⟨i,hi,rfl⟩ hk
 dsimp only
 have tl : (d.take i).length=i:=by rw [J5]; omega
 by_cases h : i < d.length
 ·refine zQs (decide_eq_true (by simp only [Z.ofN, Z.len]; omega)) ?_
  refine zQa (ixND h) (zQc (zXe d h _) ?_)
  have hL:=hb.lev _ (Qt h)
  have hF:=hb.flat _ (Qt h)
  refine zQ7 (wX1 d[i] (by omega) hF) ?_
  refine zQc (y:=d.take (i+1)) (Q2 h).symm ?_
  refine zQa (by simp [Z.XGr,MixE.xgr,zJ5]) ?_
  refine iteN (by show ¬ (1 : Nat)=0; decide) ?_
  refine zZj (bigD (by show i≤2000000; omega) (by show 1≤2000000; omega) (by omega)) ?_
  refine zQc (y:=[yQg d (i+1)]) ?_ ?_
  ·rw [wKr d h]
   show [yQg d i].set 0 ([yQg d i].getD 0 []++[Z.xrow (d.take i).length d[i]])=_
   rw [tl]; rfl
  refine zQc (y:=MixE.ref 0 0 (i+1) (i+1)) rfl ?_
  refine zQc (zWz (by omega)) ?_
  exact hk _ ⟨i+1,h,rfl⟩ (by show d.length - ((i+1 : Nat) : Int).toNat < d.length - ((i : Int)).toNat; omega)
 ·refine zQp (decide_eq_false (by simp only [Z.ofN, Z.len]; omega)) ?_
  have hi2 : i=d.length:=by omega
  subst hi2
  rw [Jd]
theorem yYw (d : List Lev) {l : List SeeT} {q : Nat} (h : q < l.length) : reps d (l.take (q+1))=if l[q].1=2 then wrB (reps d (l.take q)) l[q].2.1 l[q].2.2.1 l[q].2.2.2.1 else reps d (l.take q):=by
 unfold reps
 rw [Q2 h,List.foldl_append]
 rfl
theorem wY2 {d : List Lev} {x : SeeT} (hm : zKl d x) : ∃ (i : Nat) (hi : i < d.length) (k : Nat) (hk : k < d[i].length),x.2.1=(i : Int)∧x.2.2.1=((k+1 : Nat) : Int)∧x.2.2.2.1.length=d[i][k].length:=by
 obtain ⟨i,hi,hie,hat⟩:=xZ0 hm.2.1
 obtain ⟨k,hk,hxe⟩:=hat 0 (by simp)
 replace hxe : x.2.2.1=((k+1 : Nat) : Int):=hxe
 have hlq:=hm.2.2
 rw [hie,hxe,vXf hi hk] at hlq
 exact ⟨i,hi,k,hk,hie,hxe,hlq⟩
theorem yZa {d : List Lev} {l : List SeeT} (hall : ∀ x ∈ l, zKl d x) : ∀ q : Nat, q ≤ l.length → dims d = dims (reps d (l.take q))
 | 0,_=>rfl
 | q+1,hq=>by
  have ih:=yZa hall q (by omega)
  rw [yYw d (show q < l.length from hq)]
  split
  ·obtain ⟨i, hi, k, hk, e1, e2, e3⟩ := wY2 (hall _ (Qt (show q < l.length from hq)))
   rw [e1,e2]
   exact vX2 ih hi hk _ e3
  ·exact ih
theorem wJv {α : Type} {j : Nat} {L : List α} (h : L.length≠0) : Z.xrow j L=.ref j 0 L.length L.length:=if_neg h
theorem vXj {c : CfgT} {d : List Lev} {l : List SeeT} (hok : yW3 c d) (hall : ∀ x∈l,zKl d x) (hl : l.length≤2000000) : zJp ((d,()),l)=some (reps d l,()):=by
 unfold zJp
 dsimp only
 obtain ⟨b1,b2⟩:=yZ4 hok
 refine zQ7 (twinR d (vWp hok)) ?_
 refine zQu (fun (s : Int×List Lev)=>∃ q : Nat,q≤l.length∧s=((q : Int),reps d (l.take q))) (fun s=>l.length - s.1.toNat) ?_ ⟨0,Q9 _,rfl⟩ (zZn _ _ (by omega))
 rintro s k ⟨q,hq,rfl⟩ hk
 dsimp only
 have hd:=yZa hall q hq
 by_cases hlt : q < l.length
 ·have hs := yYw d hlt
  have dec : l.length - ((q+1 : Nat) : Int).toNat < l.length - ((q : Int)).toNat:=by omega
  have g:=zXe l hlt (0,(0,(0,(([] : List (Int)),()))))
  have ix:=ixND hlt
  refine zQs (decide_eq_true (by simp only [Z.ofN,Z.len]; omega)) ?_
  refine zQa ix (zQc g ?_)
  by_cases h2 : l[q].1=2
  ·refine zQs (by simp [Z.ieq, h2]) ?_
   refine zQa ix (zQc g ?_)
   obtain ⟨i,hi,x,hx,e1,e2,e3⟩:=wY2 (hall _ (Qt hlt))
   rw [if_pos h2,e1,e2] at hs
   have b3:=b2 _ (Qt hi)
   have hbl:=b3.2 _ (Qt hx)
   have hn:=zY0 hd
   generalize reps d (l.take q)=D at *
   have hi' : i < D.length:=by omega
   have hL:=zK0 hd hi hi'
   have hLl:=yXz hL
   have hgD : D.getD i []=D[i]:=by simp [List.getD,hi']
   rw [wXt hi'] at hs
   have er : Z.xrow i d[i]=.ref i 0 d[i].length d[i].length:=wJv (by omega)
   have hx' : x < D[i].length:=by omega
   rw [e1]
   refine zQa ⟨by omega,by show (i : Int).toNat < d.length; omega⟩ ?_
   have p2 : Z.XPt [yQg d d.length] (.ref 0 0 d.length d.length : MixE (MixE Byt)) (Z.toN (i : Int)):=by simp [Z.XPt,MixE.xpt,zJ5,Z.toN,hi]
   refine zQa p2 (zQa p2 ?_)
   refine zQc (y:=MixE.ref i 0 d[i].length d[i].length) ?_ ?_
   ·show (yQg d d.length).getD (0 + i) _ = _
    rw [Jw,← er]
    simp [yQg,List.getD,hi]
   refine zQa ix (zQc g ?_)
   rw [e2]
   refine zQc (sub1 (by omega)) ?_
   refine zQa ix (zQc g ?_)
   refine zQa (Qf _) ?_
   refine zZj (bigD (by show 0≤2000000; omega) (by simp only [Z.len]; omega) (by omega)) ?_
   refine zQc (y:=l[q].2.2.2.1) (segR _) ?_
   refine zQa ⟨by omega,by show (x : Int).toNat < d[i].length; omega⟩ ?_
   have q2 : Z.XPt D (.ref i 0 d[i].length d[i].length : MixE Byt) (Z.toN (x : Int)):=by
    simp only [Z.XPt,MixE.xpt,hgD,decide_eq_true hi']
    simp [Z.toN,hLl,hx']
   refine zQa q2 (zQa q2 ?_)
   refine zQc (y:=D.set i (D[i].set x l[q].2.2.2.1)) ?_ ?_
   ·show D.set i ((D.getD i []).set (0 + x) _) = _
    rw [hgD,Jw]
   refine zQc (zWz (by omega)) ?_
   exact hk _ ⟨q+1,hlt,by rw [hs]⟩ dec
  ·refine zQp (by simp [Z.ieq, h2]) ?_
   rw [if_neg h2] at hs
   refine zQc (zWz (by omega)) ?_
   exact hk _ ⟨q+1,hlt,by rw [hs]⟩ dec
 ·refine zQp (decide_eq_false (by simp only [Z.ofN, Z.len]; omega)) ?_
  rw [Qi (by omega)] at hd ⊢
  clear hk
  generalize reps d l=D at *
  have hn:=zY0 hd
  refine zQa (by simp [Z.XOk,MixE.xok,zJ5]) ?_
  have hx : Z.xget [yQg d d.length] (.ref 0 0 d.length d.length : MixE (MixE Byt))=yQg d d.length:=by
   show ((yQg d d.length).drop 0).take d.length=_
   rw [Kh,Qi (by rw [zJ5]; omega)]
  rw [hx]
  refine zQ7 (yZr (r:=D) (by rw [zJ5]; omega) fun i h h'=>?_) rfl
  have hi : i < d.length:=by rw [zJ5] at h; exact h
  have hL:=zK0 hd hi h'
  have hLl:=yXz hL
  have b3:=b2 _ (Qt hi)
  have e : (yQg d d.length)[i]=.ref i 0 d[i].length d[i].length:=by
   rw [← wJv (by omega)]
   simp [yQg,List.getD,hi]
  rw [e]
  have hgD : D.getD i []=D[i]:=by simp [List.getD,h']
  refine zQa (by simp only [Z.XOk,MixE.xok,hgD,decide_eq_true h']; simp [hLl]) ?_
  refine zQc (y:=D[i]) ?_ rfl
  show ((D.getD i []).drop 0).take d[i].length=D[i]
  rw [hgD,Kh,Qi (by omega)]
theorem vKw (d : List Lev) (level : Int) (at_ : List Int) (hl : d.length≤1000000000) (ha : at_.length≤1000000000) : zZ9 ((d,()),(level,at_))=some (plB d level at_):=by
 unfold zZ9
 dsimp only
 by_cases h0 : level < 0
 ·refine zQs (decide_eq_true h0) ?_
  rw [xYa fun h=>by have:=h.1.1; omega]
 refine zQp (decide_eq_false h0) ?_
 by_cases h1 : (d.length : Int)≤level
 ·refine zQs (by simp only [Z.zQx, Z.ige, Z.ofN, Z.len]; simpa using h1) ?_
  rw [xYa fun h=>by have:=h.1.2; omega]
 refine zQp (by simp only [Z.zQx,Z.ige,Z.ofN,Z.len]; simpa using h1) ?_
 obtain ⟨i,rfl⟩ : ∃ i : Nat,level=(i : Int):=⟨level.toNat,by omega⟩
 have hi : i < d.length:=by omega
 have hget : d.getD (i : Int).toNat []=d[i]:=by simp [List.getD,hi]
 refine zQu (fun (s : Int)=>∃ q : Nat,s=(q : Int)∧q≤at_.length∧∀ (j : Nat) (h : j < at_.length),j < q→1≤at_[j]∧at_[j]≤d[i].length) (fun s=>at_.length - s.toNat) ?_ ⟨0,rfl,Q9 _,fun _ _ h=>absurd h (Nat.not_lt_zero _)⟩ (zZn _ _ (by omega))
 rintro s k2 ⟨q,rfl,hq,hqq⟩ hk2
 by_cases hlt : q < at_.length
 ·refine zQs (decide_eq_true (by simp only [Z.ofN, Z.len]; omega)) ?_
  refine zQa (ixND hlt) (zQc (zXe at_ hlt _) ?_)
  have no : ¬ (1≤at_[q]∧at_[q]≤d[i].length)→plB d (i : Int) at_=false:=fun hn=>xYa fun h=>hn (by have:=h.2 _ (Qt hlt); rw [hget] at this; exact this)
  by_cases hge : 1≤at_[q]
  ·refine zQp (decide_eq_false (by omega)) ?_
   refine zQa (ixND hlt) (zQc (zXe at_ hlt _) ?_)
   refine zQa (ixND hi) (zQc (zXe d hi _) ?_)
   by_cases hle : at_[q]≤d[i].length
   ·refine zQp (by simp only [Z.zQx, Z.igt, Z.ofN, Z.len]; simpa using hle) ?_
    refine zQc (zWz (by omega)) ?_
    refine hk2 _ ⟨q+1,rfl,hlt,fun j hj hji=>?_⟩ (by show at_.length - ((q+1 : Nat) : Int).toNat < at_.length - ((q : Int)).toNat; omega)
    by_cases e : j=q
    ·subst e; exact ⟨hge,hle⟩
    ·exact hqq j hj (by omega)
   ·refine zQs (by simp only [Z.zQx, Z.igt, Z.ofN, Z.len]; simpa using hle) ?_
    rw [no fun h=>hle h.2]
  ·refine zQs (decide_eq_true (by omega)) ?_
   rw [no fun h=>hge h.1]
 ·refine zQp (decide_eq_false (by simp only [Z.ofN, Z.len]; omega)) ?_
  rw [vZk ⟨⟨by omega,by omega⟩,fun x hx=>by
   rw [hget]
   obtain ⟨j,hj,rfl⟩:=List.getElem_of_mem hx
   exact hqq j hj (by omega)⟩]
theorem vQn {c : CfgT} {d : List Lev} (hok : yW3 c d) (x : SeeT) : zJo ((d,()),x)=some (yQy d x):=by
  obtain ⟨b1,b2⟩:=yZ4 hok
  unfold zJo
  dsimp only
  have rest : (x.1=1∨x.1=2)→(if (Z.Le (Z.addN 0 1) (Z.len (x.2.2.1::([] : List (Int))))) then Z.bind (zZ9 ((d,()),(x.2.1,(Z.seg (x.2.2.1::([] : List (Int))) 0 1)))) fun (x3 : Bool) =>
 (bif (Z.zQx true x3 false) then if (Z.Ix x.2.1 (Z.len d)) then Z.bnd (Z.get d (Z.toN x.2.1) ([] : List (List (Int)))) fun (x6 : List (List (Int))) =>
 if (Z.Ix 0 (Z.len x6)) then Z.bnd (Z.get x6 (Z.toN 0) ([] : List (Int))) fun (x9 : List (Int)) =>
 some (Z.zQx true (Z.ieq (Z.ofN (Z.len x.2.2.2.1)) (Z.ofN (Z.len x9))) false)
 else none
 else none
 else some false)
 else none)=some (yQy d x):=fun hk=>by
    refine zQa (Qf _) ?_
    refine zQ7 (vKw d x.2.1 [x.2.2.1] (by omega) (by simp)) ?_
    by_cases hp : plD d x.2.1 [x.2.2.1]
    · rw [vZk hp]
      refine zQs rfl ?_
      obtain ⟨i,hi,hie,hat⟩:=xZ0 hp
      obtain ⟨k,hk2,hke⟩:=hat 0 (by simp)
      replace hke : x.2.2.1=((k+1 : Nat) : Int):=hke
      have b3:=b2 _ (Qt hi)
      have h0 : 0 < d[i].length:=by omega
      have hi' : i < (shS c).length:=by have:=hok.2.1; omega
      have hsame : d[i][0].length=d[i][k].length:=by
        obtain ⟨_,hq⟩:=hok.2.2 i hi hi'
        have q1:=hq _ (Qt h0)
        have q2:=hq _ (Qt hk2)
        omega
      have hbk : bkt d x.2.1 x.2.2.1=d[i][k]:=by rw [hie,hke,vXf hi hk2]
      have hmay : zKl d x↔x.2.2.2.1.length=d[i][0].length:=⟨fun h=>by have:=h.2.2; rw [hbk] at this; omega,fun h=>⟨hk,hp,by rw [hbk]; omega⟩⟩
      rw [hie]
      refine zQa (ixND hi) (zQc (zXe d hi _) ?_)
      refine zQa (ixND (i:=0) h0) (zQc (zXe (i:=0) d[i] h0 _) ?_)
      by_cases he : x.2.2.2.1.length=d[i][0].length
      · rw [yJ9 (hmay.2 he)]
        simp [Z.zQx,Z.ieq,Z.ofN,Z.len,he]
      · rw [zJr fun h => he (hmay.1 h)]
        simp only [Z.zQx,Z.ieq,Z.ofN,Z.len]
        simp; omega
    · rw [xYa hp, zJr fun h => hp h.2.1]
      exact zQp rfl rfl
  by_cases h1 : x.1=1
  · refine zQs (by simp [Z.ieq, h1]) ?_
    exact rest (.inl h1)
  · refine zQp (by simp [Z.ieq, h1]) ?_
    by_cases h2 : x.1=2
    · refine zQs (by simp [Z.zQx, Z.ieq, h2]) ?_
      exact rest (.inr h2)
    · refine zQp (by simp [Z.zQx, Z.ieq, h2]) ?_
      rw [zJr fun h=>by rcases h.1 with h | h<;>contradiction]
theorem wY5 (c : CfgT) (d : List Lev) (l : List SeeT) (hl : d.length≤1000000000) (hL : ∀ L∈d,L.length≤1000000000) (ha : l.length≤2000000) : zJn (c,((d,()),l))=some (repD c d l):=by
 unfold zJn
 dsimp only
 refine zQ7 (xJ9 c d hl hL) ?_
 unfold repD
 rcases vW0 c d with ⟨h0,hok⟩ | ⟨h8,hno⟩
 ·rw [h0, if_pos hok]
  refine zQp rfl ?_
  refine zQu (fun (s : Int)=>∃ q : Nat,s=(q : Int)∧q≤l.length∧∀ (j : Nat) (h : j < l.length),j < q→zKl d l[j]) (fun s=>l.length - s.toNat) ?_ ⟨0,rfl,Q9 _,fun _ _ h=>absurd h (Nat.not_lt_zero _)⟩ (zZn _ _ (by omega))
  rintro s k ⟨q,rfl,hq,hqq⟩ hk
  by_cases hlt : q < l.length
  ·refine zQs (decide_eq_true (by simp only [Z.ofN, Z.len]; omega)) ?_
   refine zQa (ixND hlt) (zQc (zXe l hlt _) ?_)
   refine zQ7 (vQn hok l[q]) ?_
   by_cases hm : zKl d l[q]
   ·rw [yJ9 hm]
    refine zQp rfl (zQc (zWz (by omega)) ?_)
    refine hk _ ⟨q+1,rfl,hlt,fun j hj hji=>?_⟩ (by show l.length - ((q+1 : Nat) : Int).toNat < l.length - ((q : Int)).toNat; omega)
    by_cases e : j=q
    ·subst e; exact hm
    ·exact hqq j hj (by omega)
   ·rw [zJr hm, if_neg fun h => hm (h _ (Qt hlt))]
    exact zQs rfl rfl
  ·refine zQp (decide_eq_false (by simp only [Z.ofN, Z.len]; omega)) ?_
   have hall : ∀ x∈l,zKl d x:=fun x hx=>by
    obtain ⟨j,hj,rfl⟩:=List.getElem_of_mem hx
    exact hqq j hj (by omega)
   rw [if_pos hall]
   exact zQ7 (vXj hok hall ha) rfl
 ·rw [h8, if_neg hno]
  exact zQs rfl rfl
open Classical in
noncomputable def repR (c : CfgT) (d : List Lev) (l : List SeeT) : (List Byt×(List (List (MixE Int))×List (List (MixE (MixE Int)))))×((MixE (MixE (MixE Int))×Unit)×Int) :=
 if yW3 c d then (if ∀ x∈l,zKl d x then ((qD (reps d l),(p1D d d.length,[p2D d d.length])),((.ref 0 0 d.length d.length,()),0)) else (([],([],[])),((.nil,()),2))) else (([],([],[])),((.nil,()),8))
theorem uZq (c : CfgT) (d : List Lev) (l : List SeeT) (hl : d.length≤1000000000) (hL : ∀ L∈d,L.length≤100000000) (ha : l.length≤2000000) : zJv (c,((d,()),l))=some (repR c d l):=by
 unfold zJv
 dsimp only
 refine zQ7 (xW0 c d hl fun L h=>by have:=hL L h; omega) ?_
 unfold repR
 rcases vW0 c d with ⟨h0,hok⟩ | ⟨h8,hno⟩
 ·rw [h0, if_pos hok]
  refine zQp rfl ?_
  refine zQu (fun (s : Int)=>∃ q : Nat,s=(q : Int)∧q≤l.length∧∀ (j : Nat) (h : j < l.length),j < q→zKl d l[j]) (fun s=>l.length - s.toNat) ?_ ⟨0,rfl,Q9 _,fun _ _ h=>absurd h (Nat.not_lt_zero _)⟩ (zZn _ _ (by omega))
  rintro s k ⟨q,rfl,hq,hqq⟩ hk
  by_cases hlt : q < l.length
  ·refine zQs (decide_eq_true (by simp only [Z.ofN, Z.len]; omega)) ?_
   refine zQa (ixND hlt) (zQc (zXe l hlt _) ?_)
   refine zQ7 (xK9 d l[q] hl hL) ?_
   by_cases hm : zKl d l[q]
   ·rw [yJ9 hm]
    refine zQp rfl (zQc (zWz (by omega)) ?_)
    refine hk _ ⟨q+1,rfl,hlt,fun j hj hji=>?_⟩ (by show l.length - ((q+1 : Nat) : Int).toNat < l.length - ((q : Int)).toNat; omega)
    by_cases e : j=q
    ·subst e; exact hm
    ·exact hqq j hj (by omega)
   ·rw [zJr hm, if_neg fun h => hm (h _ (Qt hlt))]
    exact zQs rfl rfl
  ·refine zQp (decide_eq_false (by simp only [Z.ofN, Z.len]; omega)) ?_
   have hall : ∀ x∈l,zKl d x:=fun x hx=>by
    obtain ⟨j,hj,rfl⟩:=List.getElem_of_mem hx
    exact hqq j hj (by omega)
   rw [if_pos hall]
   clear hk hqq
   obtain ⟨b1,b2⟩:=yZ4 hok
   refine zQ7 (xQ0 d (vWp hok)) ?_
   refine zQu (fun (s : Int×List Byt)=>∃ q : Nat,q≤l.length∧s=((q : Int),qD (reps d (l.take q)))) (fun s=>l.length - s.1.toNat) ?_ ⟨0,Q9 _,rfl⟩ (zZn _ _ (by omega))
   rintro s k ⟨q,hq,rfl⟩ hk
   dsimp only
   have hd:=yZa hall q hq
   by_cases hlt : q < l.length
   ·refine zQs (decide_eq_true (by simp only [Z.ofN, Z.len]; omega)) ?_
    refine zQa (ixND hlt) (zQc (zXe l hlt _) ?_)
    have hm:=hall _ (Qt hlt)
    have hs:=yYw d hlt
    have dec : l.length - ((q+1 : Nat) : Int).toNat < l.length - ((q : Int)).toNat:=by omega
    by_cases h2 : l[q].1=2
    ·refine zQs (by simp [Z.ieq, h2]) ?_
     obtain ⟨i,hi,x,hx,hie,hxe,hlq⟩:=wY2 hm
     have b3:=b2 _ (Qt hi)
     have hbl:=b3.2 _ (Qt hx)
     rw [if_pos h2,hie,hxe] at hs
     obtain ⟨p1,p2,p3⟩:=vJd hi
     rw [hie,hxe]
     refine zQa p1 (zQa p2 (zQa p2 (zQc p3 ?_)))
     refine zQc (sub1 (by omega)) ?_
     obtain ⟨q1,q2,q3⟩:=vXa hi hx
     refine zQa q1 (zQa q2 (zQa q2 (zQc q3 ?_)))
     obtain ⟨w1,w2,w3⟩:=vX1 hd hi hx l[q].2.2.2.1 (by omega) (by omega)
     refine zQa w1 (zQc w2 ?_)
     refine zQc (zWz (by omega)) ?_
     exact hk _ ⟨q+1,hlt,by rw [hs]⟩ dec
    ·refine zQp (by simp [Z.ieq, h2]) ?_
     rw [if_neg h2] at hs
     refine zQc (zWz (by omega)) ?_
     exact hk _ ⟨q+1,hlt,by rw [hs]⟩ dec
   ·refine zQp (decide_eq_false (by simp only [Z.ofN, Z.len]; omega)) ?_
    rw [Qi (by omega)]
 ·rw [h8, if_neg hno]
  exact zQs rfl rfl
end Go.Proofs.Ytnbmjkbbppcbcaa
