/- Devices: what was written is read. -/
import Derived.Test.YtnbmjkbbppcbcaaDevD
namespace Go.Proofs.Ytnbmjkbbppcbcaa
open Go.Eng
set_option linter.unusedVariables false
set_option linter.unusedSimpArgs false
theorem vWz {d d' : List Lev} (hd : dims d=dims d') {i k : Nat} (hi : i < d.length) (hk : k < d[i].length) (b : Byt) (hb : b.length=d[i][k].length) : dims d=dims (wrB d' (i : Int) ((k+1 : Nat) : Int) b):=by
 have hn:=yZq hd
 have hi' : i < d'.length:=by omega
 have hL:=zYy hd hi hi'
 have hk' : k < d'[i].length:=by have:=xQk hL; omega
 have he:=yJ4 hL hk hk'
 rw [wK1 hi']
 exact wX4 hd hi' hk' b (by omega)
theorem wYf {c : CfgT} {d d' : List Lev} (hd : dims d=dims d') (h : zYz c d) : zYz c d':=by
 obtain ⟨h1,h2,h3⟩:=h
 have hn:=yZq hd
 refine ⟨h1,by omega,fun i hi' hs=>?_⟩
 have hi : i < d.length:=by omega
 have hL:=zYy hd hi hi'
 have hl:=xQk hL
 obtain ⟨a1,a2⟩:=h3 i hi hs
 refine ⟨by omega,fun b hb=>?_⟩
 obtain ⟨k,hk',rfl⟩:=List.getElem_of_mem hb
 have hk : k < d[i].length:=by omega
 have:=yJ4 hL hk hk'
 have:=a2 _ (Q6 hk)
 omega
theorem bk_set (d : List Lev) (i k j q : Nat) (hi : i < d.length) (hk : k < (d.getD i []).length) (b : Byt) : ((d.set i ((d.getD i []).set k b)).getD j []).getD q []=if j=i∧q=k then b else (d.getD j []).getD q []:=by
 by_cases hj : j=i
 ·subst hj
  have e : (d.set j ((d.getD j []).set k b)).getD j []=(d.getD j []).set k b:=by
   simp [List.getD,hi]
  rw [e]
  by_cases hq : q=k
  ·subst hq
   rw [if_pos ⟨rfl,rfl⟩]
   simp only [List.getD_eq_getElem?_getD]
   rw [Qh (by simpa using hk)]; rfl
  ·rw [if_neg fun h => hq h.2]
   simp only [List.getD_eq_getElem?_getD]
   rw [Qe (Ne.symm hq)]
 ·rw [if_neg fun h => hj h.1]
  simp only [List.getD_eq_getElem?_getD]
  rw [Qe (Ne.symm hj)]
theorem uW5 {d : List Lev} {i k : Nat} (hi : i < d.length) (hk : k < d[i].length) (b : Byt) {m n : Int} (hm : 0≤m) (hn : 1≤n) : bkt (wrB d (i : Int) ((k+1 : Nat) : Int) b) m n=if m=(i : Int)∧n=((k+1 : Nat) : Int) then b else bkt d m n:=by
 unfold bkt wrB
 have e1 : (((k+1 : Nat) : Int) - 1).toNat=k:=by omega
 have e2 : (i : Int).toNat=i:=rfl
 have e3 : d.getD i []=d[i]:=by simp [List.getD,hi]
 rw [e1,e2,bk_set d i k m.toNat (n - 1).toNat hi (by rw [e3]; exact hk) b]
 by_cases h : m=(i : Int)∧n=((k+1 : Nat) : Int)
 ·rw [if_pos h,if_pos ⟨by omega,by omega⟩]
 ·rw [if_neg h,if_neg fun hh=>h ⟨by omega,by omega⟩]
theorem vWy {c : CfgT} {d : List Lev} {level : Int} {at_ : List Int} {all : List Byt} (hok : zYz c d) (hw : wrOk d level at_ all) : ∀ q : Nat, q ≤ at_.length → dims d = dims (wrs d level (at_.take q) (all.take q)) ∧
  ∀ (h : q < at_.length) (h' : q < all.length) (m n : Int),0≤m→1≤n→bkt (wrs d level (at_.take (q+1)) (all.take (q+1))) m n=if m=level∧n=at_[q] then all[q] else bkt (wrs d level (at_.take q) (all.take q)) m n:=by
 obtain ⟨hp,hlen,hlq⟩:=hw
 obtain ⟨i,hi,rfl,hat⟩:=yX0 hp
 have key : ∀ q : Nat,q≤at_.length→dims d=dims (wrs d (i : Int) (at_.take q) (all.take q)):=by
  intro q
  induction q with
  | zero=>intro _; rfl
  | succ q ih =>
   intro hq
   have h1 : q < at_.length:=hq
   have h2 : q < all.length:=by omega
   rw [xXz d (i : Int) h1 h2]
   obtain ⟨x,hx,hxe⟩:=hat q h1
   rw [hxe]
   have hl:=hlq q h1 h2
   rw [hxe,xXt hi hx] at hl
   exact vWz (ih (by omega)) hi hx _ hl
 intro q hq
 refine ⟨key q hq,fun h h' m n hm hn=>?_⟩
 have hd:=key q hq
 rw [xXz d (i : Int) h h']
 obtain ⟨x,hx,hxe⟩:=hat q h
 rw [hxe]
 have hn':=yZq hd
 have hi' : i < (wrs d (i : Int) (at_.take q) (all.take q)).length:=by omega
 have hL:=zYy hd hi hi'
 have hk' : x < (wrs d (i : Int) (at_.take q) (all.take q))[i].length:=by have:=xQk hL; omega
 exact uW5 hi' hk' _ hm hn
theorem wWm {c : CfgT} {d : List Lev} {level : Int} {at_ : List Int} {all : List Byt} (hok : zYz c d) (hw : wrOk d level at_ all) : dims d=dims (wrs d level at_ all):=by
 have h:=(vWy hok hw at_.length (Qf _)).1
 rw [Jc,← hw.2.1,Jc] at h
 exact h
theorem xJg (k level : Int) (at_ : List Int) (all : List Byt) (h : all.length=at_.length) : (zXw k level at_ all).length=at_.length:=by
 simp [zXw,h]
theorem uWh (l : List Byt) : ∃ g,zYr l=some g∧(g=false→l.length≤20):=by
 refine ⟨decide (∃ b∈l.take 20,1000 < b.length) || decide (20 < l.length), ?_,fun h=>by
  rw [Bool.or_eq_false_iff] at h
  have:=of_decide_eq_false h.2
  omega⟩
 unfold zYr
 have fin : (¬ ∃ b∈l.take 20,1000 < b.length)→some (Z.igt (Z.ofN (Z.len l)) 20)=some (decide (∃ b∈l.take 20,1000 < b.length) || decide (20 < l.length)):=fun h=>by
  rw [decide_eq_false h,Bool.false_or]
  congr 1
  simp only [Z.igt,Z.ofN,Z.len]
  exact decide_eq_decide.2 (by omega)
 refine zQ3 (fun (s : Int)=>∃ i : Nat,s=(i : Int)∧i≤l.length∧i≤20∧∀ (j : Nat) (h : j < l.length),j < i→l[j].length≤1000) (fun s=>20 - s.toNat) ?_ ⟨0,rfl,Jj _,by omega,fun _ _ h=>absurd h (Nat.not_lt_zero _)⟩ (zKh 20 _ (by omega))
 rintro s k ⟨i,rfl,hi,hi20,hq⟩ hk
 by_cases h : i < l.length
 ·refine zQs (decide_eq_true (by simp only [Z.ofN, Z.len]; omega)) ?_
  by_cases h20 : i < 20
  ·refine zQs (by simp [Z.zQz, Z.ilt]; omega) ?_
   refine zQa (ixND h) (zQd (zXl l h _) ?_)
   by_cases hb : 1000 < l[i].length
   ·refine zQs (by simp only [Z.igt, Z.ofN, Z.len]; exact decide_eq_true (by omega)) ?_
    rw [decide_eq_true ⟨l[i],List.mem_iff_getElem.2 ⟨i,by rw [Jy]; omega,by simp⟩,hb⟩]; rfl
   ·refine zQq (by simp only [Z.igt, Z.ofN, Z.len]; exact decide_eq_false (by omega)) ?_
    refine zQd (zXv (by omega)) ?_
    refine hk _ ⟨i+1,rfl,h,h20,fun j hj hji=>?_⟩ (by show 20 - ((i+1 : Nat) : Int).toNat < 20 - ((i : Int)).toNat; omega)
    by_cases e : j=i
    ·subst e; omega
    ·exact hq j hj (by omega)
  ·refine zQq (by simp [Z.zQz, Z.ilt]; omega) ?_
   refine fin fun ⟨b,hb,hbl⟩=>?_
   obtain ⟨j,hj,rfl⟩:=List.getElem_of_mem hb
   rw [Jy] at hj
   rw [List.getElem_take] at hbl
   have:=hq j (by omega) (by omega)
   omega
 ·refine zQq (decide_eq_false (by simp only [Z.ofN, Z.len]; omega)) ?_
  refine fin fun ⟨b,hb,hbl⟩=>?_
  obtain ⟨j,hj,rfl⟩:=List.getElem_of_mem hb
  rw [Jy] at hj
  rw [List.getElem_take] at hbl
  have:=hq j (by omega) (by omega)
  omega
theorem wJj (b : Int) : zK0 b=some (List.replicate 104 b):=by
 unfold zK0
 refine zQa (Z.zZ3.2 ⟨by omega,Int.le_refl _,by omega,by omega⟩) ?_
 refine zQ3 (fun (s : Int×List Int)=>∃ i : Nat,i≤104∧s=((i : Int),(List.replicate 104 b).take i++List.replicate ((List.replicate 104 b).length - i) 0)) (fun s=>104 - s.1.toNat) ?_ ⟨0,by omega,by rw [List.length_replicate]; rfl⟩ (zKh 104 _ (by omega))
 ·rintro s k ⟨i, hi, rfl⟩ hk
  dsimp only
  by_cases h : i < 104
  ·refine zQs (decide_eq_true (by simp only [Z.ofN, Z.toN]; omega)) ?_
   refine zQa ⟨by omega,by show (i : Int) < ((104 : Int).toNat : Int); omega⟩ ?_
   refine zQa (by show 0+i < _; simp; omega) ?_
   refine zQd (y:=(List.replicate 104 b).take (i+1)++List.replicate ((List.replicate 104 b).length - (i+1)) 0) ?_ ?_
   ·show List.set _ (0 + i) b = _
    rw [Jt]
    have e:=xZb (List.replicate 104 b) (i:=i) (by simpa using h) 0
    rw [List.getElem_replicate] at e
    exact e
   refine zQd (zXv (by omega)) ?_
   exact hk _ ⟨i+1,h,rfl⟩ (by show 104 - ((i+1 : Nat) : Int).toNat < 104 - ((i : Int)).toNat; omega)
  ·refine zQq (decide_eq_false (by simp only [Z.ofN, Z.toN]; omega)) ?_
   have hi2 : i=104:=by omega
   subst hi2
   rw [Qi (by simp),List.length_replicate,Nat.sub_self,List.replicate_zero,Je]
   refine zQa (by show 0+(104 : Int).toNat≤(List.replicate 104 b).length; simp) ?_
   rfl
end Go.Proofs.Ytnbmjkbbppcbcaa
