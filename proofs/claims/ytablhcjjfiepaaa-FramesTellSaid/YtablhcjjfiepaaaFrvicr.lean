/- Frames: Victim, the answer's rows in places. -/
import Derived.Test.YtablhcjjfiepaaaFrrep
import Derived.Test.YtablhcjjfiepaaaFrvic
namespace Go.Proofs.Ytablhcjjfiepaaa
open Go.Eng
set_option linter.unusedVariables false
set_option linter.unusedSimpArgs false
def ExP {β : Type} (Post : β→Prop) (x : Option β) : Prop:=∃ r,x=some r∧Post r
section
variable {β : Type} {Post : β→Prop}
theorem epS {r : β} (h : Post r) : ExP Post (some r):=⟨r,rfl,h⟩
theorem epI {c : Prop} [Decidable c] {A B : Option β} (hc : c) (h : ExP Post A) : ExP Post (if c then A else B):=by rw [if_pos hc]; exact h
theorem epN {c : Prop} [Decidable c] {A B : Option β} (hc : ¬ c) (h : ExP Post B) : ExP Post (if c then A else B):=by rw [if_neg hc]; exact h
theorem epT {c : Bool} {A B : Option β} (hc : c=true) (h : ExP Post A) : ExP Post (bif c then A else B):=by rw [hc]; exact h
theorem epF {c : Bool} {A B : Option β} (hc : c=false) (h : ExP Post B) : ExP Post (bif c then A else B):=by rw [hc]; exact h
theorem epB {α : Type} {x y : α} {k : α→Option β} (hx : x=y) (h : ExP Post (k y)) : ExP Post (Dat.bnd x k):=by rw [hx]; exact h
theorem epBi {α : Type} {x : Option α} {y : α} {k : α→Option β} (hx : x=some y) (h : ExP Post (k y)) : ExP Post (Dat.bind x k):=by rw [hx]; exact h
end
theorem vZy {σ β : Type} {f : σ → (σ → Option β) → Option β} {Post : β → Prop} (I : σ → Prop) (μ : σ → Nat)
  (step : ∀ d k,I d→(∀ d',I d'→μ d' < μ d→ExP Post (k d'))→ExP Post (f d k)) {d : σ} (h0 : I d) (hb : μ d < 18446744073709551616) :
  ExP Post (Dat.loop f d):=by
 rw [Dat.wW8]
 have key : ∀ (n : Nat) (d : σ),I d→μ d < n→ExP Post (xX2 f n d):=by
  intro n
  induction n with
  | zero=>intro d _ h; omega
  | succ n ih =>
   intro d hI hlt
   show ExP Post (f d (xX2 f n))
   exact step d _ hI fun d' hI' hlt'=>ih d' hI' (by omega)
 exact key bigN d h0 hb
theorem vJs {β : Type} {Post : β → Prop} (l : List FrT) (hs : zW0 l) {fin : TwS → Option β} (h : ExP Post (fin (mixF l.length l, l.map (fun x => x.2.2.1), l.map (fun x => x.2.2.2.1), (l.length : Int)))) :
  ExP Post (Dat.loop (twB (Dat.len l) fin) (mixF 0 l,(([] : List (List Int)),(([] : List (List Int)),0)))):=by
 obtain ⟨r,h1,h2⟩:=h
 exact ⟨r,xYr l hs r fin h1,h2⟩
abbrev AnsV:=((List (List Int))×((List (List Int))×(List (List MFr))))×(((MixE MFr)×(Int×Unit))×(Int×Int))
def badV (e : Int) : AnsV:=(([],([],[])),((.nil,(0,())),(0,e)))
def VicP (l : List FrT) (A : (List FrT×(Int×Unit))×(Int×Int)) (X : AnsV) : Prop :=
 (∃ e,X=badV e∧A=(([],0,()),0,e))∨(∃ R k,X=((dF l,(pF l,R)),((Dat.xnew k l.length,(A.1.2.1,())),A.2))∧R[k]?=some (mixF l.length A.1.1)∧A.1.1.length=l.length∧dF A.1.1=dF l∧pF A.1.1=pF l)
theorem wWf {R : List (List MFr)} {k n i : Nat} {M : List MFr} (h : R[k]?=some M) (hn : M.length=n) (hi : i < n) : Dat.XPt R (Dat.xnew k n) i:=by
 have hk:=(List.getElem?_eq_some_iff.1 h).1
 have hg : R.getD k []=M:=by simp [List.getD,h]
 simp only [Dat.XPt,Dat.xnew,MixE.xpt,Bool.and_eq_true,decide_eq_true_eq,beq_iff_eq]
 refine ⟨hk, ?_, ?_⟩<;>first | (rw [hg]; done) | (rw [hg]; omega) | omega
theorem wJ6 {R : List (List MFr)} {k n : Nat} {M : List MFr} (h : R[k]?=some M) (hn : M.length=n) : Dat.XOk R (Dat.xnew k n)∧Dat.xget R (Dat.xnew k n)=M:=by
 have hk:=(List.getElem?_eq_some_iff.1 h).1
 have hg : R.getD k []=M:=by simp [List.getD,h]
 refine ⟨?_, ?_⟩
 ·simp only [Dat.XOk, Dat.xnew, MixE.xok, Bool.and_eq_true, decide_eq_true_eq, beq_iff_eq]
  refine ⟨hk, ?_, ?_⟩<;>first | (rw [hg]; done) | (rw [hg]; omega) | omega
 ·simp only [Dat.xnew,Dat.xget,hg,List.drop_zero,← hn,List.take_length]
theorem wJ7 {R : List (List MFr)} {k n i : Nat} {M : List MFr} (h : R[k]?=some M) (hi : i < M.length) (z : MFr) : Dat.xat R (Dat.xnew k n) (Dat.toN (i : Int)) z=M[i]:=by
 have hg : R.getD k []=M:=by simp [List.getD,h]
 show (R.getD k []).getD (0+(i : Int).toNat) z=M[i]
 rw [hg]
 simp [List.getD,hi]
theorem dF_set {L : List FrT} {p : Nat} (h : p < L.length) : dF (L.set p (clr L[p]))=dF L:=by
 simp only [dF,List.map_set]
 apply List.ext_getElem?
 intro j
 rw [List.getElem?_set]
 split
 ·rename_i e; subst e; simp [clr,h]
 ·rfl
theorem pF_set {L : List FrT} {p : Nat} (h : p < L.length) : pF (L.set p (clr L[p]))=pF L:=by
 simp only [pF,List.map_set]
 apply List.ext_getElem?
 intro j
 rw [List.getElem?_set]
 split
 ·rename_i e; subst e; simp [clr,h]
 ·rfl
theorem vZv {L : List FrT} {n p : Nat} (hn : L.length=n) (h : p < L.length) : (mixF n L).set p (wJl p (clr L[p]))=mixF n (L.set p (clr L[p])):=by
 refine List.ext_getElem (by simp [zW2]) fun j h1 h2=>?_
 have hj : j < L.length:=by simpa [zW2] using h1
 rw [List.getElem_set,zJj n (L.set p (clr L[p])) j h2,if_pos (show j < n by omega)]
 by_cases e : p=j
 ·subst e; rw [if_pos rfl]; simp
 ·rw [if_neg e, zJj, if_pos (show j < n by omega)]
  simp [List.getElem_set_ne e]
theorem zK7 (c : CfgT) (l : List FrT) (h : Int) (hs : zW0 l) : ∃ X,zKc (c,l,h,())=some X∧VicP l (if chkF c l h=0 then vicS l h else (([],0,()),0,chkF c l h)) X:=by
 show ExP _ _
 have hl20:=hs.1
 have hck : zXi (c,l,h,())=some (chkF c l h):=zYx c l h (by omega) (fun x hx=>by have:=hs.2 x hx; omega)
 unfold zKc
 dsimp only
 refine epBi hck ?_
 by_cases hc : chkF c l h=0
 ·rw [if_pos hc]
  obtain ⟨hm,hn,⟨hh0,hh1⟩,hall,hnd⟩:=vXa hc
  have hl0 : 0 < l.length:=by omega
  refine epF (by simp [Dat.ine,hc]) ?_
  refine epN (show ¬ l.length=0 by omega) ?_
  refine epI (Nat.le_refl _) ?_
  refine epN (show ¬ l.length=0 by omega) ?_
  refine epN (clone0 hs) ?_
  refine epB (y:=l) rfl ?_
  refine epBi (wQh l (fun x=>rfl)) ?_
  refine vJs l hs ?_
  dsimp only
  refine epB (y:=2 * (l.length : Int)) (zZh (x:=Dat.mul 2 (Dat.ofN (Dat.len l))) (by simp only [Dat.mul,Dat.ofN,Dat.len]; omega)) ?_
  refine epI (by simp only [Dat.Le,Dat.len,zW2,Dat.addN]; omega) ?_
  have hseg : Dat.seg (mixF l.length l) 0 (Dat.len l)=mixF l.length l:=by
   simp only [Dat.seg,Dat.len,List.drop_zero]
   rw [List.take_of_length_le (by simp [zW2])]
  rw [hseg]
  obtain ⟨hN,hNe⟩ : ∃ n : Nat,h=n:=⟨h.toNat,by omega⟩
  subst hNe
  have hhn : ((hN : Int)).toNat=hN:=by simp
  refine vZy (fun (s : Int × (List (List MFr) × (MixE MFr × Int))) => ∃ (i m k : Nat) (L : List FrT), s.1 = i ∧ i + m = 2 * l.length ∧ s.2.2.2 = hN ∧ s.2.2.1 = Dat.xnew k l.length ∧ s.2.1[k]? = some (mixF l.length L) ∧ L.length = l.length ∧ dF L = dF l ∧ pF L = pF l ∧ zW0 L ∧ clk l.length hN m i L = clk l.length hN (2 * l.length) 0 l)
   (fun s=>2 * l.length - s.1.toNat) ?_ ⟨0,2 * l.length,0,l,rfl,by omega,rfl,rfl,rfl,rfl,rfl,rfl,hs,rfl⟩ (by simp only []; omega)
  rintro ⟨s1,R,sm,s3⟩ kk ⟨i,m,k,L,rfl,him,rfl,rfl,hR,hL,hd,hp2,hsm,hcl⟩ hk
  dsimp only at hR hk ⊢
  by_cases hi : i < 2 * l.length
  ·obtain ⟨m, rfl⟩ : ∃ q, m = q + 1 := ⟨m - 1, by omega⟩
   have hp : (hN+i) % l.length < L.length:=by rw [hL]; exact Nat.mod_lt _ hl0
   rw [clk,yY6 L hp] at hcl
   refine epT (decide_eq_true (by omega)) ?_
   refine epB (y:=((hN+i : Nat) : Int)) ((zZh (x:=Dat.add (hN : Int) (i : Int)) (by simp only [Dat.add]; omega)).trans (by simp [Dat.add])) ?_
   refine epN (show ¬ ((l.length : Int)=0) by omega) ?_
   refine epB (y:=(((hN+i) % l.length : Nat) : Int)) (by simp only [Dat.tmod,Dat.ofN,Dat.len]; exact (Int.ofNat_tmod _ _).symm) ?_
   generalize (hN+i) % l.length=p at hp hcl
   have hml : (mixF l.length L).length=l.length:=by rw [zW2,hL]
   have hpm : p < (mixF l.length L).length:=by omega
   have hpt : Dat.XPt R (Dat.xnew k l.length) (Dat.toN (p : Int)):=wWf hR hml (by simp only [Dat.toN]; omega)
   refine epI (show Dat.Ix (p : Int) (Dat.xlen (Dat.xnew (α:=MFr) k l.length)) from ⟨by omega,by simp only [Dat.xlen,Dat.xnew]; omega⟩) (epI hpt (epI hpt ?_))
   have hmp : (mixF l.length L)[p]=wJl p L[p]:=by rw [zJj,if_pos (by omega)]
   refine epB ((wJ7 hR hpm _).trans hmp) ?_
   have hi1 : Dat.wrap .i64 (Dat.add (i : Int) 1)=((i+1 : Nat) : Int):=(zZh (x:=Dat.add (i : Int) 1) (by simp only [Dat.add]; omega)).trans (by simp [Dat.add])
   have hsp:=hsm.2 _ (List.getElem_mem hp)
   have q1 : (l.map (fun x=>x.2.2.1))[p]?=some L[p].2.2.1:=by
    have : (dF L)[p]?=some L[p].2.2.1:=wKr L hp
    rw [hd] at this; exact this
   have q2 : (l.map (fun x=>x.2.2.2.1))[p]?=some L[p].2.2.2.1:=by
    have : (pF L)[p]?=some L[p].2.2.2.1:=wZu L hp
    rw [hp2] at this; exact this
   obtain ⟨a1,a2,_⟩:=wX9 q1
   obtain ⟨b1,b2,_⟩:=wX9 q2
   by_cases k1 : L[p].1=1
   ·refine epT (decide_eq_true k1) ?_
    refine epB hi1 ?_
    rw [if_pos (by simp [yZn,k1])] at hcl
    exact hk _ ⟨i+1,m,k,L,rfl,by omega,rfl,rfl,hR,hL,hd,hp2,hsm,hcl⟩ (by simp only []; omega)
   ·refine epF (decide_eq_false k1) ?_
    refine epI a1 (epB a2 (epI b1 (epB b2 ?_)))
    refine epBi (zK6 L[p] (by omega)) ?_
    cases hpin : pinB L[p].2.2.2.1 with
    | true =>
     refine epT rfl ?_
     refine epB hi1 ?_
     rw [if_pos (by simp [yZn,hpin])] at hcl
     exact hk _ ⟨i+1,m,k,L,rfl,by omega,rfl,rfl,hR,hL,hd,hp2,hsm,hcl⟩ (by simp only []; omega)
    | false =>
     refine epF rfl ?_
     rw [if_neg (by simp [yZn,hpin,k1])] at hcl
     cases href : L[p].2.2.2.2.1 with
     | true =>
      rw [href,if_pos rfl] at hcl
      refine epT href ?_
      obtain ⟨c1,c2⟩:=wJ6 hR hml
      refine epI (wWf hR hml hl0) (epI c1 (epB c2 (epI (Nat.le_refl _) ?_)))
      refine epN (show ¬ (mixF l.length L).length=0 by omega) ?_
      refine epN (yJt (by simp [Dat.len]) (by simp only [Dat.len,zW2]; omega) (by omega)) ?_
      refine epB (y:=mixF l.length L) rfl ?_
      have hin : Dat.In (p : Int) (Dat.len (mixF l.length L)):=⟨by omega,by simp only [Dat.len]; omega⟩
      have hlt2 : Dat.Lt (Dat.addN 0 (Dat.toN (p : Int))) (Dat.len (mixF l.length L)):=by simp only [Dat.Lt,Dat.len,Dat.addN,Dat.toN]; omega
      refine epI hin (epI hlt2 ?_)
      refine epB ((uQv _ hpm _).trans hmp) ?_
      refine epI hin (epI hlt2 ?_)
      refine epB (y:=mixF l.length (L.set p (clr L[p]))) ?_ ?_
      ·rw [← vZv hL hp]
       simp only [Dat.set,Dat.toN,Dat.addN,Nat.zero_add,Int.toNat_natCast]
       rfl
      refine epI rfl (epI (by simp [Dat.EqN,Dat.len,zW2]) ?_)
      refine epB (y:=R++[mixF l.length (L.set p (clr L[p]))]) rfl ?_
      refine epB hi1 ?_
      have hlen : Dat.len (mixF l.length L)=l.length:=hml
      rw [hlen]
      refine hk _ ⟨i+1,m,R.length,L.set p (clr L[p]),rfl,by omega,rfl,rfl,by simp,by simpa using hL,(dF_set hp).trans hd,(pF_set hp).trans hp2,⟨by simpa using hsm.1,fun x hx=>?_⟩,hcl⟩ (by simp only []; omega)
      rcases List.mem_or_eq_of_mem_set hx with hx | rfl
      ·exact hsm.2 x hx
      ·exact hsp
     | false =>
      rw [href,if_neg (by simp)] at hcl
      refine epF href ?_
      refine epB (y:=((p+1 : Nat) : Int)) ((zZh (x:=Dat.add (p : Int) 1) (by simp only [Dat.add]; omega)).trans (by simp [Dat.add])) ?_
      refine epN (show ¬ ((l.length : Int)=0) by omega) ?_
      refine epB (y:=(((p+1) % l.length : Nat) : Int)) (by simp only [Dat.tmod,Dat.ofN,Dat.xlen,Dat.xnew]; exact (Int.ofNat_tmod _ _).symm) ?_
      refine epS (.inr ⟨R,k, ?_⟩)
      have hv : vicS l hN=((L,(((p+1) % l.length : Nat) : Int),()),(p : Int),0):=by
       unfold vicS
       rw [hhn,← hcl]
      rw [hv]
      exact ⟨rfl,hR,hL,hd,hp2⟩
  ·have hm0 : m = 0 := by omega
   subst hm0
   refine epF (decide_eq_false (by omega)) ?_
   have hv : vicS l hN=(([],0,()),0,250):=by
    unfold vicS
    rw [hhn,← hcl]
    rfl
   rw [hv]
   exact epS (.inl ⟨250,rfl,rfl⟩)
 ·rw [if_neg hc]
  refine epT (by simp [Dat.ine,hc]) ?_
  exact epS (.inl ⟨_,rfl,rfl⟩)
end Go.Proofs.Ytablhcjjfiepaaa
