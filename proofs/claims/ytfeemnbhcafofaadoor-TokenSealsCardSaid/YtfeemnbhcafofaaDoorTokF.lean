/- Stores: how large they are, copies, and whether they are the same. -/
import Derived.Test.YtfeemnbhcafofaaDoorTokE
namespace Go.Proofs.YtfeemnbhcafofaaDoor
open Go.Eng
set_option linter.unusedVariables false
set_option linter.unusedSimpArgs false
def ExQ {β : Type} (Post : β→Prop) (x : Option β) : Prop:=∃ r,x=some r∧Post r
section
variable {β : Type} {Post : β→Prop}
theorem eqS {r : β} (h : Post r) : ExQ Post (some r):=⟨r,rfl,h⟩
theorem eqI {c : Prop} [Decidable c] {A B : Option β} (hc : c) (h : ExQ Post A) : ExQ Post (if c then A else B):=by rw [if_pos hc]; exact h
theorem eqT {c : Bool} {A B : Option β} (hc : c=true) (h : ExQ Post A) : ExQ Post (bif c then A else B):=by rw [hc]; exact h
theorem eqF {c : Bool} {A B : Option β} (hc : c=false) (h : ExQ Post B) : ExQ Post (bif c then A else B):=by rw [hc]; exact h
theorem eqB {α : Type} {x y : α} {k : α→Option β} (hx : x=y) (h : ExQ Post (k y)) : ExQ Post (Z.bnd x k):=by rw [hx]; exact h
theorem eqBi {α : Type} {x : Option α} {y : α} {k : α→Option β} (hx : x=some y) (h : ExQ Post (k y)) : ExQ Post (Z.bind x k):=by rw [hx]; exact h
end
theorem vQm {σ β : Type} {f : σ → (σ → Option β) → Option β} {Post : β → Prop} (I : σ → Prop) (μ : σ → Nat)
  (step : ∀ d k,I d→(∀ d',I d'→μ d' < μ d→ExQ Post (k d'))→ExQ Post (f d k)) {d : σ} (h0 : I d) (hb : μ d < 18446744073709551616) :
  ExQ Post (Z.loop f d):=by
 rw [Z.wJq]
 have key : ∀ (n : Nat) (d : σ),I d→μ d < n→ExQ Post (xJt f n d):=by
  intro n
  induction n with
  | zero=>intro d _ h; omega
  | succ n ih =>
   intro d hI hlt
   show ExQ Post (f d (xJt f n))
   exact step d _ hI fun d' hI' hlt'=>ih d' hI' (by omega)
 exact key bigN d h0 hb
def wX2 (L : List OrmT) (M : List Int) : Prop:=L.length≤6∧M.length≤100∧∀ o∈L,o.2.1.length≤60∧∀ x∈o.2.1,x.2.2.1.length≤100
theorem uZ5 : zKf (([] : List (List (List Int))),())=some false:=by
 unfold zKf
 refine zQn (fun (s : Int×Int)=>s=(0,0)) (fun _=>0) ?_ rfl (by decide)
 rintro s k rfl hk
 exact zQm rfl (zQm rfl rfl)
theorem uZ4 (L : List OrmT) (M : List Int) (nx tk : Int) (hs : StOk L M) : ExQ (fun b=>b=false→wX2 L M) (yQn ((L,(M,(nx,(tk,())))),(([] : List (List (List Int))),()))):=by
  unfold yQn
  dsimp only
  have hll:=hs.ll
  have hml:=hs.ml
  have fin : ∀ (n : Int) (i : Nat), i ≤ L.length → (i < L.length → 10 ≤ i) → (∀ j (h : j < i) (hj : j < L.length), (min L[j].2.1.length 1000 : Int) ≤ n ∧ ∀ q (hq : q < L[j].2.1.length), q < 200 → L[j].2.1[q].2.2.1.length ≤ 100) →
      ExQ (fun b => b = false → wX2 L M) (bif (Z.igt (Z.ofN (Z.len L)) 6) then some true
       else (bif (Z.zQr false true (Z.igt n 60)) then some true
       else (bif (Z.zQr false true (Z.igt (Z.ofN (Z.len M)) 100)) then some true
       else Z.bind (zKf (([] : List (List (List Int))),())) fun (x21 : Bool) =>
       some (Z.zQr false true x21)))):=by
    intro n i hi h10 hall
    by_cases h6 : 6 < L.length
    · exact eqT (decide_eq_true (by simp only [Z.ofN,Z.len]; omega)) (eqS (fun h=>by cases h))
    · refine eqF (decide_eq_false (by simp only [Z.ofN, Z.len]; omega)) ?_
      by_cases hn : 60 < n
      · exact eqT (by simp [Z.zQr,Z.igt,hn]) (eqS (fun h=>by cases h))
      · refine eqF (by simp [Z.zQr, Z.igt]; omega) ?_
        by_cases hM : 100 < M.length
        · exact eqT (by simp [Z.zQr,Z.igt,Z.ofN,Z.len]; omega) (eqS (fun h=>by cases h))
        · refine eqF (by simp [Z.zQr, Z.igt, Z.ofN, Z.len]; omega) ?_
          refine eqBi uZ5 (eqS fun _=>⟨by omega,by omega,fun o ho=>?_⟩)
          obtain ⟨j,hj,rfl⟩:=List.getElem_of_mem ho
          have hij : j < i:=by
            rcases Nat.lt_or_ge i L.length with h | h
            · have:=h10 h; omega
            · omega
          obtain ⟨a,b⟩:=hall j hij hj
          have hlen : L[j].2.1.length≤60:=by omega
          refine ⟨hlen,fun x hx=>?_⟩
          obtain ⟨q,hq,rfl⟩:=List.getElem_of_mem hx
          exact b q hq (by omega)
  refine vQm (fun (s : Int × Int) => ∃ i : Nat, s.2 = i ∧ i ≤ L.length ∧ i ≤ 10 ∧ 0 ≤ s.1 ∧ s.1 ≤ 1000 * i ∧ ∀ j (h : j < i) (hj : j < L.length), (min L[j].2.1.length 1000 : Int) ≤ s.1 ∧ ∀ q (hq : q < L[j].2.1.length), q < 200 → L[j].2.1[q].2.2.1.length ≤ 100)
    (fun s=>10 - s.2.toNat) ?_ ⟨0,rfl,Q5 _,Q5 _,Int.le_refl _,by simp,fun j h=>absurd h (Nat.not_lt_zero _)⟩ (zKi _ _ (by omega))
  rintro ⟨n,si⟩ k ⟨i,hsi,hi,h10,h0,hb,hall⟩ hk
  dsimp only at hsi h0 hb hall
  subst hsi
  dsimp only
  by_cases hlt : i < L.length
  · refine eqT (decide_eq_true (by simp only [Z.ofN, Z.len]; omega)) ?_
    by_cases hi10 : i < 10
    · refine eqT (by simp [Z.zQr, Z.ilt]; omega) ?_
      have hix:=ixN hlt (by omega)
      refine eqI hix (eqB (getN L hlt _) ?_)
      have hsl:=hs.st _ (Qv hlt)
      have emin : Z.imax false (Z.ofN (Z.len L[i].2.1)) 1000=(min L[i].2.1.length 1000 : Int):=by
        simp only [Z.imax,Z.ofN,Z.len,Je,if_false]
        split<;>omega
      refine eqB (y:=n+(min L[i].2.1.length 1000 : Int)) (by rw [emin]; exact zW9 (by simp only [Z.add]; omega)) ?_
      have next : (∀ q (hq : q < L[i].2.1.length),q < 200→L[i].2.1[q].2.2.1.length≤100)→ExQ (fun b=>b=false→wX2 L M) (k (n+(min L[i].2.1.length 1000 : Int),((i+1 : Nat) : Int))):=by
        intro hq
        refine hk _ ⟨i+1,rfl,hlt,by omega,by show 0≤n+_; omega,by show n+_≤_; omega,fun j h hj=>?_⟩ (by show 10 - (((i+1 : Nat) : Int)).toNat < 10 - ((i : Int)).toNat; omega)
        by_cases e : j=i
        · subst e; exact ⟨by show _≤n+_; omega,hq⟩
        · obtain ⟨a, b⟩ := hall j (by omega) hj
          exact ⟨by show _≤n+_; omega,b⟩
      refine vQm (fun (d : Int)=>∃ q : Nat,d=q∧q≤L[i].2.1.length∧q≤200∧∀ p (hp : p < L[i].2.1.length),p < q→L[i].2.1[p].2.2.1.length≤100) (fun d=>200 - d.toNat) ?_ ⟨0,rfl,Q5 _,Q5 _,fun p hp h=>absurd h (Nat.not_lt_zero _)⟩ (zKi _ _ (by omega))
      rintro d k2 ⟨q,rfl,hq,hq2,hp⟩ hk2
      refine eqI hix (eqB (getN L hlt _) ?_)
      by_cases hql : q < L[i].2.1.length
      · refine eqT (decide_eq_true (by simp only [Z.ofN, Z.len]; omega)) ?_
        by_cases hq200 : q < 200
        · refine eqT (by simp [Z.zQr, Z.ilt]; omega) ?_
          refine eqI hix (eqB (getN L hlt _) ?_)
          refine eqI (ixN hql (by omega)) (eqB (getN _ hql _) ?_)
          by_cases hd : 100 < L[i].2.1[q].2.2.1.length
          · exact eqT (decide_eq_true (by simp only [Z.ofN,Z.len]; omega)) (eqS (fun h=>by cases h))
          · refine eqF (decide_eq_false (by simp only [Z.ofN, Z.len]; omega)) ?_
            refine eqB (zJ6 (by omega)) ?_
            refine hk2 _ ⟨q+1,rfl,hql,hq200,fun p hp' h=>?_⟩ (by show 200 - (((q+1 : Nat) : Int)).toNat < 200 - ((q : Int)).toNat; omega)
            by_cases e : p=q
            · subst e; omega
            · exact hp p hp' (by omega)
        · refine eqF (by simp [Z.zQr, Z.ilt]; omega) ?_
          exact eqB (zJ6 (by omega)) (next fun p hp' h=>hp p hp' (by omega))
      · refine eqF (decide_eq_false (by simp only [Z.ofN, Z.len]; omega)) ?_
        exact eqB (zJ6 (by omega)) (next fun p hp' h=>hp p hp' (by omega))
    · refine eqF (by simp [Z.zQr, Z.ilt]; omega) ?_
      exact fin n i hi (fun _=>by omega) hall
  · refine eqF (decide_eq_false (by simp only [Z.ofN, Z.len]; omega)) ?_
    exact fin n i hi (fun h=>absurd h hlt) hall
theorem uWr (l : List Blk) (hl : l.length≤1000) (hd : ∀ x∈l,x.2.2.1.length≤2000000) : zJi l=some l:=by
 unfold zJi
 have h44 : (2 : Nat) ^ 44=17592186044416:=by decide
 refine zQa rfl ?_
 refine zQn (fun (s : List Blk×Int)=>∃ i : Nat,i≤l.length∧s=(l.take i,(i : Int))) (fun s=>l.length - s.2.toNat) ?_ ⟨0,Q5 _,rfl⟩ (zKi _ _ (by omega))
 rintro s k ⟨i,hi,rfl⟩ hk
 dsimp only
 by_cases hlt : i < l.length
 ·have hx := hd _ (Qv hlt)
  have hti : (l.take i).length=i:=by rw [Jy]; omega
  refine zQq (decide_eq_true (by simp only [Z.ofN,Z.len]; omega)) ?_
  refine zQa ⟨by omega,by simp only [Z.len]; omega⟩ ?_
  refine zQb (getN l hlt _) ?_
  refine zQe (xX3 l[i].1 l[i].2.1 l[i].2.2.1 hx) ?_
  refine zQa (by simp [Z.Le,Z.addN,Z.len]) ?_
  refine zQy (by simp only [Z.Big,Z.len,Z.seg,Jk,Jy,Jh,Jt]; omega) ?_
  refine zQa rfl ?_
  refine zQb (y:=l.take (i+1)) (by rw [Jj hlt]; rfl) ?_
  refine zQb (y:=((i+1 : Nat) : Int)) (Z.zXq (by omega)) ?_
  refine zQa rfl ?_
  exact hk _ ⟨i+1,hlt,rfl⟩ (by show l.length - (((i+1 : Nat) : Int)).toNat < l.length - ((i : Int)).toNat; omega)
 ·have hi' : i = l.length := by omega
  subst hi'
  refine zQm (decide_eq_false (by simp only [Z.ofN,Z.len]; omega)) ?_
  rw [Q8]
theorem yZs (L : List OrmT) (M : List Int) (nx tk : Int) (hs : StOk L M) (hsm : wX2 L M) : zZz (L,(M,(nx,(tk,()))))=some (L,(M,(nx,(tk,())))):=by
 obtain ⟨h6,hM,hst⟩:=hsm
 unfold zZz
 dsimp only
 have h44 : (2 : Nat) ^ 44=17592186044416:=by decide
 refine zQa (Qe _) (zQy (by simp only [Z.Big,Z.len,Z.seg,Jk,Ki,Jt]; omega) ?_)
 refine zQb (y:=M) rfl (zQa rfl (zQa rfl ?_))
 refine zQn (fun (s : Int×(List OrmT×(List Int×(Int×Int))))=>∃ i : Nat,s=((i : Int),(L.take i,(M,(nx,tk))))∧i≤L.length) (fun s=>L.length - s.1.toNat) ?_ ⟨0,rfl,Q5 _⟩ (zKi _ _ (by omega))
 rintro s k ⟨i,rfl,hi⟩ hk
 dsimp only at hk ⊢
 by_cases hlt : i < L.length
 ·have hti : (L.take i).length = i := by rw [Jy]; omega
  refine zQq (decide_eq_true (by simp only [Z.ofN,Z.len]; omega)) ?_
  refine zQa (ixN hlt (by omega)) (zQb (getN L hlt _) ?_)
  have hroot:=hs.root _ (Qv hlt)
  obtain ⟨s60,s100⟩:=hst _ (Qv hlt)
  have htw : zKp (L[i].1,(L[i].2.1,()))=some (L[i].1,(L[i].2.1,())):=by
   unfold zKp
   refine zQe (uWr L[i].2.1 (by omega) (fun x hx=>by have:=s100 x hx; omega)) ?_
   dsimp only
   rw [yZ3 hroot]
  rw [yZ3 hroot]
  refine zQe htw ?_
  dsimp only
  rw [yZ3 hroot]
  refine zQa (by simp [Z.Le,Z.addN,Z.len]) ?_
  refine zQy (by simp only [Z.Big,Z.len,Z.seg,Jk,Jy,Jh,Jt]; omega) ?_
  refine zQa rfl ?_
  refine zQb (y:=L.take (i+1)) (by rw [Jj hlt]; rfl) ?_
  refine zQb (zJ6 (by omega)) (zQa rfl (zQa rfl ?_))
  exact hk _ ⟨i+1,rfl,hlt⟩ (by show L.length - (((i+1 : Nat) : Int)).toNat < L.length - ((i : Int)).toNat; omega)
 ·have e : i = L.length := by omega
  subst e
  refine zQm (decide_eq_false (by simp only [Z.ofN,Z.len]; omega)) ?_
  rw [Q8]
theorem vYm (l : List Blk) (hl : l.length < 1000000) : zJj (l,l)=some true:=by
 unfold zJj
 dsimp only
 refine zQm (by simp [Z.ine]) ?_
 refine zQn (fun (s : Int)=>∃ i : Nat,s=i∧i≤l.length) (fun s=>l.length - s.toNat) ?_ ⟨0,rfl,Q5 _⟩ (zKi _ _ (by omega))
 rintro d k ⟨i,rfl,hi⟩ hk
 by_cases h1 : i < l.length
 ·refine zQq (decide_eq_true (by simp only [Z.ofN, Z.len]; omega)) ?_
  refine zQa ⟨by omega,by simp only [Z.len]; omega⟩ ?_
  refine zQb (getN l h1 _) ?_
  refine zQa ⟨by omega,by simp only [Z.len]; omega⟩ ?_
  refine zQb (getN l h1 _) ?_
  refine zQe (y:=true) (by rw [xX4,vWp]) ?_
  refine zQm rfl ?_
  refine zQb (zJ6 (by omega)) ?_
  exact hk _ ⟨i+1,rfl,h1⟩ (by show l.length - (((i+1 : Nat) : Int)).toNat < l.length - ((i : Int)).toNat; omega)
 ·exact zQm (decide_eq_false (by simp only [Z.ofN,Z.len]; omega)) rfl
theorem vX9 (L : List OrmT) (M : List Int) (nx tk : Int) (hs : StOk L M) (hsm : wX2 L M) : zZ0 ((L,(M,(nx,(tk,())))),(L,(M,(nx,(tk,())))))=some true:=by
 obtain ⟨h6,hM,hst⟩:=hsm
 unfold zZ0
 dsimp only
 refine zQm (by simp [Z.ine]) ?_
 refine zQe (yZ9 M (by omega)) ?_
 refine zQm rfl (zQm (by simp [Z.zQr,Z.ine]) (zQm (by simp [Z.zQr,Z.ine]) ?_))
 refine zQn (fun (s : Int)=>∃ i : Nat,s=i∧i≤L.length) (fun s=>L.length - s.toNat) ?_ ⟨0,rfl,Q5 _⟩ (zKi _ _ (by omega))
 rintro d k ⟨i,rfl,hi⟩ hk
 by_cases hlt : i < L.length
 ·refine zQq (decide_eq_true (by simp only [Z.ofN, Z.len]; omega)) ?_
  refine zQa (ixN hlt (by omega)) (zQb (getN L hlt _) ?_)
  refine zQa (ixN hlt (by omega)) (zQb (getN L hlt _) ?_)
  have hroot:=hs.root _ (Qv hlt)
  obtain ⟨s60,s100⟩:=hst _ (Qv hlt)
  rw [yZ3 hroot]
  have hso : zKq ((L[i].1,(L[i].2.1,())),(L[i].1,(L[i].2.1,())))=some true:=by
   unfold zKq
   dsimp only
   refine zQq (by simp [Z.andB,Z.ieq]) ?_
   exact zQe (vYm L[i].2.1 (by omega)) rfl
  refine zQe hso ?_
  refine zQm rfl ?_
  refine zQb (zJ6 (by omega)) ?_
  exact hk _ ⟨i+1,rfl,hlt⟩ (by show L.length - (((i+1 : Nat) : Int)).toNat < L.length - ((i : Int)).toNat; omega)
 ·exact zQm (decide_eq_false (by simp only [Z.ofN,Z.len]; omega)) rfl
end Go.Proofs.YtfeemnbhcafofaaDoor
