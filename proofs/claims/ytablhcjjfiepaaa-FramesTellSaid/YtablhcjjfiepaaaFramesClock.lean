/- FramesClock answers true. -/
import Derived.Test.YtablhcjjfiepaaaFrvic
import Derived.Test.YtablhcjjfiepaaaFrref
namespace Go.Proofs.Ytablhcjjfiepaaa
open Go.Eng
set_option linter.unusedVariables false
set_option linter.unusedSimpArgs false
theorem yK7 (x : FrT) (hl : x.2.2.2.1.length≤1000) : zW4 x=some (pinB x.2.2.2.1):=by
 obtain ⟨k,pg,dt,p,rf,dr,_⟩:=x
 unfold zW4
 dsimp only at hl ⊢
 refine zQ2 (fun (s : Int)=>∃ i : Nat,s=i∧i≤p.length∧pinB (p.take i)=false) (fun s=>p.length - s.toNat) ?_ ⟨0,rfl,Nat.zero_le _,rfl⟩ (zK1 _ _ (by omega))
 rintro s k ⟨i,rfl,hi,hp⟩ hk
 by_cases hlt : i < p.length
 ·refine zQi (decide_eq_true (by simp only [Dat.ofN, Dat.len]; omega)) ?_
  refine zQb ⟨by omega,by simp only [Dat.len]; omega⟩ ?_
  refine zQe (iget p hlt) ?_
  by_cases h0 : 0 < p[i]
  ·refine zQi (decide_eq_true h0) ?_
   rw [wWw hlt h0]
  ·refine zQh (decide_eq_false h0) ?_
   refine zQe (zZh (x:=Dat.add (i : Int) 1) (by simp only [Dat.add]; omega)) ?_
   exact hk _ ⟨i+1,rfl,hlt,by rw [xK0 hlt,hp,decide_eq_false h0]; rfl⟩ (by simp only [Dat.add]; omega)
 ·refine zQh (decide_eq_false (by simp only [Dat.ofN, Dat.len]; omega)) ?_
  rw [List.take_of_length_le (by omega)] at hp
  rw [hp]
structure VicR (l L : List FrT) (p : Nat) : Prop where
 lt : p < l.length
 free : yZn (l.getD p noF)=false
 len : L.length=l.length
 ref : (L.getD p noF).2.2.2.2.1=false
 same : ∀ j,j < l.length→L.getD j noF=l.getD j noF∨(L.getD j noF=clr (l.getD j noF)∧yZn (l.getD j noF)=false)
 all : (l.getD p noF).2.2.2.2.1=true→∀ j,j < l.length→yZn (l.getD j noF)=false→(l.getD j noF).2.2.2.2.1=true
theorem VicR.mem {l L : List FrT} {p : Nat} (R : VicR l L p) {x : FrT} (hx : x∈L) : ∃ y∈l,x=y∨x=clr y:=by
 obtain ⟨j,hj,rfl⟩:=List.getElem_of_mem hx
 have hj' : j < l.length:=by rw [← R.len]; exact hj
 refine ⟨l[j],List.getElem_mem hj', ?_⟩
 have:=R.same j hj'
 rw [yY6 _ hj,yY6 _ hj'] at this
 exact this.imp id And.left
theorem VicR.small {l L : List FrT} {p : Nat} (R : VicR l L p) (h : zW0 l) : zW0 L:=by
 refine ⟨by rw [R.len]; exact h.1,fun x hx=>?_⟩
 obtain ⟨y,hy,rfl | rfl⟩:=R.mem hx
 ·exact h.2 _ hy
 ·exact h.2 y hy
end Go.Proofs.Ytablhcjjfiepaaa
