/- Frames: two that are the same, what the clock takes by the document, and what is dirty. -/
import Derived.Test.YtablhcjjfiepaaaFrref2
import Derived.Test.YtablhcjjfiepaaaFrvic
namespace Go.Proofs.Ytablhcjjfiepaaa
open Go.Eng
set_option linter.unusedVariables false
set_option linter.unusedSimpArgs false
def yQx (x y : FrT) : Bool:=decide (x.1=y.1)&&decide (x.2.1=y.2.1)&&decide (Dat.str x.2.2.1=Dat.str y.2.2.1)&&decide (x.2.2.2.1=y.2.2.2.1)&&(x.2.2.2.2.1 == y.2.2.2.2.1)&&(x.2.2.2.2.2.1 == y.2.2.2.2.2.1)
def xXm (a : List FrT) (ha : Int) (b : List FrT) (hb : Int) : Bool:=decide (a.length=b.length)&&(decide (ha=hb)&&(List.range a.length).all fun i=>yQx (a.getD i z0F) (b.getD i z0F))
theorem vJh {f : List Int × List Int → Option Bool} (hf : ∀ d0, f d0 = (bif (Dat.ine (Dat.ofN (Dat.len d0.1)) (Dat.ofN (Dat.len d0.2))) then some false
 else Dat.loop (fun (s1 : Int) k2 =>
 (bif (Dat.ilt s1 (Dat.ofN (Dat.len d0.1))) then if (Dat.Ix s1 (Dat.len d0.1)) then Dat.bnd (Dat.get d0.1 (Dat.toN s1) 0) fun (x5 : Int) =>
 if (Dat.Ix s1 (Dat.len d0.2)) then Dat.bnd (Dat.get d0.2 (Dat.toN s1) 0) fun (x8 : Int) =>
 (bif (Dat.ine x5 x8) then some false
 else Dat.bnd (Dat.wrap .i64 (Dat.add s1 1)) fun (x9 : Int) =>
 k2 x9)
 else none
 else none
 else some true)) 0)) (a b : List Int) (h : a.length < 9223372036854775807) : f (a,b)=some (decide (a=b)):=by
  rw [hf]
  dsimp only
  by_cases hl : a.length=b.length
  · refine zQh (by simp [Dat.ine, Dat.ofN, Dat.len, hl]) ?_
    refine zQ2 (fun (s : Int)=>∃ i : Nat,s=i∧i≤a.length∧∀ j (h1 : j < a.length) (h2 : j < b.length),j < i→a[j]=b[j]) (fun s=>a.length - s.toNat) ?_ ⟨0,rfl,Nat.zero_le _,fun _ _ _ h=>absurd h (Nat.not_lt_zero _)⟩ (zK1 _ _ (by omega))
    rintro s k ⟨i,rfl,hi,hp⟩ hk
    by_cases hlt : i < a.length
    · have hlb : i < b.length := by omega
      refine zQi (decide_eq_true (by simp only [Dat.ofN,Dat.len]; omega)) ?_
      refine zQb (show Dat.Ix (i : Int) (Dat.len a) from ⟨by omega,by simp only [Dat.len]; omega⟩) (zQe (iget a hlt) ?_)
      refine zQb (show Dat.Ix (i : Int) (Dat.len b) from ⟨by omega,by simp only [Dat.len]; omega⟩) (zQe (iget b hlb) ?_)
      by_cases he : a[i]=b[i]
      · refine zQh (by simp [Dat.ine, he]) ?_
        refine zQe (zZh (x:=Dat.add (i : Int) 1) (by simp only [Dat.add]; omega)) ?_
        refine hk _ ⟨i+1,rfl,hlt,fun j h1 h2 hj=>?_⟩ (by simp only [Dat.add]; omega)
        by_cases e : j=i
        · subst e; exact he
        · exact hp j h1 h2 (by omega)
      · refine zQi (by simp [Dat.ine, he]) ?_
        rw [decide_eq_false]
        intro e; exact he (by simp [e])
    · refine zQh (decide_eq_false (by simp only [Dat.ofN, Dat.len]; omega)) ?_
      rw [decide_eq_true]
      exact List.ext_getElem hl fun j h1 h2=>hp j h1 h2 (by omega)
  · refine zQi (by simp [Dat.ine, Dat.ofN, Dat.len]; omega) ?_
    rw [decide_eq_false]
    intro e; exact hl (by rw [e])
theorem zJr (a b : List Int) (h : a.length < 9223372036854775807) : zX4 (a,b)=some (decide (a=b)):=vJh (fun d0=>rfl) a b h
theorem zYf (a b : List Int) (h : a.length < 9223372036854775807) : zZl (a,b)=some (decide (a=b)):=vJh (fun d0=>rfl) a b h
theorem yYx (a b : List Int) : yQm (a,b)=some (decide (Dat.str a=Dat.str b)):=by
 simp only [yQm,Dat.zZp,Dat.seq]
 congr 1
 rw [Bool.eq_iff_iff]; simp
theorem yKj (x y : FrT) (h : x.2.2.2.1.length < 9223372036854775807) : zJk (x,y)=some (yQx x y):=by
 unfold zJk yQx
 dsimp only
 by_cases h1 : x.1=y.1
 ·refine zQi (by simp [Dat.ieq, h1]) ?_
  by_cases h2 : x.2.1=y.2.1
  ·refine zQi (by simp [Dat.ieq, Dat.zQg, h2]) ?_
   refine zQp (yYx _ _) ?_
   by_cases h3 : Dat.str x.2.2.1=Dat.str y.2.2.1
   ·refine zQi (by simp [Dat.zQg, h3]) ?_
    refine zQp (zYf _ _ h) ?_
    by_cases h4 : x.2.2.2.1=y.2.2.2.1
    ·refine zQi (by simp [Dat.zQg, h4]) ?_
     simp only [h1,h2,h3,h4,decide_true,Bool.true_and]
     cases x.2.2.2.2.1<;>cases y.2.2.2.2.1<;>cases x.2.2.2.2.2.1<;>cases y.2.2.2.2.2.1<;>rfl
    ·refine zQh (by simp [Dat.zQg, h4]) ?_
     simp [h4]
   ·refine zQh (by simp [Dat.zQg, h3]) ?_
    simp [h3]
  ·refine zQh (by simp [Dat.ieq, Dat.zQg, h2]) ?_
   simp [h2]
 ·refine zQh (by simp [Dat.ieq, h1]) ?_
  simp [h1]
theorem yK2 {a : List FrT} {ha : Int} {b : List FrT} {hb : Int} (hl : a.length=b.length) (hh : ha=hb) : xXm a ha b hb=decide (∀ i,i < a.length→yQx (a.getD i z0F) (b.getD i z0F)=true):=by
 unfold xXm
 rw [decide_eq_true hl,decide_eq_true hh,Bool.true_and,Bool.true_and,Bool.eq_iff_iff]
 simp [List.all_eq_true]
theorem yKg {l : List FrT} {i : Nat} (h : i < l.length) : l.getD i z0F=l[i]:=by simp [List.getD,h]
theorem yQt (a : List FrT) (ha : Int) (b : List FrT) (hb : Int) (hl : a.length < 9223372036854775807) (hp : ∀ x∈a,x.2.2.2.1.length < 9223372036854775807) : zJy ((a,(ha,())),(b,(hb,())))=some (xXm a ha b hb):=by
 unfold zJy
 dsimp only
 by_cases hh : ha=hb
 ·refine zQi (by simp [Dat.ieq, hh]) ?_
  by_cases hab : a.length=b.length
  ·refine zQh (by simp [Dat.ine, Dat.ofN, Dat.len, hab]) ?_
   rw [yK2 hab hh]
   refine zQ2 (fun (s : Int)=>∃ i : Nat,s=i∧i≤a.length∧∀ j,j < i→yQx (a.getD j z0F) (b.getD j z0F)=true) (fun s=>a.length - s.toNat) ?_ ⟨0,rfl,Nat.zero_le _,fun _ h=>absurd h (Nat.not_lt_zero _)⟩ (zK1 _ _ (by omega))
   rintro s k ⟨i,rfl,hi,hq⟩ hk
   by_cases hlt : i < a.length
   ·have hlb : i < b.length := by omega
    refine zQi (decide_eq_true (by simp only [Dat.ofN,Dat.len]; omega)) ?_
    refine zQb (show Dat.Ix (i : Int) (Dat.len a) from ⟨by omega,by simp only [Dat.len]; omega⟩) (zQe (fget a hlt) ?_)
    refine zQb (show Dat.Ix (i : Int) (Dat.len b) from ⟨by omega,by simp only [Dat.len]; omega⟩) (zQe (fget b hlb) ?_)
    refine zQp (yKj a[i] b[i] (hp _ (List.getElem_mem hlt))) ?_
    cases hs : yQx a[i] b[i] with
    | false =>
     refine zQi rfl ?_
     rw [decide_eq_false]
     ·rfl
     ·intro hall
      have:=hall i hlt
      rw [yKg hlt,yKg hlb,hs] at this; cases this
    | true =>
     refine zQh rfl ?_
     refine zQe (zZh (x:=Dat.add (i : Int) 1) (by simp only [Dat.add]; omega)) ?_
     refine hk _ ⟨i+1,rfl,hlt,fun j hj=>?_⟩ (by simp only [Dat.add]; omega)
     by_cases e : j=i
     ·subst e; rw [yKg hlt,yKg hlb]; exact hs
     ·exact hq j (by omega)
   ·refine zQh (decide_eq_false (by simp only [Dat.ofN, Dat.len]; omega)) ?_
    rw [decide_eq_true (fun j hj=>hq j (by omega))]
    rfl
  ·refine zQi (by simp [Dat.ine, Dat.ofN, Dat.len]; omega) ?_
   simp [xXm,hab,Dat.zQg]
 ·refine zQh (by simp [Dat.ieq, hh]) ?_
  simp [xXm,hh]
theorem zJp (a : List FrT) (ha : Int) (b : List FrT) (hb : Int) (hl : a.length < 9223372036854775807) (hp : ∀ x∈a,x.2.2.2.1.length < 9223372036854775807) : zXc ((a,(ha,())),(b,(hb,())))=some (xXm a ha b hb):=by
 unfold zXc
 dsimp only
 by_cases hab : a.length=b.length
 ·refine zQh (by simp [Dat.ine, Dat.ofN, Dat.len, hab]) ?_
  by_cases hh : ha=hb
  ·refine zQh (by simp [Dat.ine, Dat.zQg, hh]) ?_
   rw [yK2 hab hh]
   refine zQ2 (fun (s : Int)=>∃ i : Nat,s=i∧i≤a.length∧∀ j,j < i→yQx (a.getD j z0F) (b.getD j z0F)=true) (fun s=>a.length - s.toNat) ?_ ⟨0,rfl,Nat.zero_le _,fun _ h=>absurd h (Nat.not_lt_zero _)⟩ (zK1 _ _ (by omega))
   rintro s k ⟨i,rfl,hi,hq⟩ hk
   by_cases hlt : i < a.length
   ·have hlb : i < b.length := by omega
    refine zQi (decide_eq_true (by simp only [Dat.ofN,Dat.len]; omega)) ?_
    refine zQb (show Dat.Ix (i : Int) (Dat.len a) from ⟨by omega,by simp only [Dat.len]; omega⟩) (zQe (fget a hlt) ?_)
    refine zQb (show Dat.Ix (i : Int) (Dat.len b) from ⟨by omega,by simp only [Dat.len]; omega⟩) (zQe (fget b hlb) ?_)
    have bad : yQx a[i] b[i]=false→some false=some (decide (∀ i,i < a.length→yQx (a.getD i z0F) (b.getD i z0F)=true)):=by
     intro hs
     rw [decide_eq_false]
     intro hall
     have:=hall i hlt
     rw [yKg hlt,yKg hlb,hs] at this; cases this
    by_cases h1 : a[i].1=b[i].1
    ·refine zQh (by simp [Dat.ine, h1]) ?_
     by_cases h2 : a[i].2.1=b[i].2.1
     ·refine zQh (by simp [Dat.ine, Dat.zQg, h2]) ?_
      refine zQp (yQ7 _ _) ?_
      by_cases h3 : Dat.str a[i].2.2.1=Dat.str b[i].2.2.1
      ·refine zQh (by simp [Dat.bnot, Dat.zQg, h3]) ?_
       refine zQp (zJr _ _ (hp _ (List.getElem_mem hlt))) ?_
       by_cases h4 : a[i].2.2.2.1=b[i].2.2.2.1
       ·refine zQh (by simp [Dat.bnot, Dat.zQg, h4]) ?_
        by_cases h5 : a[i].2.2.2.2.1=b[i].2.2.2.2.1
        ·refine zQh (by simp [Dat.bnot, Dat.zQg, Dat.beq, h5]) ?_
         by_cases h6 : a[i].2.2.2.2.2.1=b[i].2.2.2.2.2.1
         ·refine zQh (by simp [Dat.bnot, Dat.zQg, Dat.beq, h6]) ?_
          refine zQe (zZh (x:=Dat.add (i : Int) 1) (by simp only [Dat.add]; omega)) ?_
          refine hk _ ⟨i+1,rfl,hlt,fun j hj=>?_⟩ (by simp only [Dat.add]; omega)
          by_cases e : j=i
          ·subst e; rw [yKg hlt,yKg hlb]; simp [yQx,h1,h2,h3,h4,h5,h6]
          ·exact hq j (by omega)
         ·exact zQi (by simp [Dat.bnot,Dat.zQg,Dat.beq,h6]) (bad (by simp [yQx,h6]))
        ·exact zQi (by simp [Dat.bnot,Dat.zQg,Dat.beq,h5]) (bad (by simp [yQx,h5]))
       ·exact zQi (by simp [Dat.bnot,Dat.zQg,h4]) (bad (by simp [yQx,h4]))
      ·exact zQi (by simp [Dat.bnot,Dat.zQg,h3]) (bad (by simp [yQx,h3]))
     ·exact zQi (by simp [Dat.ine,Dat.zQg,h2]) (bad (by simp [yQx,h2]))
    ·exact zQi (by simp [Dat.ine,h1]) (bad (by simp [yQx,h1]))
   ·refine zQh (decide_eq_false (by simp only [Dat.ofN, Dat.len]; omega)) ?_
    rw [decide_eq_true (fun j hj=>hq j (by omega))]
  ·refine zQi (by simp [Dat.ine, Dat.zQg, hh]) ?_
   simp [xXm,hh]
 ·refine zQi (by simp [Dat.ine, Dat.ofN, Dat.len]; omega) ?_
  simp [xXm,hab]
end Go.Proofs.Ytablhcjjfiepaaa
