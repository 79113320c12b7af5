/- Frames: copies, and how large they are. -/
import Derived.Test.YtablhcjjfiepaaaFrames
import Derived.Test.YtablhcjjfiepaaaSame
import Derived.Test.YtablhcjjfiepaaaSameInts
namespace Go.Proofs.Ytablhcjjfiepaaa
open Go.Eng
set_option linter.unusedVariables false
set_option linter.unusedSimpArgs false
def zWo (l : List FrT) : Prop:=l.length≤20∧∀ x∈l,x.2.2.1.length≤100∧x.2.2.2.1.length≤20
theorem nbig {a b n : Nat} (h : (a+b) * (n+1)≤10000000000) : ¬ Dat.Big a b n:=by
 simp only [Dat.Big]
 have : (2 : Nat) ^ 44=17592186044416:=by decide
 omega
theorem xZu {a b n : Nat} (ha : a≤2000) (hb : b≤2000) (hn : n≤100) : ¬ Dat.Big a b n:=by
 refine nbig (Nat.le_trans (Nat.mul_le_mul (show a+b≤4000 by omega) (show n+1≤101 by omega)) (by omega))
theorem wZz (x : List Int) (h : x.length≤1000) : zQ9 x=some x:=by
  unfold zQ9
  refine zQa (Nat.le_refl _) ?_
  first
  | (refine zXg (xZu (by simp [Dat.len, Dat.seg]) (by simp only [Dat.len]; omega) (by omega)) ?_
     rfl)
  | (by_cases h0 : x.length = 0
     · refine iteP h0 ?_
       have : x=[]:=List.length_eq_zero_iff.1 h0
       subst this
       refine zQa (Nat.le_refl _) rfl
     · refine iteN h0 (zXg (xZu (by simp [Dat.len, Dat.seg]) (by simp only [Dat.len]; omega) (by omega)) ?_)
       refine zQa (by simp [Dat.Le,Dat.len,Dat.seg,Dat.app]) ?_
       congr 1
       simp [Dat.seg,Dat.app,Dat.len])
theorem yKa (x : List Int) (h : x.length≤1000) : zQk x=some x:=by
  unfold zQk
  refine zQa (Nat.le_refl _) ?_
  first
  | (refine zXg (xZu (by simp [Dat.len, Dat.seg]) (by simp only [Dat.len]; omega) (by omega)) ?_
     rfl)
  | (by_cases h0 : x.length = 0
     · refine iteP h0 ?_
       have : x=[]:=List.length_eq_zero_iff.1 h0
       subst this
       refine zQa (Nat.le_refl _) rfl
     · refine iteN h0 (zXg (xZu (by simp [Dat.len, Dat.seg]) (by simp only [Dat.len]; omega) (by omega)) ?_)
       refine zQa (by simp [Dat.Le,Dat.len,Dat.seg,Dat.app]) ?_
       congr 1
       simp [Dat.seg,Dat.app,Dat.len])
def bigX (x : FrT) : Bool:=decide (x.2.2.1.length > 100) || decide (x.2.2.2.1.length > 20)
def yY7 (l : List FrT) : Bool:=(l.take 20).any bigX || decide (l.length > 20)
theorem wWc {l : List FrT} (h : yY7 l=false) : zWo l:=by
 unfold yY7 at h
 simp only [Bool.or_eq_false_iff,decide_eq_false_iff_not] at h
 obtain ⟨h1,h2⟩:=h
 rw [List.take_of_length_le (by omega)] at h1
 refine ⟨by omega,fun x hx=>?_⟩
 have:=List.any_eq_false.1 h1 x hx
 simp only [bigX,Bool.or_eq_true,decide_eq_true_eq,not_or] at this
 omega
theorem xQh (l : List FrT) (h : Int) (hl : l.length≤9223372036854775807) : yQl (l,h,())=some (yY7 l):=by
 unfold yQl
 dsimp only
 refine zWm (fun (s : Int)=>∃ i : Nat,s=i∧i≤l.length∧i≤20∧(l.take i).any bigX=false) (fun s=>l.length - s.toNat) ?_ ⟨0,rfl,Nat.zero_le _,Nat.zero_le _,rfl⟩ (yWf _ _ (by omega))
 rintro s k ⟨i,rfl,hi,h20,ha⟩ hk
 have fin : (i=l.length∨i=20)→yY7 l=decide ((l.length : Int) > 20):=by
  intro hc
  unfold yY7
  have : (l.take 20).any bigX=false:=by
   rcases hc with rfl | rfl
   ·rw [List.take_of_length_le (by omega)]; rw [List.take_of_length_le (Nat.le_refl _)] at ha; exact ha
   ·exact ha
  rw [this,Bool.false_or]
  by_cases h : l.length > 20<;>simp [h]<;>omega
 by_cases hlt : i < l.length
 ·refine zQe (decide_eq_true (by simp only [Dat.ofN, Dat.len]; omega)) ?_
  by_cases h2 : i < 20
  ·refine zQe (by simp only [Dat.zQd, Dat.ilt]; simp; omega) ?_
   have hix : Dat.Ix (i : Int) (Dat.len l):=⟨by omega,by simp only [Dat.len]; omega⟩
   refine zQa hix ?_
   refine zQc (fget l hlt) ?_
   have hit : bigX l[i]=true→yY7 l=true:=fun hb=>by
    unfold yY7
    have : (l.take 20).any bigX=true:=List.any_eq_true.2 ⟨l[i],List.mem_take_iff_getElem.2 ⟨i,by omega,rfl⟩,hb⟩
    rw [this]; rfl
   by_cases hd : l[i].2.2.1.length > 100
   ·refine zQe (decide_eq_true (by simp only [Dat.ofN, Dat.len]; omega)) ?_
    rw [hit (by simp [bigX,hd])]
   ·refine zQf (decide_eq_false (by simp only [Dat.ofN, Dat.len]; omega)) ?_
    refine zQa hix ?_
    refine zQc (fget l hlt) ?_
    by_cases hp : l[i].2.2.2.1.length > 20
    ·refine zQe (by simp only [Dat.zQd, Dat.igt, Dat.ofN, Dat.len]; simp; omega) ?_
     rw [hit (by simp [bigX,hp])]
    ·refine zQf (by simp only [Dat.zQd, Dat.igt, Dat.ofN, Dat.len]; simp; omega) ?_
     refine zQc (zYe (x:=Dat.add (i : Int) 1) (by simp only [Dat.add]; omega)) ?_
     refine hk _ ⟨i+1,rfl,hlt,h2, ?_⟩ (by simp only [Dat.add]; omega)
     rw [List.take_succ_eq_append_getElem hlt,List.any_append,ha]
     simp [bigX,hd,hp]
  ·refine zQf (by simp only [Dat.zQd, Dat.ilt]; simp; omega) ?_
   rw [fin (.inr (by omega))]
 ·refine zQf (decide_eq_false (by simp only [Dat.ofN, Dat.len]; omega)) ?_
  rw [fin (.inl (by omega))]
theorem yWp (l : List FrT) (h : Int) (hs : zWo l) : zXy ((l,h,()),(l,h,()))=some true:=by
 unfold zXy
 dsimp only
 refine zQf (by simp [Dat.ine]) ?_
 refine zQf (by simp [Dat.ine,Dat.zQd]) ?_
 refine zWm (fun (s : Int)=>∃ i : Nat,s=i∧i≤l.length) (fun s=>l.length - s.toNat) ?_ ⟨0,rfl,Nat.zero_le _⟩ (yWf _ _ (by have:=hs.1; omega))
 rintro s k ⟨i,rfl,hi⟩ hk
 by_cases hlt : i < l.length
 ·refine zQe (decide_eq_true (by simp only [Dat.ofN, Dat.len]; omega)) ?_
  have hix : Dat.Ix (i : Int) (Dat.len l):=⟨by omega,by simp only [Dat.len]; omega⟩
  refine zQa hix ?_
  refine zQc (fget l hlt) ?_
  refine zQa hix ?_
  refine zQc (fget l hlt) ?_
  have hsm:=hs.2 _ (List.getElem_mem hlt)
  refine zQf (by simp [Dat.ine]) ?_
  refine zQf (by simp [Dat.ine,Dat.zQd]) ?_
  refine zQj (yWr _ _) ?_
  refine zQf (by simp [Dat.bnot,Dat.zQd]) ?_
  refine zQj (yZu _ (by omega)) ?_
  refine zQf (by simp [Dat.bnot,Dat.zQd]) ?_
  refine zQf (by simp [Dat.bnot,Dat.zQd,Dat.beq]) ?_
  refine zQf (by simp [Dat.bnot,Dat.zQd,Dat.beq]) ?_
  refine zQc (zYe (x:=Dat.add (i : Int) 1) (by simp only [Dat.add]; have:=hs.1; omega)) ?_
  exact hk _ ⟨i+1,rfl,hlt⟩ (by simp only [Dat.add]; omega)
 ·refine zQf (decide_eq_false (by simp only [Dat.ofN, Dat.len]; omega)) ?_
  rfl
end Go.Proofs.Ytablhcjjfiepaaa
