/- Frames: copies, and how large they are. -/
import Derived.Test.YtablhcjjfiepaaaFrames
import Derived.Test.YtablhcjjfiepaaaSame
import Derived.Test.YtablhcjjfiepaaaSameInts
namespace Go.Proofs.Ytablhcjjfiepaaa
open Go.Eng
set_option linter.unusedVariables false
set_option linter.unusedSimpArgs false
def zW0 (l : List FrT) : Prop:=l.length≤20∧∀ x∈l,x.2.2.1.length≤100∧x.2.2.2.1.length≤20
theorem nbig {a b n : Nat} (h : (a+b) * (n+1)≤10000000000) : ¬ Dat.Big a b n:=by
 simp only [Dat.Big]
 have : (2 : Nat) ^ 44=17592186044416:=by decide
 omega
theorem yJt {a b n : Nat} (ha : a≤2000) (hb : b≤2000) (hn : n≤100) : ¬ Dat.Big a b n:=by
 refine nbig (Nat.le_trans (Nat.mul_le_mul (show a+b≤4000 by omega) (show n+1≤101 by omega)) (by omega))
theorem wXx (x : List Int) (h : x.length≤1000) : zQ0 x=some x:=by
  unfold zQ0
  refine zQb (Nat.le_refl _) ?_
  first
  | (refine zXh (yJt (by simp [Dat.len, Dat.seg]) (by simp only [Dat.len]; omega) (by omega)) ?_
     rfl)
  | (by_cases h0 : x.length = 0
     · refine iteP h0 ?_
       have : x=[]:=List.length_eq_zero_iff.1 h0
       subst this
       refine zQb (Nat.le_refl _) rfl
     · refine iteN h0 (zXh (yJt (by simp [Dat.len, Dat.seg]) (by simp only [Dat.len]; omega) (by omega)) ?_)
       refine zQb (by simp [Dat.Le,Dat.len,Dat.seg,Dat.app]) ?_
       congr 1
       simp [Dat.seg,Dat.app,Dat.len])
theorem wXy (x : List Int) (h : x.length≤1000) : zQz x=some x:=by
  unfold zQz
  refine zQb (Nat.le_refl _) ?_
  first
  | (refine zXh (yJt (by simp [Dat.len, Dat.seg]) (by simp only [Dat.len]; omega) (by omega)) ?_
     rfl)
  | (by_cases h0 : x.length = 0
     · refine iteP h0 ?_
       have : x=[]:=List.length_eq_zero_iff.1 h0
       subst this
       refine zQb (Nat.le_refl _) rfl
     · refine iteN h0 (zXh (yJt (by simp [Dat.len, Dat.seg]) (by simp only [Dat.len]; omega) (by omega)) ?_)
       refine zQb (by simp [Dat.Le,Dat.len,Dat.seg,Dat.app]) ?_
       congr 1
       simp [Dat.seg,Dat.app,Dat.len])
theorem xW6 (l : List FrT) (h : l.length≤1000) : zQq l=some l:=by
 unfold zQq
 refine zQb (Nat.le_refl _) ?_
 by_cases h0 : l.length=0
 ·refine iteP h0 ?_
  have : l=[]:=List.length_eq_zero_iff.1 h0
  subst this
  refine zQb (Nat.le_refl _) rfl
 ·refine iteN h0 (zXh (yJt (by simp [Dat.len, Dat.seg]) (by simp only [Dat.len]; omega) (by omega)) ?_)
  refine zQb (by simp [Dat.Le,Dat.len,Dat.seg,Dat.app]) ?_
  congr 1
  simp [Dat.seg,Dat.app,Dat.len]
theorem fget0 (l : List FrT) {i : Nat} (h : i < l.length) : Dat.get l (Dat.addN 0 (Dat.toN (i : Int))) (0,(0,(([] : List Int),(([] : List Int),(false,(false,()))))))=l[i]:=by
 simp [Dat.get,Dat.toN,List.getD,h]
def bigX (x : FrT) : Bool:=decide (x.2.2.1.length > 100) || decide (x.2.2.2.1.length > 20)
def yKf (l : List FrT) : Bool:=(l.take 20).any bigX || decide (l.length > 20)
theorem yYi {l : List FrT} (h : yKf l=false) : zW0 l:=by
 unfold yKf at h
 simp only [Bool.or_eq_false_iff,decide_eq_false_iff_not] at h
 obtain ⟨h1,h2⟩:=h
 rw [List.take_of_length_le (by omega)] at h1
 refine ⟨by omega,fun x hx=>?_⟩
 have:=List.any_eq_false.1 h1 x hx
 simp only [bigX,Bool.or_eq_true,decide_eq_true_eq,not_or] at this
 omega
theorem yQq (l : List FrT) (h : Int) (hl : l.length≤9223372036854775807) : zJq (l,h,())=some (yKf l):=by
 unfold zJq
 dsimp only
 refine zQ2 (fun (s : Int)=>∃ i : Nat,s=i∧i≤l.length∧i≤20∧(l.take i).any bigX=false) (fun s=>l.length - s.toNat) ?_ ⟨0,rfl,Nat.zero_le _,Nat.zero_le _,rfl⟩ (zK1 _ _ (by omega))
 rintro s k ⟨i,rfl,hi,h20,ha⟩ hk
 have fin : (i=l.length∨i=20)→yKf l=decide ((l.length : Int) > 20):=by
  intro hc
  unfold yKf
  have : (l.take 20).any bigX=false:=by
   rcases hc with rfl | rfl
   ·rw [List.take_of_length_le (by omega)]; rw [List.take_of_length_le (Nat.le_refl _)] at ha; exact ha
   ·exact ha
  rw [this,Bool.false_or]
  by_cases h : l.length > 20<;>simp [h]<;>omega
 by_cases hlt : i < l.length
 ·refine zQi (decide_eq_true (by simp only [Dat.ofN, Dat.len]; omega)) ?_
  by_cases h2 : i < 20
  ·refine zQi (by simp only [Dat.zQg, Dat.ilt]; simp; omega) ?_
   have hix : Dat.Ix (i : Int) (Dat.len l):=⟨by omega,by simp only [Dat.len]; omega⟩
   refine zQb hix ?_
   refine zQe (fget l hlt) ?_
   have hit : bigX l[i]=true→yKf l=true:=fun hb=>by
    unfold yKf
    have : (l.take 20).any bigX=true:=List.any_eq_true.2 ⟨l[i],List.mem_take_iff_getElem.2 ⟨i,by omega,rfl⟩,hb⟩
    rw [this]; rfl
   by_cases hd : l[i].2.2.1.length > 100
   ·refine zQi (decide_eq_true (by simp only [Dat.ofN, Dat.len]; omega)) ?_
    rw [hit (by simp [bigX,hd])]
   ·refine zQh (decide_eq_false (by simp only [Dat.ofN, Dat.len]; omega)) ?_
    refine zQb hix ?_
    refine zQe (fget l hlt) ?_
    by_cases hp : l[i].2.2.2.1.length > 20
    ·refine zQi (by simp only [Dat.zQg, Dat.igt, Dat.ofN, Dat.len]; simp; omega) ?_
     rw [hit (by simp [bigX,hp])]
    ·refine zQh (by simp only [Dat.zQg, Dat.igt, Dat.ofN, Dat.len]; simp; omega) ?_
     refine zQe (zZh (x:=Dat.add (i : Int) 1) (by simp only [Dat.add]; omega)) ?_
     refine hk _ ⟨i+1,rfl,hlt,h2, ?_⟩ (by simp only [Dat.add]; omega)
     rw [List.take_succ_eq_append_getElem hlt,List.any_append,ha]
     simp [bigX,hd,hp]
  ·refine zQh (by simp only [Dat.zQg, Dat.ilt]; simp; omega) ?_
   rw [fin (.inr (by omega))]
 ·refine zQh (decide_eq_false (by simp only [Dat.ofN, Dat.len]; omega)) ?_
  rw [fin (.inl (by omega))]
theorem yQ4 (l : List FrT) (h : Int) (hs : zW0 l) : zXc ((l,h,()),(l,h,()))=some true:=by
 unfold zXc
 dsimp only
 refine zQh (by simp [Dat.ine]) ?_
 refine zQh (by simp [Dat.ine,Dat.zQg]) ?_
 refine zQ2 (fun (s : Int)=>∃ i : Nat,s=i∧i≤l.length) (fun s=>l.length - s.toNat) ?_ ⟨0,rfl,Nat.zero_le _⟩ (zK1 _ _ (by have:=hs.1; omega))
 rintro s k ⟨i,rfl,hi⟩ hk
 by_cases hlt : i < l.length
 ·refine zQi (decide_eq_true (by simp only [Dat.ofN, Dat.len]; omega)) ?_
  have hix : Dat.Ix (i : Int) (Dat.len l):=⟨by omega,by simp only [Dat.len]; omega⟩
  refine zQb hix ?_
  refine zQe (fget l hlt) ?_
  refine zQb hix ?_
  refine zQe (fget l hlt) ?_
  have hsm:=hs.2 _ (List.getElem_mem hlt)
  refine zQh (by simp [Dat.ine]) ?_
  refine zQh (by simp [Dat.ine,Dat.zQg]) ?_
  refine zQp (yQ7 _ _) ?_
  refine zQh (by simp [Dat.bnot,Dat.zQg]) ?_
  refine zQp (yX3 _ (by omega)) ?_
  refine zQh (by simp [Dat.bnot,Dat.zQg]) ?_
  refine zQh (by simp [Dat.bnot,Dat.zQg,Dat.beq]) ?_
  refine zQh (by simp [Dat.bnot,Dat.zQg,Dat.beq]) ?_
  refine zQe (zZh (x:=Dat.add (i : Int) 1) (by simp only [Dat.add]; have:=hs.1; omega)) ?_
  exact hk _ ⟨i+1,rfl,hlt⟩ (by simp only [Dat.add]; omega)
 ·refine zQh (decide_eq_false (by simp only [Dat.ofN, Dat.len]; omega)) ?_
  rfl
end Go.Proofs.Ytablhcjjfiepaaa
