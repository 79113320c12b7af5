/- Frames: what each call turns. -/
import Derived.Test.YtablhcjjfiepaaaFrmix
namespace Go.Proofs.Ytablhcjjfiepaaa
open Go.Eng
set_option linter.unusedVariables false
set_option linter.unusedSimpArgs false
abbrev AnsF:=(List FrT×(Int×Unit))×Int
def z0F : FrT:=(0,(0,([],([],(false,(false,()))))))
def atF (l : List FrT) (pg : Int) : Option Nat:=l.findIdx? fun x=>decide (x.1≠0∧x.2.1=pg)
def plF (l : List FrT) (a : Int) : Prop:=0≤a∧a < l.length
instance (l : List FrT) (a : Int) : Decidable (plF l a):=inferInstanceAs (Decidable (_∧_))
def clF (c : CfgT) (a : Int) : Prop:=0≤a∧a < c.2.2.2.2.2.2.1
instance (c : CfgT) (a : Int) : Decidable (clF c a):=inferInstanceAs (Decidable (_∧_))
def elF (l : List FrT) (a : Int) : FrT:=l.getD a.toNat z0F
def uQw (c : CfgT) (l : List FrT) (a pg cl : Int) : Prop:=plF l a∧clF c cl∧(0≤pg∧pg < c.1)∧(elF l a).1≠1∧pinB (elF l a).2.2.2.1=false∧(atF l pg=none∨atF l pg=some a.toNat)
instance (c : CfgT) (l : List FrT) (a pg cl : Int) : Decidable (uQw c l a pg cl):=inferInstanceAs (Decidable (_∧_∧_∧_∧_∧_))
theorem xYf {c : CfgT} {l : List FrT} {h : Int} (hs : zW0 l) : zXi (c,l,h,())=some (chkF c l h) :=
 zYx c l h (by have:=hs.1; omega) (fun x hx=>by have:=hs.2 x hx; omega)
theorem find_ok (c : CfgT) (l : List FrT) (h pg : Int) (hs : zW0 l) :
  yQi (c,(l,h,()),pg)=some (if chkF c l h=0 then (match atF l pg with | some i=>((i : Int),true) | none=>(0,false)) else (0,false)):=by
 unfold yQi
 dsimp only
 refine zQp (xYf hs) ?_
 by_cases hc : chkF c l h=0
 ·rw [if_pos hc]
  refine zQh (by simp [Dat.ine,hc]) ?_
  refine zQ2 (fun (s : Int)=>∃ i : Nat,s=i∧i≤l.length∧∀ j (hj : j < l.length),j < i→¬ (l[j].1≠0∧l[j].2.1=pg)) (fun s=>l.length - s.toNat) ?_ ⟨0,rfl,Nat.zero_le _,fun _ _ h=>absurd h (Nat.not_lt_zero _)⟩ (zK1 _ _ (by have:=hs.1; omega))
  rintro s k ⟨i,rfl,hi,hno⟩ hk
  by_cases hlt : i < l.length
  ·refine zQi (decide_eq_true (by simp only [Dat.ofN, Dat.len]; omega)) ?_
   refine zQb (show Dat.Ix (i : Int) (Dat.len l) from ⟨by omega,by simp only [Dat.len]; omega⟩) ?_
   refine zQe (fget l hlt) ?_
   have go : ¬ (l[i].1≠0∧l[i].2.1=pg)→k ((i : Int)+1)=some (match atF l pg with | some i=>((i : Int),true) | none=>(0,false)):=fun hn =>
    hk _ ⟨i+1,rfl,hlt,fun j hj hji=>by
     by_cases e : j=i
     ·subst e; exact hn
     ·exact hno j hj (by omega)⟩ (by omega)
   by_cases h0 : l[i].1=0
   ·refine zQh (by simp [Dat.ine, h0]) ?_
    refine zQe (zZh (x:=Dat.add (i : Int) 1) (by simp only [Dat.add]; have:=hs.1; omega)) ?_
    exact go (fun hx=>hx.1 h0)
   ·refine zQi (by simp [Dat.ine, h0]) ?_
    by_cases hp : l[i].2.1=pg
    ·refine zQi (by simp [Dat.zQg, Dat.ieq, hp]) ?_
     have : atF l pg=some i:=by
      unfold atF
      rw [List.findIdx?_eq_some_iff_getElem]
      exact ⟨hlt,decide_eq_true ⟨h0,hp⟩,fun j hj=>by simp only [decide_eq_true_eq]; exact hno j (by omega) hj⟩
     rw [this]
     show some (Dat.imax true (i : Int) 0,Dat.ige (i : Int) 0)=some ((i : Int),true)
     have e1 : Dat.imax true (i : Int) 0=i:=by
      simp only [Dat.imax,if_true]
      rw [if_neg (by omega)]
     have e2 : Dat.ige (i : Int) 0=true:=decide_eq_true (by omega)
     rw [e1,e2]
    ·refine zQh (by simp [Dat.zQg, Dat.ieq, hp]) ?_
     refine zQe (zZh (x:=Dat.add (i : Int) 1) (by simp only [Dat.add]; have:=hs.1; omega)) ?_
     exact go (fun hx=>hp hx.2)
  ·refine zQh (decide_eq_false (by simp only [Dat.ofN, Dat.len]; omega)) ?_
   have : atF l pg=none:=by
    unfold atF
    rw [List.findIdx?_eq_none_iff]
    intro x hx
    obtain ⟨j,hj,rfl⟩:=List.getElem_of_mem hx
    exact decide_eq_false (hno j hj (by omega))
   rw [this]
   rfl
 ·rw [if_neg hc]
  exact zQi (by simp [Dat.ine,hc]) rfl
theorem row1n (l : List FrT) {j : Nat} (h : j < l.length) : (l.map (fun x : FrT=>x.2.2.1))[j]?=some l[j].2.2.1:=by simp [h]
theorem row2n (l : List FrT) {j : Nat} (h : j < l.length) : (l.map (fun x : FrT=>x.2.2.2.1))[j]?=some l[j].2.2.2.1:=by simp [h]
theorem clone0 {l : List FrT} (hs : zW0 l) : ¬ Dat.Big (Dat.len (Dat.seg ([] : List FrT) 0 0)) (Dat.len l) 72:=yJt (by simp [Dat.len,Dat.seg]) (by simp only [Dat.len]; have:=hs.1; omega) (by omega)
end Go.Proofs.Ytablhcjjfiepaaa
