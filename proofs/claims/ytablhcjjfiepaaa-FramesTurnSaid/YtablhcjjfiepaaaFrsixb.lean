/- Frames: what each call turns. -/
import Derived.Test.YtablhcjjfiepaaaFrmix
namespace Go.Proofs.Ytablhcjjfiepaaa
open Go.Eng
set_option linter.unusedVariables false
set_option linter.unusedSimpArgs false
abbrev AnsF:=(List FrT×(Int×Unit))×Int
def badF (e : Int) : AnsF:=(([],(0,())),e)
noncomputable def ansF (c : CfgT) (l : List FrT) (h : Int) (b : AnsF) : AnsF:=if chkF c l h=0 then b else badF (chkF c l h)
def z0F : FrT:=(0,(0,([],([],(false,(false,()))))))
def atF (l : List FrT) (pg : Int) : Option Nat:=l.findIdx? fun x=>decide (x.1≠0∧x.2.1=pg)
def setF (l : List FrT) (h a : Int) (y : FrT) : AnsF:=((l.set a.toNat y,(h,())),0)
def plF (l : List FrT) (a : Int) : Prop:=0≤a∧a < l.length
instance (l : List FrT) (a : Int) : Decidable (plF l a):=inferInstanceAs (Decidable (_∧_))
def clF (c : CfgT) (a : Int) : Prop:=0≤a∧a < c.2.2.2.2.2.2.1
instance (c : CfgT) (a : Int) : Decidable (clF c a):=inferInstanceAs (Decidable (_∧_))
def elF (l : List FrT) (a : Int) : FrT:=l.getD a.toNat z0F
def zJc (c : CfgT) (pg cl : Int) : FrT:=(1,(pg,([],((List.replicate c.2.2.2.2.2.2.1.toNat 0).set cl.toNat 1,(true,(false,()))))))
def zXq (c : CfgT) (l : List FrT) (a pg cl : Int) : Prop:=plF l a∧clF c cl∧(0≤pg∧pg < c.1)∧(elF l a).1≠1∧pinB (elF l a).2.2.2.1=false∧(atF l pg=none∨atF l pg=some a.toNat)
instance (c : CfgT) (l : List FrT) (a pg cl : Int) : Decidable (zXq c l a pg cl):=inferInstanceAs (Decidable (_∧_∧_∧_∧_∧_))
noncomputable def vXk (c : CfgT) (l : List FrT) (h a pg cl : Int) : AnsF:=ansF c l h (if zXq c l a pg cl then setF l h a (zJc c pg cl) else badF 2)
def vX9 (x : FrT) (d : List Int) : FrT:=(2,(x.2.1,(d,(x.2.2.2.1,(x.2.2.2.2.1,(x.2.2.2.2.2.1,()))))))
noncomputable def vZa (c : CfgT) (l : List FrT) (h a : Int) (d : List Int) : AnsF:=ansF c l h (if plF l a∧(elF l a).1=1∧(d.length : Int)=c.2.1 then setF l h a (vX9 (elF l a) d) else badF 2)
def xY2 (x : FrT) (d : List Int) : FrT:=(x.1,(x.2.1,(d,(x.2.2.2.1,(true,(true,()))))))
noncomputable def xY3 (c : CfgT) (l : List FrT) (h a : Int) (d : List Int) : AnsF:=ansF c l h (if plF l a∧(elF l a).1=2∧(d.length : Int)=c.2.1 then setF l h a (xY2 (elF l a) d) else badF 2)
def wWq (x : FrT) : FrT:=(x.1,(x.2.1,(x.2.2.1,(x.2.2.2.1,(x.2.2.2.2.1,(false,()))))))
noncomputable def wWr (c : CfgT) (l : List FrT) (h a : Int) : AnsF:=ansF c l h (if plF l a∧(elF l a).2.2.2.2.2.1=true then setF l h a (wWq (elF l a)) else badF 2)
def yZc (x : FrT) (cl n : Int) (r : Bool) : FrT:=(x.1,(x.2.1,(x.2.2.1,(x.2.2.2.1.set cl.toNat n,(r,(x.2.2.2.2.2.1,()))))))
noncomputable def pinA (c : CfgT) (l : List FrT) (h a cl : Int) : AnsF := ansF c l h
 (if plF l a∧clF c cl∧(elF l a).1≠0 then (if (elF l a).2.2.2.1.getD cl.toNat 0=8 then badF 260 else setF l h a (yZc (elF l a) cl ((elF l a).2.2.2.1.getD cl.toNat 0+1) true)) else badF 2)
noncomputable def wQb (c : CfgT) (l : List FrT) (h a cl : Int) : AnsF := ansF c l h
 (if plF l a∧clF c cl then (if (elF l a).1≠2∨(elF l a).2.2.2.1.getD cl.toNat 0=0 then badF 260 else setF l h a (yZc (elF l a) cl ((elF l a).2.2.2.1.getD cl.toNat 0 - 1) (elF l a).2.2.2.2.1)) else badF 2)
theorem zXo {l : List FrT} {a : Nat} (h : a < l.length) : elF l a=l[a]:=by simp [elF,List.getD,h]
theorem yQ1 {c : CfgT} {l : List FrT} {h : Int} (hs : zWo l) : zW9 (c,l,h,())=some (chkF c l h) :=
 yYi c l h (by have:=hs.1; omega) (fun x hx=>by have:=hs.2 x hx; omega)
theorem yZ2 (c : CfgT) (a : Int) : zX1 (c,a)=some (decide (clF c a)):=by
 unfold zX1 clF
 by_cases h0 : a ≥ 0
 ·refine zQe (decide_eq_true h0) ?_
  simp only [Dat.zQd,Dat.ilt]
  congr 1
  by_cases h1 : a < c.2.2.2.2.2.2.1<;>simp [h1]; omega
 ·refine zQf (decide_eq_false h0) ?_
  congr 1
  exact (decide_eq_false (by omega)).symm
theorem zJv (l : List FrT) (h a : Int) : zWl ((l,h,()),a)=some (decide (plF l a)):=zJ8 l h a
theorem wQi {α : Type} {M : List α} {n : Nat} (h : M.length=n) : Dat.seg M 0 n=M:=by subst h; simp [Dat.seg]
theorem find_ok (c : CfgT) (l : List FrT) (h pg : Int) (hs : zWo l) :
  yQx (c,(l,h,()),pg)=some (if chkF c l h=0 then (match atF l pg with | some i=>((i : Int),true) | none=>(0,false)) else (0,false)):=by
 unfold yQx
 dsimp only
 refine zQj (yQ1 hs) ?_
 by_cases hc : chkF c l h=0
 ·rw [if_pos hc]
  refine zQf (by simp [Dat.ine,hc]) ?_
  refine zWm (fun (s : Int)=>∃ i : Nat,s=i∧i≤l.length∧∀ j (hj : j < l.length),j < i→¬ (l[j].1≠0∧l[j].2.1=pg)) (fun s=>l.length - s.toNat) ?_ ⟨0,rfl,Nat.zero_le _,fun _ _ h=>absurd h (Nat.not_lt_zero _)⟩ (yWf _ _ (by have:=hs.1; omega))
  rintro s k ⟨i,rfl,hi,hno⟩ hk
  by_cases hlt : i < l.length
  ·refine zQe (decide_eq_true (by simp only [Dat.ofN, Dat.len]; omega)) ?_
   refine zQa (show Dat.Ix (i : Int) (Dat.len l) from ⟨by omega,by simp only [Dat.len]; omega⟩) ?_
   refine zQc (fget l hlt) ?_
   have go : ¬ (l[i].1≠0∧l[i].2.1=pg)→k ((i : Int)+1)=some (match atF l pg with | some i=>((i : Int),true) | none=>(0,false)):=fun hn =>
    hk _ ⟨i+1,rfl,hlt,fun j hj hji=>by
     by_cases e : j=i
     ·subst e; exact hn
     ·exact hno j hj (by omega)⟩ (by omega)
   by_cases h0 : l[i].1=0
   ·refine zQf (by simp [Dat.ine, h0]) ?_
    refine zQc (zYe (x:=Dat.add (i : Int) 1) (by simp only [Dat.add]; have:=hs.1; omega)) ?_
    exact go (fun hx=>hx.1 h0)
   ·refine zQe (by simp [Dat.ine, h0]) ?_
    by_cases hp : l[i].2.1=pg
    ·refine zQe (by simp [Dat.zQd, Dat.ieq, hp]) ?_
     have : atF l pg=some i:=by
      unfold atF
      rw [List.findIdx?_eq_some_iff_getElem]
      exact ⟨hlt,decide_eq_true ⟨h0,hp⟩,fun j hj=>by simp only [decide_eq_true_eq]; exact hno j (by omega) hj⟩
     rw [this]
     show some (Dat.imax true (i : Int) 0,Dat.ige (i : Int) 0)=some ((i : Int),true)
     have e1 : Dat.imax true (i : Int) 0=i:=by
      simp only [Dat.imax,if_true]
      rw [if_neg (by omega)]
     have e2 : Dat.ige (i : Int) 0=true:=decide_eq_true (by omega)
     rw [e1,e2]
    ·refine zQf (by simp [Dat.zQd, Dat.ieq, hp]) ?_
     refine zQc (zYe (x:=Dat.add (i : Int) 1) (by simp only [Dat.add]; have:=hs.1; omega)) ?_
     exact go (fun hx=>hp hx.2)
  ·refine zQf (decide_eq_false (by simp only [Dat.ofN, Dat.len]; omega)) ?_
   have : atF l pg=none:=by
    unfold atF
    rw [List.findIdx?_eq_none_iff]
    intro x hx
    obtain ⟨j,hj,rfl⟩:=List.getElem_of_mem hx
    exact decide_eq_false (hno j hj (by omega))
   rw [this]
   rfl
 ·rw [if_neg hc]
  exact zQe (by simp [Dat.ine,hc]) rfl
theorem row1 (l : List FrT) {j : Nat} (h : j < l.length) (t : List (List Int)) : (l.map (fun x : FrT=>x.2.2.1)++t)[j]?=some l[j].2.2.1:=by
 rw [List.getElem?_append_left (by simpa using h)]; simp [h]
theorem row2 (l : List FrT) {j : Nat} (h : j < l.length) (t : List (List Int)) : (l.map (fun x : FrT=>x.2.2.2.1)++t)[j]?=some l[j].2.2.2.1:=by
 rw [List.getElem?_append_left (by simpa using h)]; simp [h]
theorem row1n (l : List FrT) {j : Nat} (h : j < l.length) : (l.map (fun x : FrT=>x.2.2.1))[j]?=some l[j].2.2.1:=by simp [h]
theorem row2n (l : List FrT) {j : Nat} (h : j < l.length) : (l.map (fun x : FrT=>x.2.2.2.1))[j]?=some l[j].2.2.2.1:=by simp [h]
theorem end1 {β : Type} {l : List FrT} (hs : zWo l) (h0 : 0 < l.length) {A : Option β} {K : List MFr → Option β} {r : β} (hk : K (mixF l.length l) = some r) :
  (if Dat.Le (Dat.addN 0 (Dat.len l)) (Dat.len (mixF l.length l)) then (if Dat.Le (Dat.addN 0 0) (Dat.len ([] : List FrT)) then (if Dat.EqN (Dat.len (Dat.seg (mixF l.length l) 0 (Dat.len l))) 0 then A
   else if Dat.Big (Dat.len ([] : List MFr)) (Dat.len (Dat.seg (mixF l.length l) 0 (Dat.len l))) 72 then none else Dat.bnd (Dat.app ([] : List MFr) (Dat.seg (mixF l.length l) 0 (Dat.len l))) K) else none) else none)=some r:=by
 have hsg : Dat.seg (mixF l.length l) 0 (Dat.len l)=mixF l.length l:=wQi (zQs _ _)
 rw [hsg]
 refine zQa (by simp [Dat.Le,Dat.addN,Dat.len,zQs]) (zQa (Nat.le_refl _) (iteN (by simp only [Dat.EqN,Dat.len,zQs]; omega) (zXg (xZu (by simp [Dat.len]) (by simp only [Dat.len,zQs]; have:=hs.1; omega) (by omega)) ?_)))
 exact zQc (List.nil_append _) hk
theorem xXu {l : List FrT} (hs : zWo l) : ¬ Dat.Big (Dat.len (Dat.seg ([] : List FrT) 0 0)) (Dat.len l) 72:=xZu (by simp [Dat.len,Dat.seg]) (by simp only [Dat.len]; have:=hs.1; omega) (by omega)
theorem yQv {a n : Nat} (h : a < n) : Dat.In (a : Int) n:=⟨by omega,by omega⟩
theorem zKl {a n : Nat} (h : a < n) : Dat.Lt (Dat.addN 0 (Dat.toN (a : Int))) n:=by simp only [Dat.Lt,Dat.addN,Dat.toN]; omega
theorem zYg (a : Nat) : Dat.addN 0 (Dat.toN (a : Int))=a:=by simp [Dat.addN,Dat.toN]
theorem yZz {l : List FrT} {a : Nat} (h : a < l.length) (z : MFr) : Dat.get (mixF l.length l) (Dat.addN 0 (Dat.toN (a : Int))) z=zYf a l[a]:=by
 rw [uWo _ (by rw [zQs]; exact h),yQq,if_pos h]
end Go.Proofs.Ytablhcjjfiepaaa
