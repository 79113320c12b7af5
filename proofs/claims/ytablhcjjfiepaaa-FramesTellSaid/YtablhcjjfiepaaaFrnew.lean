/- Frames: free ones, by the document. -/
import Derived.Test.YtablhcjjfiepaaaFrtell2
namespace Go.Proofs.Ytablhcjjfiepaaa
open Go.Eng
set_option linter.unusedVariables false
set_option linter.unusedSimpArgs false
def xWi (c : CfgT) : FrT:=(0,(0,([],(List.replicate c.2.2.2.2.2.2.1.toNat 0,(false,(false,()))))))
theorem xQu (c : CfgT) (hm : Dat.MkOk c.2.2.2.2.2.2.1 c.2.2.2.2.2.2.1 8) : zYp c=some (xWi c):=by
 unfold zYp
 refine zQb hm (zQb (by simp [Dat.Le,Dat.addN,Dat.len,Dat.rep]) ?_)
 simp [Dat.seg,Dat.rep,Dat.toN,xWi]
theorem vQ0 {c : CfgT} (hm : mayB c=true) : (2≤c.2.2.2.2.2.1∧c.2.2.2.2.2.1≤1000∨0≤c.2.2.2.2.2.1∧c.2.2.2.2.2.1≤1000)∧0≤c.2.2.2.2.2.2.1∧c.2.2.2.2.2.2.1≤1000:=by
 have hn : xWh c=true:=by simp only [mayB,Bool.and_eq_true] at hm; exact hm.1
 simp only [xWh,bndS,okB,List.all_cons,List.all_nil,Bool.and_eq_true,decide_eq_true_eq,Bool.and_true] at hn
 obtain ⟨h1,h2,h3,h4,h5,h6,h7,h8,h9⟩:=hn
 have a:=h7.1; have b:=h7.2; have d:=h6.1; have e:=h6.2
 exact ⟨.inr ⟨by omega,by omega⟩,by omega,by omega⟩
def yJm (c : CfgT) : List FrT:=List.replicate c.2.2.2.2.2.1.toNat (xWi c)
theorem xQv (c : CfgT) (hm : mayB c=true) : yW5 c=some (yJm c,(0,())):=by
 obtain ⟨hf,hc0,hc1⟩:=vQ0 hm
 have hf0 : 0≤c.2.2.2.2.2.1∧c.2.2.2.2.2.1≤1000:=by omega
 obtain ⟨n,hn⟩ : ∃ n : Nat,c.2.2.2.2.2.1=n:=⟨c.2.2.2.2.2.1.toNat,by omega⟩
 have hmk : Dat.MkOk c.2.2.2.2.2.2.1 c.2.2.2.2.2.2.1 8:=Dat.xQd.2 (by omega)
 have hfr : yJm c=List.replicate n (xWi c):=by rw [yJm,hn]; rfl
 unfold yW5
 refine zQb rfl ?_
 refine zQ2 (fun (s : Int×(List FrT×Int))=>∃ i : Nat,s=((i : Int),(List.replicate i (xWi c),0))∧i≤n) (fun s=>n - s.1.toNat) ?_ ⟨0,rfl,Nat.zero_le _⟩ (zK1 _ _ (by omega))
 rintro s k ⟨i,rfl,hi⟩ hk
 dsimp only at hk ⊢
 by_cases hlt : i < n
 ·have hi1 : Dat.wrap .i64 (Dat.add (i : Int) 1) = ((i + 1 : Nat) : Int) := (zZh (x := Dat.add (i : Int) 1) (by simp only [Dat.add]; omega)).trans (by simp [Dat.add])
  refine zQi (decide_eq_true (by omega)) ?_
  refine zQp (xQu c hmk) ?_
  refine zQb (by simp [Dat.Le,Dat.len]) ?_
  refine zXh (yJt (by simp only [Dat.len,List.length_replicate]; omega) (by simp [Dat.len,Dat.seg]) (by omega)) ?_
  refine zQb rfl (zQe (y:=List.replicate (i+1) (xWi c)) ?_ (zQe hi1 (zQb rfl ?_)))
  ·rw [List.replicate_succ']
   rfl
  ·exact hk _ ⟨i+1,rfl,hlt⟩ (by simp only []; omega)
 ·have e : i = n := by omega
  subst e
  refine zQh (decide_eq_false (by omega)) ?_
  rw [hfr]
theorem xXn (c : CfgT) : yZs c=some (if mayB c=true then ((yJm c,(0,())),0) else (([],(0,())),8)):=by
 unfold yZs
 refine zQp (yXt c) ?_
 cases hm : mayB c with
 | false=>exact zQi rfl rfl
 | true =>
  refine zQh rfl ?_
  exact zQp (xQv c hm) rfl
theorem xWy (c : CfgT) : yXi c=some (if mayB c=true then ((yJm c,(0,())),0) else (([],(0,())),8)):=by
 unfold yXi
 refine zQp (yWw c) ?_
 cases hm : mayB c with
 | false=>exact zQi rfl rfl
 | true =>
  refine zQh rfl ?_
  obtain ⟨hf,hc0,hc1⟩:=vQ0 hm
  have hf0 : 0≤c.2.2.2.2.2.1∧c.2.2.2.2.2.1≤1000:=by omega
  obtain ⟨n,hn⟩ : ∃ n : Nat,c.2.2.2.2.2.1=n:=⟨c.2.2.2.2.2.1.toNat,by omega⟩
  have hmk : Dat.MkOk c.2.2.2.2.2.2.1 c.2.2.2.2.2.2.1 8:=Dat.xQd.2 (by omega)
  have hfr : yJm c=List.replicate n (xWi c):=by rw [yJm,hn]; rfl
  refine zQb rfl ?_
  refine zQ2 (fun (s : Int×(List FrT×Int))=>∃ i : Nat,s=((i : Int),(List.replicate i (xWi c),0))∧i≤n) (fun s=>n - s.1.toNat) ?_ ⟨0,rfl,Nat.zero_le _⟩ (zK1 _ _ (by omega))
  rintro s k ⟨i,rfl,hi⟩ hk
  dsimp only at hk ⊢
  by_cases hlt : i < n
  ·have hi1 : Dat.wrap .i64 (Dat.add (i : Int) 1) = ((i + 1 : Nat) : Int) := (zZh (x := Dat.add (i : Int) 1) (by simp only [Dat.add]; omega)).trans (by simp [Dat.add])
   refine zQi (decide_eq_true (by omega)) ?_
   refine zQb hmk ?_
   refine zQb (by simp [Dat.Le,Dat.addN,Dat.len,Dat.rep]) ?_
   refine zXh (yJt (by simp only [Dat.len,List.length_replicate]; omega) (by simp [Dat.len,Dat.seg]) (by omega)) ?_
   refine zQb rfl (zQe (y:=List.replicate (i+1) (xWi c)) ?_ (zQe hi1 (zQb rfl ?_)))
   ·rw [List.replicate_succ']
    simp [Dat.app,Dat.seg,Dat.rep,Dat.toN,xWi]
   ·exact hk _ ⟨i+1,rfl,hlt⟩ (by simp only []; omega)
  ·have e : i = n := by omega
   subst e
   refine zQh (decide_eq_false (by omega)) ?_
   rw [if_pos rfl,hfr]
end Go.Proofs.Ytablhcjjfiepaaa
