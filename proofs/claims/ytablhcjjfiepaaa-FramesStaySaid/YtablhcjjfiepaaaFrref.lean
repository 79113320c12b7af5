/- Frames: the document's copies. -/
import Derived.Test.YtablhcjjfiepaaaFrtwin
import Derived.Test.YtablhcjjfiepaaaMix
namespace Go.Proofs.Ytablhcjjfiepaaa
open Go.Eng
set_option linter.unusedVariables false
set_option linter.unusedSimpArgs false
theorem ref25_TwinFrame_spec (x : FrT) (h1 : x.2.2.1.length ≤ 1000) (h2 : x.2.2.2.1.length ≤ 1000) :
  ref25_TwinFrame (x.1,(x.2.1,(x.2.2.1,(x.2.2.2.1,(x.2.2.2.2.1,(x.2.2.2.2.2.1,()))))))=some x:=by
 unfold ref25_TwinFrame
 dsimp only
 refine ite_some (Nat.le_refl _) (ite_none (big20 (by simp [Dat.len,Dat.seg]) (by simp only [Dat.len]; omega) (by omega)) ?_)
 refine ite_some (Nat.le_refl _) (ite_none (big20 (by simp [Dat.len,Dat.seg]) (by simp only [Dat.len]; omega) (by omega)) ?_)
 rfl
theorem ref25_Twin_spec (l : List FrT) (h : Int) (hs : smallF l) : ref25_Twin (l, h, ()) = some (l, h, ()) := by
 unfold ref25_Twin
 dsimp only
 refine loop_inv (fun (s : Int×(List (List FrT)×(MixE FrT×Int)))=>∃ i : Nat,s.1=i∧i≤l.length∧GR s.2.1 s.2.2.1 (l.take i)∧s.2.2.2=h) (fun s=>l.length - s.1.toNat) ?_ ⟨0,rfl,Nat.zero_le _,gr_new,rfl⟩ (mu_lt _ _ (by have:=hs.1; omega))
 rintro ⟨s1,m,d,s4⟩ k ⟨i,rfl,hi,hg,rfl⟩ hk
 dsimp only at hk hg ⊢
 by_cases hlt : i < l.length
 ·have hsm := hs.2 _ (List.getElem_mem hlt)
  refine cond_t (decide_eq_true (by simp only [Dat.ofN,Dat.len]; omega)) ?_
  refine ite_some (show Dat.Ix (i : Int) (Dat.len l) from ⟨by omega,by simp only [Dat.len]; omega⟩) ?_
  refine bnd_to (fget l hlt) ?_
  refine bind_to (ref25_TwinFrame_spec l[i] (by omega) (by omega)) ?_
  refine ite_some (Nat.le_refl _) ?_
  refine ite_some (gr_gr hg) ?_
  refine iteN (by simp [Dat.len,Dat.seg]) ?_
  have hti : (l.take i).length=i:=by rw [List.length_take]; omega
  refine ite_none (big20 (by rw [gr_len hg,hti]; have:=hs.1; omega) (by simp [Dat.len,Dat.seg]) (by omega)) ?_
  have hn:=gr_app hg [l[i]]
  rw [← List.take_succ_eq_append_getElem hlt] at hn
  refine bnd_to rfl ?_
  refine bnd_to rfl ?_
  refine bnd_to (wrapI (x:=Dat.add (i : Int) 1) (by simp only [Dat.add]; have:=hs.1; omega)) ?_
  exact hk _ ⟨i+1,rfl,hlt,hn,rfl⟩ (by simp only [Dat.add]; omega)
 ·refine cond_f (decide_eq_false (by simp only [Dat.ofN, Dat.len]; omega)) ?_
  refine ite_some (gr_w hg) ?_
  refine bnd_to (gr_get hg) ?_
  rw [List.take_of_length_le (by omega)]
end Go.Proofs.Ytablhcjjfiepaaa
