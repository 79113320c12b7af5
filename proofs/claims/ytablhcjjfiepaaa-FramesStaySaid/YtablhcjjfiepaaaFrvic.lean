/- Frames: what the clock takes. -/
import Derived.Test.YtablhcjjfiepaaaFrclk
import Derived.Test.YtablhcjjfiepaaaFrtwin
namespace Go.Proofs.Ytablhcjjfiepaaa
open Go.Eng
set_option linter.unusedVariables false
set_option linter.unusedSimpArgs false
def vicS (l : List FrT) (h : Int) : (List FrT × (Int × Unit)) × (Int × Int) :=
 match clk l.length h.toNat (2 * l.length) 0 l with
 | (L,some p)=>((L,(((p+1) % l.length : Nat) : Int),()),(p : Int),0)
 | (_,none)=>(([],0,()),0,250)
theorem vic_1 (x : FrT) : frames_Victim_1 (x.1,(x.2.1,(x.2.2.1,(x.2.2.2.1,(x.2.2.2.2.1,(x.2.2.2.2.2.1,()))))))=some (clr x):=rfl
theorem getD_get (L : List FrT) {p : Nat} (h : p < L.length) : L.getD p noF=L[p]:=by simp [List.getD,h]
theorem frames_Victim_spec (c : CfgT) (l : List FrT) (h : Int) (hs : smallF l) (hc : chkF c l h = 0) : frames_Victim (c, l, h, ()) = some (vicS l h) := by
 obtain ⟨hm,hn,⟨hh0,hh1⟩,hall,hnd⟩:=chkF_ok hc
 have hl0 : 0 < l.length:=by omega
 have hl20:=hs.1
 have hck : frames_Check (c,l,h,())=some 0:=by rw [frames_Check_spec c l h (by omega) (fun x hx=>by have:=hs.2 x hx; omega),hc]
 unfold frames_Victim
 dsimp only
 refine bind_to hck ?_
 refine cond_f rfl ?_
 refine bind_to (frames_Twin_spec l h hs hl0) ?_
 refine iteN (show ¬ l.length=0 by omega) ?_
 refine bnd_to (y:=2 * (l.length : Int)) (wrapI (x:=Dat.mul 2 (Dat.ofN (Dat.len l))) (by simp only [Dat.mul,Dat.ofN,Dat.len]; omega)) ?_
 refine ite_some (by simp [Dat.Le]) ?_
 have hseg : Dat.seg l 0 (Dat.len l)=l:=by simp [Dat.seg,Dat.len]
 dsimp only
 rw [hseg]
 obtain ⟨hN,hNe⟩ : ∃ n : Nat,h=n:=⟨h.toNat,by omega⟩
 subst hNe
 have hhn : ((hN : Int)).toNat=hN:=by simp
 refine loop_inv (fun (s : Int × (List FrT × Int)) => ∃ (i m : Nat), s.1 = i ∧ i + m = 2 * l.length ∧ s.2.2 = hN ∧ s.2.1.length = l.length ∧ smallF s.2.1 ∧ clk l.length hN m i s.2.1 = clk l.length hN (2 * l.length) 0 l)
  (fun s=>2 * l.length - s.1.toNat) ?_ ⟨0,2 * l.length,rfl,by omega,rfl,rfl,hs,rfl⟩ (by simp only []; omega)
 rintro ⟨s1,L,s3⟩ k ⟨i,m,rfl,him,rfl,hL,hsm,hcl⟩ hk
 dsimp only at hL hsm hcl hk ⊢
 by_cases hi : i < 2 * l.length
 ·obtain ⟨m, rfl⟩ : ∃ q, m = q + 1 := ⟨m - 1, by omega⟩
  have hp : (hN+i) % l.length < L.length:=by rw [hL]; exact Nat.mod_lt _ hl0
  rw [clk,getD_get L hp] at hcl
  refine cond_t (decide_eq_true (by omega)) ?_
  refine bnd_to (y:=((hN+i : Nat) : Int)) ((wrapI (x:=Dat.add (hN : Int) (i : Int)) (by simp only [Dat.add]; omega)).trans (by simp [Dat.add])) ?_
  refine ite_none (show ¬ ((l.length : Int)=0) by omega) ?_
  refine bnd_to (y:=(((hN+i) % l.length : Nat) : Int)) (by simp only [Dat.tmod,Dat.ofN,Dat.len]; exact (Int.ofNat_tmod _ _).symm) ?_
  generalize (hN+i) % l.length=p at hp hcl
  have hix : Dat.Ix (p : Int) (Dat.len L):=⟨by omega,by simp only [Dat.len]; omega⟩
  refine ite_some hix ?_
  refine bnd_to (fget L hp) ?_
  have hi1 : Dat.wrap .i64 (Dat.add (i : Int) 1)=((i+1 : Nat) : Int):=(wrapI (x:=Dat.add (i : Int) 1) (by simp only [Dat.add]; omega)).trans (by simp [Dat.add])
  have hsp:=hsm.2 _ (List.getElem_mem hp)
  by_cases k1 : L[p].1=1
  ·refine cond_t (decide_eq_true k1) ?_
   refine bnd_to hi1 ?_
   rw [if_pos (by simp [skipB,k1])] at hcl
   exact hk _ ⟨i+1,m,rfl,by omega,rfl,hL,hsm,hcl⟩ (by simp only []; omega)
  ·refine cond_f (decide_eq_false k1) ?_
   refine bind_to (frames_isPinned_spec L[p] (by omega)) ?_
   cases hpin : pinB L[p].2.2.2.1 with
   | true =>
    refine cond_t rfl ?_
    refine bnd_to hi1 ?_
    rw [if_pos (by simp [skipB,hpin])] at hcl
    exact hk _ ⟨i+1,m,rfl,by omega,rfl,hL,hsm,hcl⟩ (by simp only []; omega)
   | false =>
    refine cond_f rfl ?_
    rw [if_neg (by simp [skipB,hpin,k1])] at hcl
    cases href : L[p].2.2.2.2.1 with
    | true =>
     rw [href,if_pos rfl] at hcl
     refine cond_t rfl ?_
     refine bind_to (cloneF_spec L (by omega)) ?_
     refine iteN (show ¬ L.length=0 by omega) ?_
     have hin : Dat.In (p : Int) (Dat.len L):=⟨by omega,by simp only [Dat.len]; omega⟩
     have hlt2 : Dat.Lt (Dat.addN 0 (Dat.toN (p : Int))) (Dat.len L):=by simp [Dat.Lt,Dat.len,hp]
     refine ite_some hin (ite_some hlt2 ?_)
     refine bnd_to (fget0 L hp) ?_
     refine bind_to (vic_1 L[p]) ?_
     refine ite_some hin (ite_some hlt2 ?_)
     refine bnd_to (y:=L.set p (clr L[p])) (by simp only [Dat.set,Dat.toN,Dat.addN]; simp) ?_
     refine bnd_to hi1 ?_
     refine ite_some (by simp [Dat.Le,Dat.len]) ?_
     have hsg : Dat.seg (L.set p (clr L[p])) 0 (Dat.len L) = L.set p (clr L[p]) := by
      simp only [Dat.seg,Dat.len,List.drop_zero]
      rw [List.take_of_length_le (by simp)]
     rw [hsg]
     refine hk _ ⟨i+1,m,rfl,by omega,rfl,by simpa using hL,⟨by simpa using hsm.1,fun x hx=>?_⟩,hcl⟩ (by simp only []; omega)
     rcases List.mem_or_eq_of_mem_set hx with hx | rfl
     ·exact hsm.2 x hx
     ·exact hsp
    | false =>
     rw [href,if_neg (by simp)] at hcl
     refine cond_f rfl ?_
     refine bnd_to (y:=((p+1 : Nat) : Int)) ((wrapI (x:=Dat.add (p : Int) 1) (by simp only [Dat.add]; omega)).trans (by simp [Dat.add])) ?_
     refine ite_none (show ¬ ((L.length : Int)=0) by omega) ?_
     refine bnd_to (y:=(((p+1) % l.length : Nat) : Int)) (by simp only [Dat.tmod,Dat.ofN,Dat.len,hL]; exact (Int.ofNat_tmod _ _).symm) ?_
     unfold vicS
     rw [hhn,← hcl]
 ·have hm0 : m = 0 := by omega
  subst hm0
  refine cond_f (decide_eq_false (by omega)) ?_
  unfold vicS
  rw [hhn,← hcl]
  rfl
end Go.Proofs.Ytablhcjjfiepaaa
