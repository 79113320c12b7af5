/- StashOrder answers true. -/
import Derived.Test.YtampmlalpifkoaaStashA
namespace Go.Proofs.Ytampmlalpifkoaa
open Go.Eng
set_option linter.unusedVariables false
set_option linter.unusedSimpArgs false
theorem put_comm : ∀ (s : List Blk) (a b : Blk), a.1 ≠ b.1 → s.Pairwise (fun x y => x.1 < y.1) → fdS s a.1 = none → fdS s b.1 = none → putR (putR s a) b = putR (putR s b) a
 | [],a,b,h,_,_,_=>by
  simp only [putR]
  by_cases h1 : a.1 < b.1
  ·rw [if_pos h1,if_neg (by omega),if_neg (by omega)]
  ·rw [if_neg h1,if_neg h,if_pos (by omega)]
 | x::l,a,b,h,hp,ha,hb=>by
  rw [List.pairwise_cons] at hp
  unfold fdS at ha hb
  have xa : x.1≠a.1:=fun e=>by rw [List.find?_cons_of_pos (by simp [e])] at ha; cases ha
  have xb : x.1≠b.1:=fun e=>by rw [List.find?_cons_of_pos (by simp [e])] at hb; cases hb
  rw [List.find?_cons_of_neg (by simp [xa])] at ha
  rw [List.find?_cons_of_neg (by simp [xb])] at hb
  have ih:=put_comm l a b h hp.2 ha hb
  by_cases h1 : x.1 < a.1
  ·by_cases h2 : x.1 < b.1
   ·simp only [putR,if_pos h1,if_pos h2,ih]
   ·have h3 : ¬ b.1 = x.1 := fun e => xb e.symm
    have h4 : b.1 < a.1:=by omega
    simp only [putR,if_pos h1,if_neg h2,if_neg xb,if_pos h4]
  ·by_cases h2 : x.1 < b.1
   ·have h4 : a.1 < b.1 := by omega
    simp only [putR,if_neg h1,if_neg xa,if_pos h2,if_pos h4]
   ·by_cases h4 : a.1 < b.1
    ·simp only [putR,if_neg h1,if_neg xa,if_neg h2,if_neg xb,if_pos h4,if_neg (show ¬ b.1 < a.1 by omega),if_neg (show ¬ b.1=a.1 from fun e=>h e.symm)]
    ·simp only [putR,if_neg h1,if_neg xa,if_neg h2,if_neg xb,if_neg h4,if_pos (show b.1 < a.1 by omega),if_neg h]
def okA (B S H W : Int) (s : List Blk) (b : Blk) : Bool:=decide (fdS s b.1=none)&&decide (zZm B S H W b.1 b.2.1 b.2.2.1=0)
theorem xQq (B S H W : Int) (s : List Blk) (a : Blk) : aS B S H W s [a]=if ckS B S H W s=0∧okA B S H W s a=true then (putR s a,0) else ([],8):=by
 unfold aS okA
 by_cases h0 : ckS B S H W s=0
 ·rw [if_pos h0]
  simp only [addR]
  cases hf : fdS s a.1 with
  | some x=>simp
  | none =>
   by_cases hc : zZm B S H W a.1 a.2.1 a.2.2.1=0
   ·simp [hc,h0]
   ·simp [hc]
 ·rw [if_neg h0,if_neg (fun h=>h0 h.1)]
theorem xYw (B S H W : Int) (s : List Blk) (a b : Blk) : aS B S H W s [a,b]=if ckS B S H W s=0∧okA B S H W s a=true∧b.1≠a.1∧okA B S H W s b=true then (putR (putR s a) b,0) else ([],8):=by
 unfold aS okA
 by_cases h0 : ckS B S H W s=0
 ·rw [if_pos h0]
  simp only [addR]
  rw [yWq]
  cases hf : fdS s a.1 with
  | some x=>simp
  | none =>
   by_cases hc : zZm B S H W a.1 a.2.1 a.2.2.1=0
   ·by_cases hba : b.1 = a.1
    ·simp [hc,hba]
    ·rw [if_neg hba]
     cases hf2 : fdS s b.1 with
     | some x=>simp [hc]
     | none =>
      by_cases hc2 : zZm B S H W b.1 b.2.1 b.2.2.1=0
      ·simp [hc,hc2,h0,hba]
      ·simp [hc,hc2]
   ·simp [hc]
 ·rw [if_neg h0,if_neg (fun h=>h0 h.1)]
theorem yJ3 (B S H W : Int) (s : List Blk) (a b : Blk) : zX5 ((B,(S,(H,(W,())))),(s,(a,b)))=some true:=by
 unfold zX5
 dsimp only
 refine zQr vX0 ?_
 refine wX3 (fun j=>j=true∨(j=false∧s.length≤40)) (fun j hj=>?_) (fun k hk=>?_)
 ·rcases hj with rfl | ⟨rfl, hs⟩
  ·exact zQy rfl rfl
  refine zWe rfl ?_
  refine zQo (Qf _) (zQr (zZ1 B S H W s [a,b] (by show s.length+2≤1000000; omega)) ?_)
  refine zQo (Qf _) (zQr (zZ1 B S H W s [b,a] (by show s.length+2≤1000000; omega)) ?_)
  refine zQo (Qf _) (zQr (zZ1 B S H W s [a] (by show s.length+1≤1000000; omega)) ?_)
  have hz : (aS B S H W s [a]).1.length≤1000:=by
   rw [xQq]
   split
   ·rename_i h
    have hp:=(yXe.1 (yX4 h.1).2).2
    show (putR s a).length≤1000
    rw [xQ5 s a hp]; split<;>omega
   ·show 0≤1000; omega
  refine zQo (Qf _) (zQr (zZ1 B S H W (aS B S H W s [a]).1 [b] (by show (aS B S H W s [a]).1.length+1≤1000000; omega)) ?_)
  by_cases hok : ckS B S H W s=0∧okA B S H W s a=true∧b.1≠a.1∧okA B S H W s b=true
  ·obtain ⟨h0, ka, hne, kb⟩ := hok
   have hp:=(yXe.1 (yX4 h0).2).2
   have ka':=ka
   have kb':=kb
   unfold okA at ka' kb'
   rw [Qb,decide_eq_true_eq,decide_eq_true_eq] at ka' kb'
   have e1 : aS B S H W s [a,b]=(putR (putR s a) b,0):=by rw [xYw,if_pos ⟨h0,ka,hne,kb⟩]
   have e2 : aS B S H W s [b,a]=(putR (putR s a) b,0):=by rw [xYw,if_pos ⟨h0,kb,fun e=>hne e.symm,ka⟩,put_comm s a b (fun e=>hne e.symm) hp ka'.1 kb'.1]
   have e3 : aS B S H W s [a]=(putR s a,0):=by rw [xQq,if_pos ⟨h0,ka⟩]
   have hck:=xYt h0 ka'.2
   have okb : okA B S H W (putR s a) b=true:=by
    unfold okA
    rw [yWq,if_neg hne,decide_eq_true kb'.1,decide_eq_true kb'.2]; rfl
   have e4 : aS B S H W (putR s a) [b]=(putR (putR s a) b,0):=by rw [xQq,if_pos ⟨hck,okb⟩]
   have l1 : (putR s a).length=s.length+1:=by rw [xQ5 s a hp,ka'.1]; rfl
   have l2 : (putR (putR s a) b).length=s.length+2:=by rw [xQ5 _ b (yXl hp),yWq,if_neg hne,kb'.1,l1]; rfl
   have hckx:=xYt hck kb'.2
   rw [e1,e2,e3,e4]
   generalize putR (putR s a) b=x at *
   refine zWe rfl ?_
   refine wX3 (fun j=>j=true) (fun j hj=>by rw [hj]) (fun k hk=>?_)
   refine zQy rfl (zQy rfl (zQy rfl (zQy rfl ?_)))
   refine zQr (zK5 x (by omega)) (zQy rfl ?_)
   refine zQr (zK5 x (by omega)) (zQy rfl ?_)
   refine zQx (y:=((s.length+2 : Nat) : Int)) ((yZs (by simp only [Z.add,Z.ofN,Z.len]; omega)).trans (by simp only [Z.add,Z.ofN,Z.len]; omega)) ?_
   refine zQy (by show (if true=true then Z.ieq (x.length : Int) ((s.length+2 : Nat) : Int) else false)=true; rw [l2]; simp [Z.ieq]) ?_
   refine zQr (zKi B S H W x (by omega)) ?_
   rw [hckx]
   exact hk _ rfl
  ·have hok2 : ¬ (ckS B S H W s = 0 ∧ okA B S H W s b = true ∧ a.1 ≠ b.1 ∧ okA B S H W s a = true) := fun ⟨h1, h2, h3, h4⟩ => hok ⟨h1, h4, fun e => h3 e.symm, h2⟩
   have e1 : aS B S H W s [a,b]=([],8):=by rw [xYw,if_neg hok]
   have e2 : aS B S H W s [b,a]=([],8):=by rw [xYw,if_neg hok2]
   rw [e1,e2]
   refine zQy rfl ?_
   refine wX3 (fun j=>j=true) (fun j hj=>by rw [hj]) (fun k hk=>?_)
   refine zQy rfl (zQy rfl ?_)
   by_cases hz2 : ckS B S H W s=0∧okA B S H W s a=true
   ·have e3 : aS B S H W s [a] = (putR s a, 0) := by rw [xQq, if_pos hz2]
    have ka':=hz2.2
    unfold okA at ka'
    rw [Qb,decide_eq_true_eq,decide_eq_true_eq] at ka'
    have hck:=xYt hz2.1 ka'.2
    have okb : ¬ (ckS B S H W (putR s a)=0∧okA B S H W (putR s a) b=true):=fun ⟨_,hh⟩=>by
     unfold okA at hh
     rw [yWq,Qb,decide_eq_true_eq,decide_eq_true_eq] at hh
     by_cases hba : b.1=a.1
     ·rw [if_pos hba] at hh; cases hh.1
     ·rw [if_neg hba] at hh
      exact hok ⟨hz2.1,hz2.2,hba,by unfold okA; rw [decide_eq_true hh.1,decide_eq_true hh.2]; rfl⟩
    have e4 : aS B S H W (putR s a) [b]=([],8):=by rw [xQq,if_neg okb]
    rw [e3,e4]
    exact zWe rfl (hk _ rfl)
   ·have e3 : aS B S H W s [a] = ([], 8) := by rw [xQq, if_neg hz2]
    rw [e3]
    exact zQy rfl (hk _ rfl)
 ·refine zQr (yZw s 40) ?_
  cases hg : grtS s 40 with
  | true=>exact zQy rfl (hk _ (.inl rfl))
  | false =>
   have hs : s.length≤40:=by
    unfold grtS at hg
    rw [Bool.or_eq_false_iff] at hg
    have:=of_decide_eq_false hg.1
    omega
   refine zWe rfl ?_
   by_cases hc : (a.2.2.1.length : Int) > 1000
   ·exact zQy (by simp [Z.zQz,Z.igt]; omega) (hk _ (.inl rfl))
   ·refine zWe (by simp [Z.zQz, Z.igt]; omega) ?_
    by_cases hc : (b.2.2.1.length : Int) > 1000
    ·exact zQy (by simp [Z.zQz,Z.igt]; omega) (hk _ (.inl rfl))
    ·exact zWe (by simp [Z.zQz,Z.igt]; omega) (hk _ (.inr ⟨rfl,hs⟩))
theorem zYx (d : Els zXr.args) (hf : Fits zXr.args d) : zX5 d=some true:=by
 obtain ⟨⟨B,S,H,W,_⟩,s,a,b⟩:=d
 exact yJ3 B S H W s a b
end Go.Proofs.Ytampmlalpifkoaa
