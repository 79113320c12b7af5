/- Frames: copies, and how large they are. -/
import Derived.Test.YtablhcjjfiepaaaFrames
import Derived.Test.YtablhcjjfiepaaaSame
import Derived.Test.YtablhcjjfiepaaaSameInts
namespace Go.Proofs.Ytablhcjjfiepaaa
open Go.Eng
set_option linter.unusedVariables false
set_option linter.unusedSimpArgs false
def smallF (l : List FrT) : Prop:=l.length≤20∧∀ x∈l,x.2.2.1.length≤100∧x.2.2.2.1.length≤20
theorem nbig {a b n : Nat} (h : (a + b) * (n + 1) ≤ 10000000000) : ¬ Dat.Big a b n := by
 simp only [Dat.Big]
 have : (2 : Nat) ^ 44=17592186044416:=by decide
 omega
theorem big20 {a b n : Nat} (ha : a ≤ 2000) (hb : b ≤ 2000) (hn : n ≤ 100) : ¬ Dat.Big a b n := by
 refine nbig (Nat.le_trans (Nat.mul_le_mul (show a+b≤4000 by omega) (show n+1≤101 by omega)) (by omega))
theorem cloneI_spec (x : List Int) (h : x.length ≤ 1000) : slices_Clone_int_int x = some x := by
  unfold slices_Clone_int_int
  refine ite_some (Nat.le_refl _) ?_
  first
  | (refine ite_none (big20 (by simp [Dat.len, Dat.seg]) (by simp only [Dat.len]; omega) (by omega)) ?_
     rfl)
  | (by_cases h0 : x.length = 0
     · refine iteP h0 ?_
       have : x=[]:=List.length_eq_zero_iff.1 h0
       subst this
       refine ite_some (Nat.le_refl _) rfl
     · refine iteN h0 (ite_none (big20 (by simp [Dat.len, Dat.seg]) (by simp only [Dat.len]; omega) (by omega)) ?_)
       refine ite_some (by simp [Dat.Le,Dat.len,Dat.seg,Dat.app]) ?_
       congr 1
       simp [Dat.seg,Dat.app,Dat.len])
theorem cloneB_spec (x : List Int) (h : x.length ≤ 1000) : slices_Clone_byte_byte x = some x := by
  unfold slices_Clone_byte_byte
  refine ite_some (Nat.le_refl _) ?_
  first
  | (refine ite_none (big20 (by simp [Dat.len, Dat.seg]) (by simp only [Dat.len]; omega) (by omega)) ?_
     rfl)
  | (by_cases h0 : x.length = 0
     · refine iteP h0 ?_
       have : x=[]:=List.length_eq_zero_iff.1 h0
       subst this
       refine ite_some (Nat.le_refl _) rfl
     · refine iteN h0 (ite_none (big20 (by simp [Dat.len, Dat.seg]) (by simp only [Dat.len]; omega) (by omega)) ?_)
       refine ite_some (by simp [Dat.Le,Dat.len,Dat.seg,Dat.app]) ?_
       congr 1
       simp [Dat.seg,Dat.app,Dat.len])
theorem cloneF_spec (l : List FrT) (h : l.length ≤ 1000) : slices_Clone_api_Frame_api_Frame l = some l := by
 unfold slices_Clone_api_Frame_api_Frame
 refine ite_some (Nat.le_refl _) ?_
 by_cases h0 : l.length=0
 ·refine iteP h0 ?_
  have : l=[]:=List.length_eq_zero_iff.1 h0
  subst this
  refine ite_some (Nat.le_refl _) rfl
 ·refine iteN h0 (ite_none (big20 (by simp [Dat.len, Dat.seg]) (by simp only [Dat.len]; omega) (by omega)) ?_)
  refine ite_some (by simp [Dat.Le,Dat.len,Dat.seg,Dat.app]) ?_
  congr 1
  simp [Dat.seg,Dat.app,Dat.len]
theorem fget0 (l : List FrT) {i : Nat} (h : i < l.length) : Dat.get l (Dat.addN 0 (Dat.toN (i : Int))) (0, (0, (([] : List Int), (([] : List Int), (false, (false, ())))))) = l[i] := by
 simp [Dat.get,Dat.toN,List.getD,h]
theorem frames_Twin_spec (l : List FrT) (h : Int) (hs : smallF l) (h0 : 0 < l.length) : frames_Twin (l, h, ()) = some (l, h, ()) := by
 unfold frames_Twin
 dsimp only
 refine bind_to (cloneF_spec l (by have:=hs.1; omega)) ?_
 refine iteN (show ¬ l.length=0 by omega) ?_
 refine loop_inv (fun (s : Int×List FrT)=>∃ i : Nat,s.1=i∧i≤l.length∧s.2=l) (fun s=>l.length - s.1.toNat) ?_ ⟨0,rfl,Nat.zero_le _,rfl⟩ (mu_lt _ _ (by have:=hs.1; omega))
 rintro ⟨s1,s2⟩ k ⟨i,rfl,hi,rfl⟩ hk
 dsimp only at hk ⊢
 by_cases hlt : i < s2.length
 ·have hin : Dat.In (i : Int) (Dat.len s2) := ⟨by omega, by simp only [Dat.len]; omega⟩
  have hl2 : Dat.Lt (Dat.addN 0 (Dat.toN (i : Int))) (Dat.len s2):=by simp [Dat.Lt,Dat.len,hlt]
  have hsm:=hs.2 _ (List.getElem_mem hlt)
  refine cond_t (decide_eq_true (by simp only [Dat.ofN,Dat.len]; omega)) ?_
  refine ite_some hin (ite_some hl2 ?_)
  refine bnd_to (fget0 s2 hlt) ?_
  refine bind_to (cloneB_spec _ (by omega)) ?_
  refine bind_to (cloneI_spec _ (by omega)) ?_
  refine ite_some hin (ite_some hl2 ?_)
  refine bnd_to (fget0 s2 hlt) ?_
  have hset : Dat.set s2 (Dat.addN 0 (Dat.toN (i : Int))) s2[i]=s2:=by simp [Dat.set,Dat.toN]
  refine bnd_to hset ?_
  refine ite_some hin (ite_some hl2 ?_)
  refine bnd_to (fget0 s2 hlt) ?_
  refine bnd_to hset ?_
  refine bnd_to (wrapI (x:=Dat.add (i : Int) 1) (by simp only [Dat.add]; have:=hs.1; omega)) ?_
  exact hk _ ⟨i+1,rfl,hlt,rfl⟩ (by simp only [Dat.add]; omega)
 ·refine cond_f (decide_eq_false (by simp only [Dat.ofN, Dat.len]; omega)) ?_
  refine ite_some (by simp [Dat.Le]) ?_
  congr 2
  simp [Dat.seg,Dat.len]
def bigX (x : FrT) : Bool:=decide (x.2.2.1.length > 100) || decide (x.2.2.2.1.length > 20)
def greatB (l : List FrT) : Bool:=(l.take 20).any bigX || decide (l.length > 20)
theorem greatB_small {l : List FrT} (h : greatB l = false) : smallF l := by
 unfold greatB at h
 simp only [Bool.or_eq_false_iff,decide_eq_false_iff_not] at h
 obtain ⟨h1,h2⟩:=h
 rw [List.take_of_length_le (by omega)] at h1
 refine ⟨by omega,fun x hx=>?_⟩
 have:=List.any_eq_false.1 h1 x hx
 simp only [bigX,Bool.or_eq_true,decide_eq_true_eq,not_or] at this
 omega
theorem ref25_Great_spec (l : List FrT) (h : Int) (hl : l.length ≤ 9223372036854775807) : ref25_Great (l, h, ()) = some (greatB l) := by
 unfold ref25_Great
 dsimp only
 refine loop_inv (fun (s : Int)=>∃ i : Nat,s=i∧i≤l.length∧i≤20∧(l.take i).any bigX=false) (fun s=>l.length - s.toNat) ?_ ⟨0,rfl,Nat.zero_le _,Nat.zero_le _,rfl⟩ (mu_lt _ _ (by omega))
 rintro s k ⟨i,rfl,hi,h20,ha⟩ hk
 have fin : (i = l.length ∨ i = 20) → greatB l = decide ((l.length : Int) > 20) := by
  intro hc
  unfold greatB
  have : (l.take 20).any bigX = false := by
   rcases hc with rfl | rfl
   ·rw [List.take_of_length_le (by omega)]; rw [List.take_of_length_le (Nat.le_refl _)] at ha; exact ha
   ·exact ha
  rw [this,Bool.false_or]
  by_cases h : l.length > 20<;>simp [h]<;>omega
 by_cases hlt : i < l.length
 ·refine cond_t (decide_eq_true (by simp only [Dat.ofN, Dat.len]; omega)) ?_
  by_cases h2 : i < 20
  ·refine cond_t (by simp only [Dat.pickB, Dat.ilt]; simp; omega) ?_
   have hix : Dat.Ix (i : Int) (Dat.len l):=⟨by omega,by simp only [Dat.len]; omega⟩
   refine ite_some hix ?_
   refine bnd_to (fget l hlt) ?_
   have hit : bigX l[i] = true → greatB l = true := fun hb => by
    unfold greatB
    have : (l.take 20).any bigX=true:=List.any_eq_true.2 ⟨l[i],List.mem_take_iff_getElem.2 ⟨i,by omega,rfl⟩,hb⟩
    rw [this]; rfl
   by_cases hd : l[i].2.2.1.length > 100
   ·refine cond_t (decide_eq_true (by simp only [Dat.ofN, Dat.len]; omega)) ?_
    rw [hit (by simp [bigX,hd])]
   ·refine cond_f (decide_eq_false (by simp only [Dat.ofN, Dat.len]; omega)) ?_
    refine ite_some hix ?_
    refine bnd_to (fget l hlt) ?_
    by_cases hp : l[i].2.2.2.1.length > 20
    ·refine cond_t (by simp only [Dat.pickB, Dat.igt, Dat.ofN, Dat.len]; simp; omega) ?_
     rw [hit (by simp [bigX,hp])]
    ·refine cond_f (by simp only [Dat.pickB, Dat.igt, Dat.ofN, Dat.len]; simp; omega) ?_
     refine bnd_to (wrapI (x:=Dat.add (i : Int) 1) (by simp only [Dat.add]; omega)) ?_
     refine hk _ ⟨i+1,rfl,hlt,h2, ?_⟩ (by simp only [Dat.add]; omega)
     rw [List.take_succ_eq_append_getElem hlt,List.any_append,ha]
     simp [bigX,hd,hp]
  ·refine cond_f (by simp only [Dat.pickB, Dat.ilt]; simp; omega) ?_
   rw [fin (.inr (by omega))]
 ·refine cond_f (decide_eq_false (by simp only [Dat.ofN, Dat.len]; omega)) ?_
  rw [fin (.inl (by omega))]
theorem ref25_Same_self (l : List FrT) (h : Int) (hs : smallF l) : ref25_Same ((l, h, ()), (l, h, ())) = some true := by
 unfold ref25_Same
 dsimp only
 refine cond_f (by simp [Dat.ine]) ?_
 refine cond_f (by simp [Dat.ine,Dat.pickB]) ?_
 refine loop_inv (fun (s : Int)=>∃ i : Nat,s=i∧i≤l.length) (fun s=>l.length - s.toNat) ?_ ⟨0,rfl,Nat.zero_le _⟩ (mu_lt _ _ (by have:=hs.1; omega))
 rintro s k ⟨i,rfl,hi⟩ hk
 by_cases hlt : i < l.length
 ·refine cond_t (decide_eq_true (by simp only [Dat.ofN, Dat.len]; omega)) ?_
  have hix : Dat.Ix (i : Int) (Dat.len l):=⟨by omega,by simp only [Dat.len]; omega⟩
  refine ite_some hix ?_
  refine bnd_to (fget l hlt) ?_
  refine ite_some hix ?_
  refine bnd_to (fget l hlt) ?_
  have hsm:=hs.2 _ (List.getElem_mem hlt)
  refine cond_f (by simp [Dat.ine]) ?_
  refine cond_f (by simp [Dat.ine,Dat.pickB]) ?_
  refine bind_to (ref01_Same_spec _ _) ?_
  refine cond_f (by simp [Dat.bnot,Dat.pickB]) ?_
  refine bind_to (ref01_SameInts_self _ (by omega)) ?_
  refine cond_f (by simp [Dat.bnot,Dat.pickB]) ?_
  refine cond_f (by simp [Dat.bnot,Dat.pickB,Dat.beq]) ?_
  refine cond_f (by simp [Dat.bnot,Dat.pickB,Dat.beq]) ?_
  refine bnd_to (wrapI (x:=Dat.add (i : Int) 1) (by simp only [Dat.add]; have:=hs.1; omega)) ?_
  exact hk _ ⟨i+1,rfl,hlt⟩ (by simp only [Dat.add]; omega)
 ·refine cond_f (decide_eq_false (by simp only [Dat.ofN, Dat.len]; omega)) ?_
  rfl
end Go.Proofs.Ytablhcjjfiepaaa
