/- Stashes: the loops. -/
import Derived.Test.YtampmlalpifkoaaStashP
namespace Go.Proofs.Ytampmlalpifkoaa
open Go.Eng
set_option linter.unusedVariables false
set_option linter.unusedSimpArgs false
theorem xWg {β : Type} {lo hi : Nat} {A : Int → Option β} {E : Option β} {r : β} (h : lo < hi) (hb : hi < 9223372036854775807) (hA : A ((lo + (hi - lo) / 2 : Nat) : Int) = some r) :
  (bif (Z.ilt (lo : Int) (hi : Int)) then Z.bnd (Z.wrap .i64 (Z.sub (hi : Int) (lo : Int))) fun (x4 : Int)=>if (Z.IsZ 2) then none else Z.bnd (Z.wrap .i64 (Z.tdiv x4 2)) fun (x7 : Int)=>Z.bnd (Z.wrap .i64 (Z.add (lo : Int) x7)) fun (x8 : Int)=>A x8 else E)=some r:=by
 refine zQ6 (decide_eq_true (by omega)) ?_
 refine zQu (y:=((hi - lo : Nat) : Int)) ((yJ5 (by simp only [Z.sub]; omega)).trans (by simp only [Z.sub]; omega)) ?_
 refine xYj (by show ¬ ((2 : Int)=0); decide) ?_
 refine zQu (y:=(((hi - lo) / 2 : Nat) : Int)) ?_ ?_
 ·have e : Z.tdiv ((hi - lo : Nat) : Int) 2 = (((hi - lo) / 2 : Nat) : Int) := Int.ofNat_tdiv _ 2
  rw [e,yJ5 (by omega)]
 ·refine zQu (y := ((lo + (hi - lo) / 2 : Nat) : Int)) ((yJ5 (by simp only [Z.add]; omega)).trans (by simp only [Z.add]; omega)) ?_
  exact hA
theorem bis {β : Type} {f : Int × Int → (Int × Int → Option β) → Option β} {s : List Blk} {id : Int} {n : Int} {r : β} (hl : s.length < 9223372036854775807) (hn : n = (s.length : Int)) (hp : s.Pairwise (fun x y => x.1 < y.1))
  (step : ∀ (lo hi : Nat) (k : Int × Int → Option β), lo < hi → hi ≤ s.length → ∀ (hm : lo + (hi - lo) / 2 < s.length),
   (s[lo+(hi - lo) / 2].1 < id→k (((lo+(hi - lo) / 2+1 : Nat) : Int),(hi : Int))=some r)→(¬ s[lo+(hi - lo) / 2].1 < id→k ((lo : Int),((lo+(hi - lo) / 2 : Nat) : Int))=some r)→f ((lo : Int),(hi : Int)) k=some r)
  (fin : ∀ k,f (((lbN s id : Nat) : Int),((lbN s id : Nat) : Int)) k=some r) :
  Z.loop f (0,n)=some r:=by
 subst hn
 have hle:=xQa s id
 refine yQr (fun (st : Int×Int)=>∃ lo hi : Nat,st=((lo : Int),(hi : Int))∧lo≤lbN s id∧lbN s id≤hi∧hi≤s.length) (fun st=>st.2.toNat - st.1.toNat) ?_ ⟨0,s.length,rfl,J9 _,hle,Qf _⟩ (by show (s.length : Int).toNat - (0 : Int).toNat < 18446744073709551616; omega)
 rintro st k ⟨lo,hi,rfl,h1,h2,h3⟩ hk
 by_cases hlt : lo < hi
 ·have hm : lo + (hi - lo) / 2 < s.length := by omega
  refine step lo hi k hlt h3 hm (fun hs=>hk _ ⟨_,hi,rfl, ?_,h2,h3⟩ ?_) (fun hs=>hk _ ⟨lo,_,rfl,h1, ?_,by omega⟩ ?_)
  ·have : ¬ lbN s id ≤ lo + (hi - lo) / 2 := fun hh => by have := wYp s id hp _ hm hh; omega
   omega
  ·show (hi : Int).toNat - (((lo + (hi - lo) / 2 + 1 : Nat) : Int)).toNat < (hi : Int).toNat - (lo : Int).toNat
   omega
  ·have : ¬ lo + (hi - lo) / 2 < lbN s id := fun hh => hs (wYo s id _ hm hh)
   omega
  ·show (((lo + (hi - lo) / 2 : Nat) : Int)).toNat - (lo : Int).toNat < (hi : Int).toNat - (lo : Int).toNat
   omega
 ·have e1 : lo = lbN s id := by omega
  have e2 : hi=lbN s id:=by omega
  subst e1
  rw [e2]
  exact fin k
def rowH (s : List Blk) (i : Nat) : List Blk:=s.take i++List.replicate (s.length - i) noB
theorem xJw {s : List Blk} {i : Nat} (h : i≤s.length) : (rowH s i).length=s.length:=by simp [rowH]; omega
theorem wK4 {s : List Blk} {i : Nat} (h : i≤s.length) : Z.seg (rowH s i) 0 i=s.take i:=by
 show ((rowH s i).drop 0).take i=s.take i
 unfold rowH
 rw [Q6,Q9 (by simp; omega),List.take_take,Nat.min_self]
theorem wK5 {s : List Blk} {i : Nat} (h : i < s.length) : Z.put (rowH s i) (Z.addN 0 i) [s[i]]=rowH s (i+1):=by
 show (rowH s i).take (0+i)++[s[i]]++(rowH s i).drop (0+i+1)=rowH s (i+1)
 unfold rowH
 have l1 : (s.take i).length=i:=by simp; omega
 rw [Jj,Q9 (by omega),List.take_take,Nat.min_self,List.drop_append,List.drop_eq_nil_of_le (by omega),l1,Kf,List.drop_replicate,List.take_succ_eq_append_getElem h]
 congr 2
 omega
theorem wK6 (s : List Blk) : rowH s s.length=s:=by simp [rowH]
theorem yKa {β : Type} {fin : ((Nat) × ((Nat) × (Nat))) × ((List (Blk)) × (Int)) → Option β} {s : List Blk} {r : β} (hl : s.length ≤ 1000000) (hd : ∀ x ∈ s, x.2.2.1.length ≤ 2000000)
    (hfin : fin ((0,(s.length,s.length)),(s,(s.length : Int)))=some r) :
    Z.loop (fun (s5 : ((Nat)×((Nat)×(Nat)))×((List (Blk))×(Int))) k6 =>
 (bif (Z.ilt s5.2.2 (Z.ofN (Z.len s))) then if (Z.Ix s5.2.2 (Z.len s)) then Z.bnd (Z.get s (Z.toN s5.2.2) (0,(0,(([] : List (Int)),())))) fun (x9 : Blk) =>
 Z.bind (zW2 (x9.1,(x9.2.1,(x9.2.2.1,())))) fun (x10 : Blk) =>
 if (Z.Le (Z.addN 0 1) (Z.len ((x10.1,(x10.2.1,(x10.2.2.1,())))::([] : List (Blk))))) then if (Z.Le (Z.addN s5.1.1 s5.1.2.1) (Z.len s5.2.1)) then if (Z.Big (Z.len (Z.seg s5.2.1 s5.1.1 s5.1.2.1)) (Z.len (Z.seg ((x10.1,(x10.2.1,(x10.2.2.1,())))::([] : List (Blk))) 0 1)) 40) then none
 else if (Z.Le (Z.addN s5.1.2.1 (Z.len (Z.seg ((x10.1,(x10.2.1,(x10.2.2.1,())))::([] : List (Blk))) 0 1))) s5.1.2.2) then if (Z.Le (Z.addN s5.1.1 (Z.addN s5.1.2.1 (Z.len (Z.seg ((x10.1,(x10.2.1,(x10.2.2.1,())))::([] : List (Blk))) 0 1)))) (Z.len s5.2.1)) then Z.bnd (Z.put s5.2.1 (Z.addN s5.1.1 s5.1.2.1) (Z.seg ((x10.1,(x10.2.1,(x10.2.2.1,())))::([] : List (Blk))) 0 1)) fun (x21 : List (Blk)) =>
 Z.bnd (Z.wrap .i64 (Z.add s5.2.2 1)) fun (x22 : Int) =>
 k6 ((s5.1.1,((Z.addN s5.1.2.1 (Z.len (Z.seg ((x10.1,(x10.2.1,(x10.2.2.1,())))::([] : List (Blk))) 0 1))),s5.1.2.2)),(x21,x22))
 else none
 else none
 else none
 else none
 else none
 else fin s5)) ((0,((Z.toN 0),(Z.toN (Z.ofN (Z.len s))))),((Z.rep (α:=Blk) (Z.toN (Z.ofN (Z.len s))) (0,(0,(([] : List (Int)),())))),0))=some r:=by
  refine yQr (fun (st : ((Nat)×((Nat)×(Nat)))×((List (Blk))×(Int)))=>∃ i : Nat,st=((0,(i,s.length)),(rowH s i,(i : Int)))∧i≤s.length) (fun st=>s.length - st.1.2.1) ?_ ⟨0,rfl,J9 _⟩ (wJg _ _ (by omega))
  rintro st k ⟨i,rfl,hi⟩ hk
  dsimp only
  by_cases hlt : i < s.length
  · refine zQ6 (decide_eq_true (by simp only [Z.ofN, Z.len]; omega)) ?_
    refine zQo (ixN hlt (by omega)) (zQu (getN s hlt _) ?_)
    refine zQk (zJd s[i].1 s[i].2.1 s[i].2.2.1 (hd _ (List.getElem_mem hlt))) ?_
    have sg : (rowH s i).drop 0=rowH s i:=Q6
    refine zQo (Qf _) ?_
    refine zQo (by show 0+i≤(rowH s i).length; rw [xJw hi]; omega) ?_
    refine xYj (by rw [wK4 hi]; show ¬ 2 ^ 44 < ((s.take i).length+1) * (40+1); rw [Jw]; omega) ?_
    refine zQo (by show i+1≤s.length; omega) ?_
    refine zQo (by show 0+(i+1)≤(rowH s i).length; rw [xJw hi]; omega) ?_
    refine zQu (y:=rowH s (i+1)) (wK5 hlt) ?_
    refine zQu (xXp (by omega)) ?_
    exact hk _ ⟨i+1,rfl,hlt⟩ (by show s.length - (i+1) < s.length - i; omega)
  · refine zWm (decide_eq_false (by simp only [Z.ofN, Z.len]; omega)) ?_
    have e : i=s.length:=by omega
    subst e
    rw [wK6]
    exact hfin
end Go.Proofs.Ytampmlalpifkoaa
