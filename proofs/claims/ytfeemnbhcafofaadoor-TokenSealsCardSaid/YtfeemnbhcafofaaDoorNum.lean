/- Package num, and the document's answer. -/
import Derived.Test.YtfeemnbhcafofaaDoorM6
import Derived.Test.YtfeemnbhcafofaaDoorFns
namespace Go.Proofs.YtfeemnbhcafofaaDoor
open Go.Eng
set_option linter.unusedVariables false
set_option linter.unusedSimpArgs false
def okS (lo hi : Int) (l : List Int) : Bool:=decide (l.length≤64)&&l.all (fun s=>decide (lo≤s∧s≤hi))&&decide (l.sum≤65536)
theorem yZ6 {l : List Int} (h : ∀ s∈l,0≤s) (n : Nat) : (l.take n).sum≤l.sum:=by
 have e:=congrArg List.sum (Qr n l)
 rw [List.sum_append] at e
 have h2 : ∀ l : List Int,(∀ s∈l,0≤s)→0≤l.sum:=by
  intro l
  induction l with
  | nil=>intro _; simp
  | cons a l ih=>intro h; have h1:=h a (by simp); have h2:=ih fun s hs=>h s (by simp [hs]); simp; omega
 have h3:=h2 (l.drop n) fun s hs=>h s (K2 hs)
 omega
theorem yKx (l : List Int) {n : Nat} (h : n < l.length) : (l.take (n+1)).sum=(l.take n).sum+l[n]:=by
 rw [Jj h,List.sum_append]; simp
theorem yY0 (l : List Int) (lo hi : Int) (h0 : 0≤lo) (h1 : hi≤65536) (hl : l.length < 9223372036854775807) : zYd (l,(lo,hi))=some (if okS lo hi l then (l.sum,0) else (0,2)):=by
 unfold zYd
 simp only [Z.xZv,Z.len_eq]
 by_cases hlen : l.length≤64
 ·have : Z.igt (l.length : Int) 64 = false := by simp [Z.igt]; omega
  rw [this,cond_false]
  refine zQn (fun s=>∃ i : Nat,s.1=(i : Int)∧i≤l.length∧(∀ x∈l.take i,lo≤x∧x≤hi)∧s.2=(l.take i).sum∧(l.take i).sum≤65536∧0≤(l.take i).sum) (fun s=>l.length - s.1.toNat) ?_ ⟨0,rfl,Q5 _,by simp,by simp,by simp,by simp⟩ (by simp; omega)
  rintro ⟨si,st⟩ k ⟨i,rfl,hi',hall,rfl,hsum,hsum0⟩ hk
  simp only [Z.xQa]
  by_cases hlt : i < l.length
  ·simp only [hlt, decide_true, cond_true, if_pos ((Z.xWe i l.length).2 hlt), Z.zQ9, Z.xXj, Z.xKc l 0 hlt]
   have hbad : ¬ (lo≤l[i]∧l[i]≤hi)→okS lo hi l=false:=by
    intro hb
    have : l.all (fun s=>decide (lo≤s∧s≤hi))=false:=by
     rw [List.all_eq_false]
     exact ⟨l[i],Qv hlt,by simpa using hb⟩
    unfold okS; rw [this]; simp
   by_cases hlo : l[i] < lo
   ·simp only [Z.ilt, hlo, decide_true, cond_true, Z.yXw, Bool.not_false]
    rw [hbad (by omega)]; rfl
   ·simp only [Z.ilt, hlo, decide_false, cond_false, Z.yW0, Z.igt]
    by_cases hhi : l[i] > hi
    ·simp only [hhi, decide_true, cond_true, Z.yXw, Bool.not_false]
     rw [hbad (by omega)]; rfl
    ·simp only [hhi, decide_false, cond_false, Z.add_eq]
     have hs:=yKx l hlt
     rw [Z.wrap_i64 (by omega) (by omega),← hs]
     simp only [Z.ile,Z.yXw]
     have hall' : ∀ x∈l.take (i+1),lo≤x∧x≤hi:=by
      intro x hx
      rw [Jj hlt,Qw] at hx
      rcases hx with hx | hx
      ·exact hall x hx
      ·simp at hx; subst hx; omega
     by_cases hbig : (l.take (i+1)).sum≤65536
     ·simp only [hbig, decide_true, Bool.not_true, cond_false]
      rw [show (i : Int)+1=((i+1 : Nat) : Int) by omega,Z.wrap_i64 (by omega) (by omega)]
      exact hk _ ⟨i+1,rfl,hlt,hall',rfl,hbig,by omega⟩ (by simp; omega)
     ·simp only [hbig, decide_false, Bool.not_false, cond_true]
      have : okS lo hi l=false:=by
       cases hok : okS lo hi l with
       | false=>rfl
       | true =>
        simp only [okS,Qb,decide_eq_true_eq,Qk] at hok
        have:=yZ6 (l:=l) (fun s hs=>by have:=hok.1.2 s hs; omega) (i+1)
        omega
      rw [this]; rfl
  ·simp only [hlt, decide_false, cond_false]
   have e : l.take i=l:=Qp (by omega)
   rw [e] at hall hsum ⊢
   have : okS lo hi l=true:=by
    simp only [okS,Qb,decide_eq_true_eq,Qk]
    exact ⟨⟨hlen,hall⟩,hsum⟩
   rw [this]; rfl
 ·have : Z.igt (l.length : Int) 64 = true := by simp [Z.igt]; omega
  rw [this,cond_true]
  simp [okS,hlen]
theorem xWp (l : List Int) (hl : l.length < 9223372036854775807) : yQu l=some (if okS 0 65536 l then l.sum else -1):=by
 unfold yQu
 simp only [Z.xZv,Z.len_eq]
 by_cases hlen : l.length≤64
 ·have : Z.igt (l.length : Int) 64 = false := by simp [Z.igt]; omega
  rw [this,cond_false]
  refine zQn (fun s=>∃ i : Nat,s.2=(i : Int)∧i≤l.length∧(∀ x∈l.take i,0≤x∧x≤65536)∧s.1=(l.take i).sum∧0≤(l.take i).sum∧(l.take i).sum≤65536 * i) (fun s=>l.length - s.2.toNat) ?_ ⟨0,rfl,Q5 _,by simp,by simp,by simp,by simp⟩ (by simp; omega)
  rintro ⟨st,si⟩ k ⟨i,rfl,hi',hall,rfl,hsum0,hsum⟩ hk
  simp only [Z.xQa]
  by_cases hlt : i < l.length
  ·simp only [hlt, decide_true, cond_true, if_pos ((Z.xWe i l.length).2 hlt), Z.zQ9, Z.xXj, Z.xKc l 0 hlt]
   have hbad : ¬ (0≤l[i]∧l[i]≤65536)→okS 0 65536 l=false:=by
    intro hb
    have : l.all (fun s=>decide (0≤s∧s≤65536))=false:=by
     rw [List.all_eq_false]
     exact ⟨l[i],Qv hlt,by simpa using hb⟩
    unfold okS; rw [this]; simp
   by_cases hlo : l[i] < 0
   ·simp only [Z.ilt, hlo, decide_true, cond_true]
    rw [hbad (by omega)]; rfl
   ·simp only [Z.ilt, hlo, decide_false, cond_false, Z.yW0, Z.igt]
    by_cases hhi : l[i] > 65536
    ·simp only [hhi, decide_true, cond_true]
     rw [hbad (by omega)]; rfl
    ·simp only [hhi, decide_false, cond_false, Z.add_eq]
     have hs:=yKx l hlt
     rw [Z.wrap_i64 (by omega) (by omega),← hs]
     rw [show (i : Int)+1=((i+1 : Nat) : Int) by omega,Z.wrap_i64 (by omega) (by omega)]
     have hall' : ∀ x∈l.take (i+1),0≤x∧x≤65536:=by
      intro x hx
      rw [Jj hlt,Qw] at hx
      rcases hx with hx | hx
      ·exact hall x hx
      ·simp at hx; subst hx; omega
     exact hk _ ⟨i+1,rfl,hlt,hall',rfl,by omega,by omega⟩ (by simp; omega)
  ·simp only [hlt, decide_false, cond_false, Z.igt]
   have e : l.take i=l:=Qp (by omega)
   rw [e] at hall hsum ⊢
   have hok : okS 0 65536 l=decide (l.sum≤65536):=by
    have : l.all (fun s=>decide (0≤s∧s≤65536))=true:=by
     rw [Qk]; intro x hx; simpa using hall x hx
    unfold okS; rw [this]; simp [hlen]
   rw [hok]
   by_cases hb : l.sum≤65536
   ·have : ¬ l.sum > 65536 := by omega
    simp [hb,this]
   ·have : l.sum > 65536 := by omega
    simp [hb,this]
 ·have : Z.igt (l.length : Int) 64 = true := by simp [Z.igt]; omega
  rw [this,cond_true]
  simp [okS,hlen]
theorem uQ2 {l : List Int} (h : okS 1 8 l=true) : l.length≤64∧(∀ s∈l,1≤s∧s≤8)∧l.sum≤65536:=by
 simp only [okS,Qb,decide_eq_true_eq,Qk] at h
 exact ⟨h.1.1,h.1.2,h.2⟩
theorem ok_18 {l : List Int} (hall : ∀ x∈l,1≤x∧x≤8) : okS 1 8 l=okS 0 65536 l:=by
 have h1 : l.all (fun s=>decide (1≤s∧s≤8))=true:=by rw [Qk]; intro x hx; simpa using hall x hx
 have h2 : l.all (fun s=>decide (0≤s∧s≤65536))=true:=by rw [Qk]; intro x hx; have:=hall x hx; simp; omega
 unfold okS; rw [h1,h2]
theorem yJc (l : List Int) (hl : l.length < 9223372036854775807) : zJl l=some (okS 1 8 l):=by
 unfold zJl
 simp only [Z.xZv,Z.len_eq]
 refine zQn (fun (s : Int)=>∃ i : Nat,s=i∧i≤l.length∧(∀ x∈l.take i,1≤x∧x≤8)) (fun s=>l.length - s.toNat) ?_ ⟨0,rfl,Q5 _,by simp⟩ (by simp; omega)
 rintro d k ⟨i,rfl,hi',hall⟩ hk
 simp only [Z.xQa]
 by_cases hlt : i < l.length
 ·simp only [hlt, decide_true, cond_true, if_pos ((Z.xWe i l.length).2 hlt), Z.zQ9, Z.xXj, Z.xKc l 0 hlt]
  have hbad : ¬ (1≤l[i]∧l[i]≤8)→okS 1 8 l=false:=by
   intro hb
   have : l.all (fun s=>decide (1≤s∧s≤8))=false:=by
    rw [List.all_eq_false]
    exact ⟨l[i],Qv hlt,by simpa using hb⟩
   unfold okS; rw [this]; simp
  by_cases hlo : l[i] < 1
  ·simp only [Z.ilt, hlo, decide_true, cond_true]
   rw [hbad (by omega)]
  ·simp only [Z.ilt, hlo, decide_false, cond_false, Z.yW0, Z.igt]
   by_cases hhi : l[i] > 8
   ·simp only [hhi, decide_true, cond_true]
    rw [hbad (by omega)]
   ·simp only [hhi, decide_false, cond_false]
    rw [Z.zXq (by omega)]
    refine hk _ ⟨i+1,rfl,hlt, ?_⟩ (by simp; omega)
    intro x hx
    rw [Jj hlt,Qw] at hx
    rcases hx with hx | hx
    ·exact hall x hx
    ·simp at hx; subst hx; omega
 ·simp only [hlt, decide_false, cond_false]
  have e : l.take i=l:=Qp (by omega)
  rw [e] at hall
  rw [xWp l hl,Z.bind_some,ok_18 hall]
  cases hok : okS 0 65536 l with
  | false=>simp [Z.ige]
  | true =>
   simp only [okS,Qb,decide_eq_true_eq,Qk] at hok
   have h2 : 0≤l.sum:=by have:=yZ6 (l:=l) (fun s hs=>(hok.1.2 s hs).1) 0; simpa using this
   simp [Z.ige,h2]
def digs (n : Int) (m : Nat) : List Int:=(List.range m).map fun (j : Nat)=>n / 256 ^ j % 256
theorem wKf (n : Int) (m : Nat) : digs n (m+1)=digs n m++[n / 256 ^ m % 256]:=by simp [digs,List.range_succ]
theorem zYh (n : Int) (m : Nat) : (digs n m).length=m:=by simp [digs]
theorem pow8 (j : Nat) : (2 : Int) ^ (8 * j)=256 ^ j:=by
 rw [Int.pow_mul]; rfl
theorem wWn (n size : Int) (h0 : 0≤n) (h1 : n < 18446744073709551616) (hs : 1≤size) (hs8 : size≤8) : xW2 (n,size)=some (decide (n / 256 ^ size.toNat=0)):=by
 unfold xW2
 by_cases h8 : 8≤size
 ·have e : size = 8 := by omega
  subst e
  have : n / 256 ^ (8 : Int).toNat=0:=by
   have e2 : (256 : Int) ^ (8 : Int).toNat=18446744073709551616:=by decide
   rw [e2]; omega
  rw [this]; rfl
 ·have : Z.ige size 8 = false := by simp [Z.ige]; omega
  simp only [this,cond_false,Z.mul_eq,Z.zQ9]
  rw [Z.wrap_i64 (by omega) (by omega)]
  have hn : ¬ Z.Neg (8 * size):=by show ¬ (8 * size < 0); omega
  rw [if_neg hn]
  simp only [Z.yW0,Z.ieq,Z.shr]
  have e2 : min (8 * size).toNat (IntKind.bits .u64)=8 * size.toNat:=by simp only [IntKind.bits]; omega
  rw [e2,pow8,Int.fdiv_eq_ediv_of_nonneg _ (Int.pow_nonneg (by omega))]
  rfl
theorem zY3 (n size : Int) (h0 : 0≤n) (h1 : n < 18446744073709551616) (hs : 1≤size) (hs8 : size≤8) : zKw (n,size)=some (digs n size.toNat,decide (n / 256 ^ size.toNat=0)):=by
 unfold zKw
 rw [if_pos (show Z.EqN 0 (Z.len ([] : List Int)) from rfl)]
 refine zQn (fun s=>∃ i : Nat,s.2.2=(i : Int)∧(i : Int)≤size∧s.1=digs n i∧s.2.1=n / 256 ^ i) (fun s=>(size - s.2.2).toNat) ?_ ⟨0,rfl,by omega,by simp [digs],by simp⟩ (by simp; omega)
 rintro ⟨so,sn,si⟩ k ⟨i,rfl,hi,rfl,rfl⟩ hk
 have hp : (0 : Int) < 256 ^ i:=Int.pow_pos (by omega)
 have hn0 : 0≤n / 256 ^ i:=Int.ediv_nonneg h0 (by omega)
 have hn1 : n / 256 ^ i≤n:=Int.ediv_le_self _ h0
 simp only [Z.ilt]
 by_cases hlt : (i : Int) < size
 ·have hz : ¬ Z.IsZ 256 := by decide
  simp only [hlt,decide_true,cond_true,if_neg hz,Z.zQ9,Z.tmod,Z.tdiv]
  rw [Int.tmod_eq_emod_of_nonneg hn0,Z.wrap_u8,Int.emod_emod_of_dvd _ (Int.dvd_refl _)]
  rw [if_pos (show Z.Le (Z.addN 0 1) (Z.len [n / 256 ^ i % 256]) from Qe _)]
  have hseg : Z.seg [n / 256 ^ i % 256] 0 1=[n / 256 ^ i % 256]:=rfl
  rw [hseg]
  have hbig : ¬ Z.Big (Z.len (digs n i)) (Z.len [n / 256 ^ i % 256]) 1:=by
   show ¬ (2 ^ 44 < ((digs n i).length+1) * (1+1)); rw [zYh]; omega
  rw [if_neg hbig]
  simp only [Z.EqN,if_true,Z.wKr]
  rw [Int.tdiv_eq_ediv_of_nonneg hn0,Z.zZn (by omega) (by omega),Z.zXq (by omega)]
  refine hk _ ⟨i+1,rfl,by omega,(wKf n i).symm, ?_⟩ (by simp; omega)
  simp only []
  rw [Int.ediv_ediv_of_nonneg (by omega),← Int.pow_succ]
 ·have e : size.toNat = i := by omega
  simp only [hlt,decide_false,cond_false,e,Z.ieq]
  rfl
end Go.Proofs.YtfeemnbhcafofaaDoor
