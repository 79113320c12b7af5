/- Stashes: may one be. -/
import Derived.Test.YtampmlalpifkoaaStep
import Derived.Test.YtampmlalpifkoaaStep2
import Derived.Test.YtampmlalpifkoaaSlotref
namespace Go.Proofs.Ytampmlalpifkoaa
open Go.Eng
set_option linter.unusedVariables false
set_option linter.unusedSimpArgs false
theorem getN {α : Type} (l : List α) {i : Nat} (h : i < l.length) (z : α) : Z.get l (Z.toN (i : Int)) z=l[i]:=by simp [Z.get,Z.toN,List.getD,h]
theorem ixN {α : Type} {l : List α} {i : Nat} (h : i < l.length) (hb : l.length < 9223372036854775808) : Z.Ix (i : Int) (Z.len l):=⟨by omega,by simp only [Z.len]; omega⟩
theorem xXp {i : Nat} (h : i < 9223372036854775807) : Z.wrap .i64 (Z.add (i : Int) 1)=((i+1 : Nat) : Int):=Z.xJt (by omega)
def stQ (B S H : Int) (s : List Blk) (i : Nat) : Bool:=xXc B S H (s.getD i noB).1 (s.getD i noB).2.1 (s.getD i noB).2.2.1&&(decide (i=0) || decide ((s.getD (i - 1) noB).1 < (s.getD i noB).1))
def stB (B S H : Int) (s : List Blk) : Bool:=decide (∀ i,i < s.length→stQ B S H s i=true)
theorem zY5 {s : List Blk} {i : Nat} (h : i < s.length) : s.getD i noB=s[i]:=by simp [List.getD,h]
theorem wYk {B S H : Int} {s : List Blk} {i : Nat} (h : i < s.length) (hq : stQ B S H s i=false) : stB B S H s=false:=decide_eq_false fun hh=>by rw [hh i h] at hq; cases hq
theorem yZu (B S H W : Int) (s : List Blk) (hl : s.length < 9223372036854775808) (h0 : (zK5 B S H W).2=0) : zXf ((B,(S,(H,(W,())))),s)=some (if stB B S H s=true then 0 else 8):=by
 unfold zXf
 dsimp only
 refine zQk (zKl B S H W) ?_
 refine zWm (by rw [h0]; rfl) ?_
 refine yQr (fun (d : Int)=>∃ i : Nat,d=i∧i≤s.length∧∀ j,j < i→stQ B S H s j=true) (fun d=>s.length - d.toNat) ?_ ⟨0,rfl,J9 _,fun _ h=>absurd h (Nat.not_lt_zero _)⟩ (wJg _ _ (by omega))
 rintro d k ⟨i,rfl,hi,hq⟩ hk
 by_cases hlt : i < s.length
 ·refine zQ6 (decide_eq_true (by simp only [Z.ofN, Z.len]; omega)) ?_
  refine zQo (ixN hlt (by omega)) (zQu (getN s hlt _) ?_)
  refine zQk (zKm B S H W s[i].1 s[i].2.1 s[i].2.2.1) ?_
  have hi1 : Z.wrap .i64 (Z.add (i : Int) 1)=((i+1 : Nat) : Int):=Z.xJt (by omega)
  have next : stQ B S H s i=true→k ((i+1 : Nat) : Int)=some (if stB B S H s=true then 0 else 8):=fun hs=>by
   refine hk _ ⟨i+1,rfl,hlt,fun j hj=>?_⟩ (by show s.length - (((i+1 : Nat) : Int)).toNat < s.length - ((i : Int)).toNat; omega)
   by_cases e : j=i
   ·subst e; exact hs
   ·exact hq j (by omega)
  unfold zK0
  rw [if_pos h0]
  cases hb : xXc B S H s[i].1 s[i].2.1 s[i].2.2.1 with
  | false =>
   refine zQ6 rfl ?_
   rw [wYk hlt (by unfold stQ; rw [zY5 hlt,hb]; rfl)]
   rfl
  | true =>
   refine zWm rfl ?_
   by_cases h00 : i=0
   ·subst h00
    refine zWm (by rfl) ?_
    refine zQu hi1 (next ?_)
    unfold stQ; rw [zY5 hlt,hb]; rfl
   ·refine zQ6 (decide_eq_true (by omega)) ?_
    refine zQu (y:=((i - 1 : Nat) : Int)) ((yJ5 (x:=Z.sub (i : Int) 1) (by simp only [Z.sub]; omega)).trans (by simp only [Z.sub]; omega)) ?_
    have hp : i - 1 < s.length:=by omega
    refine zQo (ixN hp (by omega)) (zQu (getN s hp _) ?_)
    by_cases hle : s[i - 1].1 < s[i].1
    ·refine zWm (by simp [Z.zWj, Z.ige]; omega) ?_
     refine zQu hi1 (next ?_)
     unfold stQ; rw [zY5 hlt,zY5 hp,hb,decide_eq_true hle]; simp
    ·refine zQ6 (by simp [Z.zWj, Z.ige]; omega) ?_
     rw [wYk hlt (by unfold stQ; rw [zY5 hlt,zY5 hp,decide_eq_false hle]; simp [h00])]
     rfl
 ·refine zWm (decide_eq_false (by simp only [Z.ofN, Z.len]; omega)) ?_
  have : stB B S H s=true:=decide_eq_true fun j hj=>hq j (by omega)
  rw [this]; rfl
def ckS (B S H W : Int) (s : List Blk) : Int:=if (zK5 B S H W).2=0 then (if stB B S H s=true then 0 else 8) else 8
theorem zZi (B S H W : Int) (s : List Blk) (hl : s.length < 9223372036854775808) : zXf ((B,(S,(H,(W,())))),s)=some (ckS B S H W s):=by
 by_cases h0 : (zK5 B S H W).2=0
 ·rw [yZu B S H W s hl h0,ckS,if_pos h0]
 ·have h8 : (zK5 B S H W).2 = 8 := by rw [(xXr B S H W).resolve_left h0]
  unfold zXf
  dsimp only
  refine zQk (zKl B S H W) ?_
  refine zQ6 (by rw [h8]; rfl) ?_
  rw [h8,ckS,if_neg h0]
theorem yKj {B S H : Int} {s : List Blk} : stB B S H s=true↔(∀ x∈s,xXc B S H x.1 x.2.1 x.2.2.1=true)∧s.Pairwise (fun x y=>x.1 < y.1):=by
 constructor
 ·intro h
  have hq:=of_decide_eq_true h
  refine ⟨fun x hx=>?_, ?_⟩
  ·obtain ⟨i, hi, rfl⟩ := List.getElem_of_mem hx
   have:=hq i hi
   unfold stQ at this
   rw [zY5 hi,Qb] at this
   exact this.1
  ·rw [List.pairwise_iff_getElem]
   have step : ∀ k (hk : k+1 < s.length),s[k].1 < s[k+1].1:=by
    intro k hk
    have:=hq (k+1) hk
    unfold stQ at this
    rw [zY5 hk,Qb,J7,decide_eq_true_eq,decide_eq_true_eq] at this
    rcases this.2 with h | h
    ·omega
    ·rw [Nat.add_sub_cancel,zY5 (by omega)] at h; exact h
   have gen : ∀ d i (hi : i < s.length) (hj : i+(d+1) < s.length),s[i].1 < s[i+(d+1)].1:=by
    intro d
    induction d with
    | zero=>intro i hi hj; exact step i hj
    | succ d ih =>
     intro i hi hj
     have a:=ih i hi (by omega)
     have b:=step (i+(d+1)) (by omega)
     have e : i+(d+1)+1=i+(d+1+1):=by omega
     simp only [e] at b
     omega
   intro i j hi hj hij
   have e : j=i+((j - i - 1)+1):=by omega
   have:=gen (j - i - 1) i hi (by omega)
   simpa only [← e] using this
 ·rintro ⟨h1, h2⟩
  refine decide_eq_true fun i hi=>?_
  unfold stQ
  rw [zY5 hi,h1 _ (List.getElem_mem hi),Kj]
  by_cases h0 : i=0
  ·simp [h0]
  ·rw [List.pairwise_iff_getElem] at h2
   have:=h2 (i - 1) i (by omega) hi (by omega)
   rw [zY5 (by omega : i - 1 < s.length),decide_eq_true this]
   simp
def lbN : List Blk → Int → Nat
 | [],_=>0
 | x::l,id=>if x.1 < id then lbN l id+1 else 0
theorem xQa : ∀ (s : List Blk) (id : Int), lbN s id ≤ s.length
 | [],_=>Qf _
 | x::l,id=>by
  have:=xQa l id
  simp only [lbN,Jr]
  split<;>omega
theorem wYo : ∀ (s : List Blk) (id : Int) (j : Nat) (h : j < s.length), j < lbN s id → s[j].1 < id
 | x::l,id,j,h,hj=>by
  simp only [lbN] at hj
  split at hj
  ·rename_i hx
   cases j with
   | zero=>exact hx
   | succ j=>exact wYo l id j (by simpa using h) (by omega)
  ·omega
theorem wYp : ∀ (s : List Blk) (id : Int), s.Pairwise (fun x y => x.1 < y.1) → ∀ (j : Nat) (h : j < s.length), lbN s id ≤ j → id ≤ s[j].1
 | x::l,id,hp,j,h,hj=>by
  rw [List.pairwise_cons] at hp
  simp only [lbN] at hj
  split at hj
  ·cases j with
   | zero=>omega
   | succ j=>exact wYp l id hp.2 j (by simpa using h) (by omega)
  ·rename_i hx
   cases j with
   | zero=>show id≤x.1; omega
   | succ j =>
    have hj' : j < l.length:=by simpa using h
    have:=hp.1 _ (List.getElem_mem hj')
    show id≤l[j].1
    omega
def fdS (s : List Blk) (id : Int) : Option Blk:=s.find? fun x=>decide (x.1=id)
theorem wJx : ∀ (s : List Blk) (id : Int), s.Pairwise (fun x y => x.1 < y.1) → fdS s id = (match s[lbN s id]? with | some x => if x.1 = id then some x else none | none => none)
 | [],id,_=>rfl
 | x::l,id,hp=>by
  rw [List.pairwise_cons] at hp
  unfold fdS lbN
  by_cases hx : x.1 < id
  ·rw [if_pos hx, List.find?_cons_of_neg (by simp; omega)]
   have:=wJx l id hp.2
   unfold fdS at this
   rw [this]
   simp
  ·rw [if_neg hx]
   by_cases he : x.1=id
   ·rw [List.find?_cons_of_pos (by simp [he])]
    simp [he]
   ·rw [List.find?_cons_of_neg (by simp [he])]
    have hno : l.find? (fun y=>decide (y.1=id))=none:=by
     rw [List.find?_eq_none]
     intro y hy
     have:=hp.1 y hy
     simp; omega
    rw [hno]
    simp [he]
def putR : List Blk → Blk → List Blk
 | [],b=>[b]
 | x::l,b=>if x.1 < b.1 then x::putR l b else if x.1=b.1 then b::l else b::x::l
def wJz : List Blk → Int → List Blk
 | [],_=>[]
 | x::l,id=>if x.1 < id then x::wJz l id else if x.1=id then l else x::l
theorem xKl : ∀ {s : List Blk} {b y : Blk}, y ∈ putR s b → y = b ∨ y ∈ s
 | [],b,y,h=>by simp [putR] at h; exact .inl h
 | x::l,b,y,h=>by
  simp only [putR] at h
  split at h
  ·rcases Jd.1 h with rfl | h
   ·exact .inr (Q7 ..)
   ·rcases xKl h with h | h
    ·exact .inl h
    ·exact .inr (Qp _ h)
  ·split at h
   ·rcases Jd.1 h with rfl | h
    ·exact .inl rfl
    ·exact .inr (Qp _ h)
   ·rcases Jd.1 h with rfl | h
    ·exact .inl rfl
    ·exact .inr h
theorem yYz : ∀ {s : List Blk} {b : Blk}, s.Pairwise (fun x y => x.1 < y.1) → (putR s b).Pairwise (fun x y => x.1 < y.1)
 | [],b,_=>by simp [putR]
 | x::l,b,h=>by
  rw [List.pairwise_cons] at h
  simp only [putR]
  split
  ·rename_i hx
   rw [List.pairwise_cons]
   refine ⟨fun y hy=>?_,yYz h.2⟩
   rcases xKl hy with rfl | hy
   ·exact hx
   ·exact h.1 y hy
  ·split
   ·rename_i he
    rw [List.pairwise_cons]
    exact ⟨fun y hy=>by have:=h.1 y hy; omega,h.2⟩
   ·rw [List.pairwise_cons, List.pairwise_cons]
    refine ⟨fun y hy=>?_,h⟩
    rcases Jd.1 hy with rfl | hy
    ·omega
    ·have:=h.1 y hy; omega
theorem zYn {B S H : Int} {s : List Blk} {b : Blk} (h : stB B S H s=true) (hb : xXc B S H b.1 b.2.1 b.2.2.1=true) : stB B S H (putR s b)=true:=by
 rw [yKj] at h ⊢
 refine ⟨fun x hx=>?_,yYz h.2⟩
 rcases xKl hx with rfl | hx
 ·exact hb
 ·exact h.1 x hx
theorem wXe : ∀ (s : List Blk) (b : Blk), s.Pairwise (fun x y => x.1 < y.1) → putR s b = if (fdS s b.1).isSome = true then s.set (lbN s b.1) b else s.take (lbN s b.1) ++ b :: s.drop (lbN s b.1)
 | [],b,_=>rfl
 | x::l,b,hp=>by
  rw [List.pairwise_cons] at hp
  have ih:=wXe l b hp.2
  unfold fdS at ih ⊢
  simp only [putR,lbN]
  by_cases hlt : x.1 < b.1
  ·rw [if_pos hlt, if_pos hlt, List.find?_cons_of_neg (by simp; omega), ih]
   split<;>simp
  ·rw [if_neg hlt, if_neg hlt]
   by_cases he : x.1=b.1
   ·rw [if_pos he, List.find?_cons_of_pos (by simp [he])]
    simp
   ·rw [if_neg he, List.find?_cons_of_neg (by simp [he])]
    have hno : l.find? (fun y=>decide (y.1=b.1))=none:=by
     rw [List.find?_eq_none]
     intro y hy
     have:=hp.1 y hy
     simp; omega
    rw [hno]
    simp
theorem wZp : ∀ (s : List Blk) (id : Int), s.Pairwise (fun x y => x.1 < y.1) → (fdS s id).isSome = true → wJz s id = s.take (lbN s id) ++ s.drop (lbN s id + 1)
 | [],id,_,h=>by simp [fdS] at h
 | x::l,id,hp,h=>by
  rw [List.pairwise_cons] at hp
  unfold fdS at h
  simp only [wJz,lbN]
  by_cases hlt : x.1 < id
  ·rw [if_pos hlt, if_pos hlt, wZp l id hp.2 (by unfold fdS; rwa [List.find?_cons_of_neg (by simp; omega)] at h)]
   simp
  ·rw [if_neg hlt, if_neg hlt]
   by_cases he : x.1=id
   ·rw [if_pos he]; simp
   ·rw [List.find?_cons_of_neg (by simp [he])] at h
    have hno : l.find? (fun y=>decide (y.1=id))=none:=by
     rw [List.find?_eq_none]
     intro y hy
     have:=hp.1 y hy
     simp; omega
    rw [hno] at h
    cases h
end Go.Proofs.Ytampmlalpifkoaa
