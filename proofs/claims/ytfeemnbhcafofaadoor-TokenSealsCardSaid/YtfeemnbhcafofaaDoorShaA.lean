/- SHA-256's words, rounds and turns. -/
import Derived.Test.YtfeemnbhcafofaaDoorStep
import Derived.Test.YtfeemnbhcafofaaDoorBits32
namespace Go.Proofs.YtfeemnbhcafofaaDoor
open Go.Eng
set_option linter.unusedVariables false
set_option linter.unusedSimpArgs false
theorem wYp (x : Int) : Z.wrap .u32 x=ofW (BitVec.ofInt 32 x):=by
 rw [Z.wrap_u32]
 simp only [ofW,BitVec.toNat_ofInt]
 omega
theorem get_map (l : List W32) (i : Nat) : Z.get (l.map ofW) i 0=ofW (l.getD i 0):=by
 simp only [Z.get,List.getD,Qq]
 cases l[i]?<;>rfl
theorem yYm (l : List W32) (i : Nat) (x : W32) : Z.set (l.map ofW) i (ofW x)=(l.set i x).map ofW:=by
 simp only [Z.set,Q2]
theorem vZm (x : W32) (n : Int) (h : 0≤n∧n≤32) : Z.shl .u32 (ofW x) n=ofW (x <<< n.toNat):=by
 obtain ⟨m,rfl⟩:=Int.eq_ofNat_of_zero_le h.1
 exact wK5 x (by omega)
theorem uX0 (x : W32) (n : Int) (h : 0≤n∧n≤32) : Z.shr .u32 (ofW x) n=ofW (x >>> n.toNat):=by
 obtain ⟨m,rfl⟩:=Int.eq_ofNat_of_zero_le h.1
 exact wQu x (by omega)
def rotr (x : W32) (n : Nat) : W32:=(x >>> n) ||| (x <<< (32 - n))
def sg (a b c : Nat) (mv : Bool) (x : W32) : W32:=rotr x a ^^^ rotr x b ^^^ (bif mv then x >>> c else rotr x c)
theorem yYr (x : W32) (n : Nat) (h : n≤32) : zWe (ofW x,(n : Int))=some (ofW (rotr x n)):=by
 unfold zWe
 refine zQy (by simp only [Z.Neg]; omega) ?_
 refine zQb (wQu x h) ?_
 refine zQb (y:=((32 - n : Nat) : Int)) (by rw [Z.wrap_u32]; simp only [Z.sub]; omega) ?_
 refine zQy (by simp only [Z.Neg]; omega) ?_
 refine zQb (wK5 x (by omega)) ?_
 refine zQb (vQc _ _) ?_
 rfl
theorem zKd (x : W32) (n : Int) (h : 0≤n∧n≤32) : zWe (ofW x,n)=some (ofW (rotr x n.toNat)):=by
 obtain ⟨m,rfl⟩:=Int.eq_ofNat_of_zero_le h.1
 exact yYr x m (by omega)
theorem uZr : ∀ j : Nat,j < 32→0 < j→Z.band .u64 (Z.wrap .u64 (-(j : Int))) 31=((32 - j : Nat) : Int):=by decide
theorem yWv (x : W32) (j : Nat) (h : j < 32) (h0 : 0 < j) : zQ2 (ofW x, -(j : Int))=some (ofW (rotr x j)):=by
 unfold zQ2
 refine zQb rfl ?_
 refine zQb (uZr j h h0) ?_
 refine zQy (by simp only [Z.Neg]; omega) ?_
 refine zQb (wK5 x (by omega)) ?_
 refine zQb (y:=(j : Int)) (by rw [Z.wrap_u64]; simp only [Z.sub]; omega) ?_
 refine zQy (by simp only [Z.Neg]; omega) ?_
 refine zQb (wQu x (by omega)) ?_
 refine zQb (vQc _ _) ?_
 rw [rotr,BitVec.or_comm]
theorem zXt (x : W32) (a b c : Nat) (ha : a < 32∧0 < a) (hb : b < 32∧0 < b) (hc : c < 32∧0 < c) (mv : Bool) : zXe (([(a : Int),(b : Int),(c : Int)],(mv,())),ofW x)=some (ofW (sg a b c mv x)):=by
 have neg : ∀ n : Nat,n < 32→Z.wrap .i64 (Z.sub 0 (n : Int))=-(n : Int):=fun n hn=>by rw [Z.wrap_i64]<;>simp only [Z.sub]<;>omega
 unfold zXe
 refine zQa (by decide) ?_
 refine zQb (neg c hc.1) ?_
 refine zQe (yWv x c hc.1 hc.2) ?_
 cases mv with
 | true =>
  refine zQq rfl ?_
  refine zQa (by decide) ?_
  refine zQy (by show ¬ ((c : Int) < 0); omega) ?_
  refine zQb (wQu x (n:=c) (by omega)) ?_
  refine zQa (by decide) ?_
  refine zQb (neg a ha.1) ?_
  refine zQa (by decide) ?_
  refine zQb (neg b hb.1) ?_
  refine zQe (yWv x a ha.1 ha.2) ?_
  refine zQe (yWv x b hb.1 hb.2) ?_
  refine zQb (zZm _ _) ?_
  refine zQb (zZm _ _) ?_
  rfl
 | false =>
  refine zQm rfl ?_
  refine zQa (by decide) ?_
  refine zQb (neg a ha.1) ?_
  refine zQa (by decide) ?_
  refine zQb (neg b hb.1) ?_
  refine zQe (yWv x a ha.1 ha.2) ?_
  refine zQe (yWv x b hb.1 hb.2) ?_
  refine zQb (zZm _ _) ?_
  refine zQb (zZm _ _) ?_
  rfl
def bW (b : List Int) (i : Int) : W32:=BitVec.ofInt 32 (b.getD i.toNat 0)
def wd (b : List Int) (t : Nat) : W32:=(bW b (4 * t) <<< 24) ||| (bW b (4 * t+1) <<< 16) ||| (bW b (4 * t+2) <<< 8) ||| bW b (4 * t+3)
def nwW (w : List W32) (t : Nat) : W32:=w.getD ((t : Int) - 16).toNat 0+w.getD ((t : Int) - 7).toNat 0+sg 7 18 3 true (w.getD ((t : Int) - 15).toNat 0)+sg 17 19 10 true (w.getD ((t : Int) - 2).toNat 0)
def stW (b : List Int) : Nat → List W32
 | 0=>List.replicate 64 0
 | t+1=>(stW b t).set t (if t < 16 then wd b t else nwW (stW b t) t)
theorem yWq (b : List Int) : ∀ t, (stW b t).length = 64
 | 0=>by simp [stW]
 | t+1=>by simp [stW,yWq b t]
theorem xXu (b : List Int) (hb : b.length=64) : yX5 b=some ((stW b 64).map ofW):=by
 unfold yX5
 refine zQn (fun s=>∃ t : Nat,t≤64∧s=((t : Int),(stW b t).map ofW)) (fun s=>64 - s.1.toNat) ?_ ⟨0,by omega,by simp [stW]; rfl⟩ (by decide)
 rintro s k ⟨t,ht,rfl⟩ hk
 have hl:=yWq b t
 by_cases h : t < 64
 ·refine zQq (show decide _ = true from decide_eq_true (by show (t : Int) < _; omega)) ?_
  rw [zQu hb]
  have hnext : ∀ v : W32,(if t < 16 then wd b t else nwW (stW b t) t)=v→k ((t : Int)+1,((stW b t).set t v).map ofW)=some ((stW b 64).map ofW):=by
   intro v hv
   subst hv
   refine hk _ ⟨t+1,by omega, ?_⟩ ?_
   ·simp [stW]
   ·show 64 - ((t : Int)+1).toNat < 64 - ((t : Int)).toNat; omega
  by_cases h16 : t < 16
  ·refine zQq (show decide _ = true from decide_eq_true (by show (t : Int) < _; omega)) ?_
   repeat (first
    | with_reducible refine zQb (vZm _ _ (by decide)) ?_
    | with_reducible refine zQb (vQc _ _) ?_
    | with_reducible refine zQb (yYm _ _ _) ?_
    | with_reducible refine zQb (rfl : Z.get _ _ _=_) ?_
    | with_reducible refine zQb (wYp _) ?_
    | with_reducible refine zQb (zW9 (by simp only [Z.add,Z.mul]; omega)) ?_
    | refine zQa (by (simp only [Z.In,Z.Lt,Z.toN,Z.len,Z.add,Z.mul,hb,Qh,hl]; omega)) ?_
    | refine zQy (by decide) ?_
    | exact hnext _ (if_pos h16))
  ·refine zQm (show decide _ = false from decide_eq_false (by show ¬ (t : Int) < _; omega)) ?_
   repeat (first
    | with_reducible refine zQb (get_map _ _) ?_
    | with_reducible refine zQb (zKn _ _) ?_
    | with_reducible refine zQe (zXt _ 7 18 3 (by decide) (by decide) (by decide) true) ?_
    | with_reducible refine zQe (zXt _ 17 19 10 (by decide) (by decide) (by decide) true) ?_
    | with_reducible refine zQb (yYm _ _ _) ?_
    | with_reducible refine zQb (zW9 (by simp only [Z.add,Z.sub]; omega)) ?_
    | refine zQa (by (simp only [Z.In,Z.Lt,Z.toN,Z.len,Z.sub,hb,Qh,hl]; omega)) ?_
    | exact hnext _ (if_neg h16))
 ·obtain rfl : t = 64 := by omega
  refine zQm rfl ?_
  refine zQa (by simp [hl]) ?_
  refine zQa (by decide) ?_
  refine zQa (by simp) ?_
  rw [zQu (by simp [hl])]
theorem xWl (b : List Int) (hb : b.length=64) : yQq b=some ((stW b 64).map ofW):=by
 unfold yQq
 refine zQn (fun s=>∃ t : Nat,t≤16∧s=((t : Int),(stW b t).map ofW)) (fun s=>16 - s.1.toNat) ?_ ⟨0,by omega,by simp [stW]; rfl⟩ (by decide)
 rintro s k ⟨t,ht,rfl⟩ hk
 have hl:=yWq b t
 by_cases h16 : t < 16
 ·refine zQq (show decide _ = true from decide_eq_true (by show (t : Int) < _; omega)) ?_
  have hnext : ∀ v : W32,(if t < 16 then wd b t else nwW (stW b t) t)=v→k ((t : Int)+1,((stW b t).set t v).map ofW)=some ((stW b 64).map ofW):=by
   intro v hv
   subst hv
   refine hk _ ⟨t+1,by omega, ?_⟩ ?_
   ·simp [stW]
   ·show 16 - ((t : Int)+1).toNat < 16 - ((t : Int)).toNat; omega
  repeat (first
   | with_reducible refine zQb (vZm _ _ (by decide)) ?_
   | with_reducible refine zQb (vQc _ _) ?_
   | with_reducible refine zQb (yYm _ _ _) ?_
   | with_reducible refine zQb (rfl : Z.get _ _ _=_) ?_
   | with_reducible refine zQb (wYp _) ?_
   | with_reducible refine zQb (zW9 (by simp only [Z.add,Z.mul]; omega)) ?_
   | refine zQa (by (simp only [Z.In,Z.Ix,Z.Lt,Z.toN,Z.len,Z.add,Z.mul,hb,Qh,hl]; omega)) ?_
   | refine zQy (by decide) ?_
   | exact hnext _ (if_pos h16))
 ·obtain rfl : t = 16 := by omega
  refine zQm rfl ?_
  have hb0 : ∀ s : Int×List Int,64 - s.1.toNat < 18446744073709551616:=fun s=>zKi 64 _ (by omega)
  refine zQn (fun s=>∃ t : Nat,16≤t∧t≤64∧s=((t : Int),(stW b t).map ofW)) (fun s=>64 - s.1.toNat) ?_ ⟨16,Qe _,by omega,by simp⟩ (hb0 (16,(stW b 16).map ofW))
  clear hk h16 ht hl k
  rintro s k ⟨t,h16,ht,rfl⟩ hk
  have hl:=yWq b t
  by_cases h : t < 64
  ·refine zQq (show decide _ = true from decide_eq_true (by show (t : Int) < _; omega)) ?_
   have hnext : ∀ v : W32,(if t < 16 then wd b t else nwW (stW b t) t)=v→k ((t : Int)+1,((stW b t).set t v).map ofW)=some ((stW b 64).map ofW):=by
    intro v hv
    subst hv
    refine hk _ ⟨t+1,by omega,by omega, ?_⟩ ?_
    ·simp [stW]
    ·show 64 - ((t : Int)+1).toNat < 64 - ((t : Int)).toNat; omega
   repeat (first
    | with_reducible refine zQb (get_map _ _) ?_
    | with_reducible refine zQb (zKn _ _) ?_
    | with_reducible refine zQb (zZm _ _) ?_
    | with_reducible refine zQb (uX0 _ _ (by decide)) ?_
    | with_reducible refine zQe (zKd _ _ (by decide)) ?_
    | with_reducible refine zQb (yYm _ _ _) ?_
    | with_reducible refine zQb (zW9 (by simp only [Z.add,Z.sub]; omega)) ?_
    | refine zQa (by (simp only [Z.In,Z.Lt,Z.toN,Z.len,Z.sub,hb,Qh,hl]; omega)) ?_
    | refine zQy (by decide) ?_
    | exact hnext _ (if_neg (by omega)))
  ·obtain rfl : t = 64 := by omega
   refine zQm rfl ?_
   refine zQa (by simp [hl]) ?_
   refine zQa (by decide) ?_
   refine zQa (by simp) ?_
   rw [zQu (by simp [hl])]
end Go.Proofs.YtfeemnbhcafofaaDoor
