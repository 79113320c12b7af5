/- SHA-256's rounds and turns. -/
import Derived.Test.YtfeemnbhcafofaaDoorShaA
namespace Go.Proofs.YtfeemnbhcafofaaDoor
open Go.Eng
set_option linter.unusedVariables false
set_option linter.unusedSimpArgs false
theorem vYc (e : W32) : Z.bxor .u32 4294967295 (ofW e)=ofW (4294967295#32 ^^^ e):=zZm 4294967295#32 e
theorem vXr (e : W32) : Z.bxor .u32 (ofW e) 4294967295=ofW (4294967295#32 ^^^ e):=by
 rw [BitVec.xor_comm]; exact zZm e 4294967295#32
def pW (s : List W32) (kw : W32) : W32:=s.getD 7 0+sg 6 11 25 false (s.getD 4 0)+((s.getD 4 0 &&& s.getD 5 0) ^^^ ((4294967295#32 ^^^ s.getD 4 0) &&& s.getD 6 0))+kw
def qW (s : List W32) : W32:=sg 2 13 22 false (s.getD 0 0)+((s.getD 0 0 &&& s.getD 1 0) ^^^ (s.getD 0 0 &&& s.getD 2 0) ^^^ (s.getD 1 0 &&& s.getD 2 0))
def rdW (s : List W32) (kw : W32) : List W32:=[pW s kw+qW s,s.getD 0 0,s.getD 1 0,s.getD 2 0,s.getD 3 0+pW s kw,s.getD 4 0,s.getD 5 0,s.getD 6 0]
theorem xK6 (s : List W32) (kw : W32) (hs : s.length=8) : yK1 (s.map ofW,ofW kw)=some ((rdW s kw).map ofW):=by
 unfold yK1
 dsimp only
 rw [zQu (by simp [hs])]
 repeat (first
  | with_reducible refine zQb (get_map _ _) ?_
  | with_reducible refine zQb (zKn _ _) ?_
  | with_reducible refine zQb (zZm _ _) ?_
  | with_reducible refine zQb (vYc _) ?_
  | with_reducible refine zQb (xQg _ _) ?_
  | with_reducible refine zQe (zXt _ 6 11 25 (by decide) (by decide) (by decide) false) ?_
  | with_reducible refine zQe (zXt _ 2 13 22 (by decide) (by decide) (by decide) false) ?_
  | refine zQa (by decide) ?_
  | refine zQa (by simp [hs]) ?_)
 rfl
def kW : List W32:=gl0.map (BitVec.ofInt 32)
theorem gl0_eq : gl0=kW.map ofW:=by decide
theorem get_k (i : Nat) : Z.get gl0 i 0=ofW (kW.getD i 0):=by rw [gl0_eq]; exact get_map _ _
theorem add_k (p w : W32) (i : Nat) : Z.wrap .u32 (Z.add (ofW (p+kW.getD i 0)) (ofW w))=ofW (p+(kW.getD i 0+w)):=by rw [zKn,BitVec.add_assoc]
theorem xWm : yQr ()=some gl0:=by
 unfold yQr
 refine zQa (by decide) ?_
 refine zQa (by decide) ?_
 rfl
def rsW (W : List W32) (b : List Int) : Nat → List W32
 | 0=>W
 | t+1=>rdW (rsW W b t) (kW.getD t 0+(stW b 64).getD t 0)
theorem vZn (W : List W32) (b : List Int) (hW : W.length = 8) : ∀ t, (rsW W b t).length = 8
 | 0=>hW
 | t+1=>rfl
def adW (W n : List W32) : Nat → List W32
 | 0=>W
 | i+1=>(adW W n i).set i ((adW W n i).getD i 0+n.getD i 0)
theorem wXq (W n : List W32) (hW : W.length = 8) : ∀ t, (adW W n t).length = 8
 | 0=>hW
 | t+1=>by simp [adW,wXq W n hW t]
def trn (W : List W32) (b : List Int) : List W32:=adW W (rsW W b 64) 8
theorem xXe (W : List W32) (b : List Int) (hW : W.length=8) : (trn W b).length=8:=wXq _ _ hW _
theorem hb64 (s : Int×List Int) : 64 - s.1.toNat < 18446744073709551616:=zKi 64 _ (by omega)
theorem hb8 (s : Int×List Int) : 8 - s.1.toNat < 18446744073709551616:=zKi 8 _ (by omega)
theorem zJg (W : List W32) (b : List Int) (hW : W.length=8) (hb : b.length=64) : yQm (W.map ofW,b)=some ((trn W b).map ofW):=by
 have hW' : (W.map ofW).length=8:=by simp [hW]
 unfold yQm
 dsimp only
 rw [zQu hb,zQu hW',zQu hW']
 refine zQa hb ?_
 refine zQe (xXu b hb) ?_
 refine zQa (by decide) ?_
 refine zQa hW' ?_
 refine zQa (by decide) ?_
 rw [zQu (show ((stW b 64).map ofW).length=64 by simp [yWq])]
 refine zQn (fun s=>∃ t : Nat,t≤64∧s=((t : Int),(rsW W b t).map ofW)) (fun s=>64 - s.1.toNat) ?_ ⟨0,by omega,rfl⟩ (hb64 _)
 rintro s k ⟨t,ht,rfl⟩ hk
 have hl:=vZn W b hW t
 dsimp only
 by_cases h : t < 64
 ·refine zQq (show decide _ = true from decide_eq_true (by omega)) ?_
  refine zQa (by simp [hl]) ?_
  refine zQa ⟨by omega,by omega⟩ ?_
  refine zQb (get_k _) ?_
  refine zQa ⟨by omega,by omega⟩ ?_
  refine zQa (by simp [yWq]; omega) ?_
  refine zQb (get_map _ _) ?_
  refine zQb (zKn _ _) ?_
  refine zQe (xK6 _ _ hl) ?_
  refine zQa (by simp [hl]) ?_
  refine zQb (zW9 (by simp only [Z.add]; omega)) ?_
  rw [zQu (by simp [rdW])]
  refine hk _ ⟨t+1,by omega, ?_⟩ ?_
  ·simp [rsW]
  ·show 64 - ((t : Int)+1).toNat < 64 - ((t : Int)).toNat; omega
 ·obtain rfl : t = 64 := by omega
  refine zQm rfl ?_
  refine zQn (fun s=>∃ i : Nat,i≤8∧s=((i : Int),(adW W (rsW W b 64) i).map ofW)) (fun s=>8 - s.1.toNat) ?_ ⟨0,by omega,rfl⟩ (hb8 _)
  clear hk k ht h
  rintro s k ⟨i,hi,rfl⟩ hk
  have hl2:=wXq W (rsW W b 64) hW i
  dsimp only
  by_cases h : i < 8
  ·refine zQq (show decide _ = true from decide_eq_true (by omega)) ?_
   refine zQa ⟨by omega,by omega⟩ ?_
   refine zQa (by simp [hl2]; omega) ?_
   refine zQb (get_map _ _) ?_
   refine zQa ⟨by omega,by omega⟩ ?_
   refine zQa (by simp [hl]; omega) ?_
   refine zQb (get_map _ _) ?_
   refine zQb (zKn _ _) ?_
   refine zQa ⟨by omega,by omega⟩ ?_
   refine zQa (by simp [hl2]; omega) ?_
   refine zQb (yYm _ _ _) ?_
   refine zQb (zW9 (by simp only [Z.add]; omega)) ?_
   refine hk _ ⟨i+1,by omega, ?_⟩ ?_
   ·simp [adW]
   ·show 8 - ((i : Int)+1).toNat < 8 - ((i : Int)).toNat; omega
  ·obtain rfl : i = 8 := by omega
   refine zQm rfl ?_
   refine zQa (by simp [hl2]) ?_
   refine zQa (by decide) ?_
   rw [zQu (by simp [hl2])]
   refine zQa (by simp [hl2]) ?_
   rfl
theorem yWx (W : List W32) (b : List Int) (hW : W.length=8) (hb : b.length=64) : zY1 (W.map ofW,b)=some ((trn W b).map ofW):=by
 have hW' : (W.map ofW).length=8:=by simp [hW]
 unfold zY1
 dsimp only
 rw [zQu hW',zQu hW']
 refine zQe xWm ?_
 refine zQa (by decide) ?_
 refine zQe (xWl b hb) ?_
 refine zQa (by decide) ?_
 refine zQa hW' ?_
 refine zQa (by decide) ?_
 rw [zQu (show ((stW b 64).map ofW).length=64 by simp [yWq]),zQu (show gl0.length=64 by decide)]
 refine zQn (fun s=>∃ t : Nat,t≤64∧s=((t : Int),(rsW W b t).map ofW)) (fun s=>64 - s.1.toNat) ?_ ⟨0,by omega,rfl⟩ (hb64 _)
 rintro s k ⟨t,ht,rfl⟩ hk
 have hl:=vZn W b hW t
 dsimp only
 by_cases h : t < 64
 ·refine zQq (show decide _ = true from decide_eq_true (by omega)) ?_
  have gt : Z.Lt (Z.toN (t : Int)) (Z.len gl0):=by show (t : Int).toNat < 64; omega
  have hnext : k ((t : Int)+1,(rdW (rsW W b t) (kW.getD t 0+(stW b 64).getD t 0)).map ofW)=some ((trn W b).map ofW):=by
   refine hk _ ⟨t+1,by omega, ?_⟩ ?_
   ·simp [rsW]
   ·show 64 - ((t : Int)+1).toNat < 64 - ((t : Int)).toNat; omega
  refine zQa (by decide) ?_
  refine zQa (by simp [hl]) ?_
  refine zQb (get_map _ _) ?_
  refine zQa (by decide) ?_
  refine zQa (by simp [hl]) ?_
  refine zQb (get_map _ _) ?_
  refine zQb (xQg _ _) ?_
  refine zQb (vXr _) ?_
  refine zQa (by decide) ?_
  refine zQa (by simp [hl]) ?_
  refine zQb (get_map _ _) ?_
  refine zQb (xQg _ _) ?_
  refine zQb (zZm _ _) ?_
  refine zQa (by decide) ?_
  refine zQa (by simp [hl]) ?_
  refine zQb (get_map _ _) ?_
  refine zQa ⟨by omega,by omega⟩ ?_
  refine zQa gt ?_
  refine zQb (get_k _) ?_
  refine zQa ⟨by omega,by omega⟩ ?_
  refine zQa (by simp [yWq]; omega) ?_
  refine zQb (get_map _ _) ?_
  refine zQe (zKd _ _ (by decide)) ?_
  refine zQe (zKd _ _ (by decide)) ?_
  refine zQb (zZm _ _) ?_
  refine zQe (zKd _ _ (by decide)) ?_
  refine zQb (zZm _ _) ?_
  refine zQb (zKn _ _) ?_
  refine zQb (zKn _ _) ?_
  refine zQb (zKn _ _) ?_
  refine zQb (add_k _ _ _) ?_
  refine zQa (by decide) ?_
  refine zQa (by simp [hl]) ?_
  refine zQb (get_map _ _) ?_
  refine zQa (by decide) ?_
  refine zQa (by simp [hl]) ?_
  refine zQb (get_map _ _) ?_
  refine zQb (xQg _ _) ?_
  refine zQa (by decide) ?_
  refine zQa (by simp [hl]) ?_
  refine zQb (get_map _ _) ?_
  refine zQb (xQg _ _) ?_
  refine zQb (zZm _ _) ?_
  refine zQa (by decide) ?_
  refine zQa (by simp [hl]) ?_
  refine zQb (get_map _ _) ?_
  refine zQa (by decide) ?_
  refine zQa (by simp [hl]) ?_
  refine zQb (get_map _ _) ?_
  refine zQb (xQg _ _) ?_
  refine zQb (zZm _ _) ?_
  refine zQe (zKd _ _ (by decide)) ?_
  refine zQe (zKd _ _ (by decide)) ?_
  refine zQb (zZm _ _) ?_
  refine zQe (zKd _ _ (by decide)) ?_
  refine zQb (zZm _ _) ?_
  refine zQb (zKn _ _) ?_
  refine zQb (zKn _ _) ?_
  refine zQa (by decide) ?_
  refine zQa (by simp [hl]) ?_
  refine zQb (get_map _ _) ?_
  refine zQa (by decide) ?_
  refine zQa (by simp [hl]) ?_
  refine zQb (get_map _ _) ?_
  refine zQa (by decide) ?_
  refine zQa (by simp [hl]) ?_
  refine zQb (get_map _ _) ?_
  refine zQa (by decide) ?_
  refine zQa (by simp [hl]) ?_
  refine zQb (get_map _ _) ?_
  refine zQb (zKn _ _) ?_
  refine zQa (by decide) ?_
  refine zQa (by simp [hl]) ?_
  refine zQb (get_map _ _) ?_
  refine zQa (by decide) ?_
  refine zQa (by simp [hl]) ?_
  refine zQb (get_map _ _) ?_
  refine zQa (by decide) ?_
  refine zQa (by simp [hl]) ?_
  refine zQb (get_map _ _) ?_
  refine zQa (by simp [hl]) ?_
  refine zQb (zW9 (by simp only [Z.add]; omega)) ?_
  exact hnext
 ·obtain rfl : t = 64 := by omega
  refine zQm rfl ?_
  refine zQn (fun s=>∃ i : Nat,i≤8∧s=((i : Int),(adW W (rsW W b 64) i).map ofW)) (fun s=>8 - s.1.toNat) ?_ ⟨0,by omega,rfl⟩ (hb8 _)
  clear hk k ht h
  rintro s k ⟨i,hi,rfl⟩ hk
  have hl2:=wXq W (rsW W b 64) hW i
  dsimp only
  by_cases h : i < 8
  ·refine zQq (show decide _ = true from decide_eq_true (by omega)) ?_
   refine zQa ⟨by omega,by omega⟩ ?_
   refine zQa (by simp [hl2]; omega) ?_
   refine zQb (get_map _ _) ?_
   refine zQa ⟨by omega,by omega⟩ ?_
   refine zQa (by simp [hl]; omega) ?_
   refine zQb (get_map _ _) ?_
   refine zQb (zKn _ _) ?_
   refine zQa ⟨by omega,by omega⟩ ?_
   refine zQa (by simp [hl2]; omega) ?_
   refine zQb (yYm _ _ _) ?_
   refine zQb (zW9 (by simp only [Z.add]; omega)) ?_
   refine hk _ ⟨i+1,by omega, ?_⟩ ?_
   ·simp [adW]
   ·show 8 - ((i : Int)+1).toNat < 8 - ((i : Int)).toNat; omega
  ·obtain rfl : i = 8 := by omega
   refine zQm rfl ?_
   refine zQa (by simp [hl2]) ?_
   refine zQa (by decide) ?_
   rw [zQu (by simp [hl2])]
   refine zQa (by simp [hl2]) ?_
   rfl
end Go.Proofs.YtfeemnbhcafofaaDoor
