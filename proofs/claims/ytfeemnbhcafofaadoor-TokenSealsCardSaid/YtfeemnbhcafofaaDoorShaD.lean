/- SHA-256: digests. -/
import Derived.Test.YtfeemnbhcafofaaDoorShaC
namespace Go.Proofs.YtfeemnbhcafofaaDoor
open Go.Eng
set_option linter.unusedVariables false
set_option linter.unusedSimpArgs false
def fl (v : Nat→Int) (n k : Nat) : List Int:=(List.range n).map fun i=>if i < k then v i else 0
theorem xWa (v : Nat→Int) (n k : Nat) : (fl v n k).length=n:=by simp [fl]
theorem vK2 (v : Nat→Int) (n : Nat) : fl v n 0=List.replicate n 0:=by
 apply Jb
 intro i
 simp only [fl,Qq]
 by_cases h : i < n
 ·rw [List.getElem?_range h]; simp [h]
 ·rw [Jd (by simpa using h),Jd (by simpa using h)]; rfl
theorem uWf (v : Nat→Int) (n k : Nat) (h : k < n) : (fl v n k).set k (v k)=fl v n (k+1):=by
 apply Jb
 intro i
 rw [List.getElem?_set]
 simp only [fl,Qq,Qh,List.length_range]
 by_cases hi : i < n
 ·rw [List.getElem?_range hi]
  by_cases hk : k=i
  ·subst hk; simp [h]
  ·rw [if_neg hk]
   have : (i < k+1)=(i < k):=by simp; omega
   simp [this]
 ·have hn : (List.range n)[i]? = none := Jd (by simpa using hi)
  rw [hn]
  by_cases hk : k=i
  ·omega
  ·rw [if_neg hk]; rfl
theorem vK3 (v : Nat→Int) (n : Nat) : fl v n n=(List.range n).map v:=by
 simp only [fl]
 apply Jv
 intro i hi
 simp at hi; simp [hi]
def byteAt (X : List W32) (i : Nat) : Int:=Z.wrap .u8 (Z.shr .u32 (ofW (X.getD (i / 4) 0)) ((24 - 8 * (i % 4) : Nat) : Int))
def vWm (X : List W32) : List Int:=(List.range 32).map (byteAt X)
theorem zX5 (X : List W32) : (vWm X).length=32:=by simp [vWm]
theorem yKz (X : List W32) (hX : X.length=8) : yK0 (X.map ofW)=some (vWm X):=by
 have hX':=zZ3 hX
 unfold yK0
 rw [zQu hX']
 refine zQa hX' ?_
 have hm8 : ∀ s : Int×List Int,8 - s.1.toNat < 18446744073709551616:=fun s=>zKi 8 _ (by omega)
 have hm4 : ∀ s : Int×List Int,4 - s.1.toNat < 18446744073709551616:=fun s=>zKi 4 _ (by omega)
 refine zQn (fun s=>∃ i : Nat,i≤8∧s=((i : Int),fl (byteAt X) 32 (4 * i))) (fun s=>8 - s.1.toNat) ?_ ⟨0,by omega,by rw [Nat.mul_zero,vK2]; rfl⟩ (hm8 _)
 rintro s k ⟨i,hi,rfl⟩ hk
 dsimp only
 by_cases h : i < 8
 ·refine zQq (decide_eq_true (by omega)) ?_
  refine zQa ⟨by omega,by omega⟩ ?_
  refine zQb (get_map _ _) ?_
  refine zQn (fun s=>∃ j : Nat,j≤4∧s=((j : Int),fl (byteAt X) 32 (4 * i+j))) (fun s=>4 - s.1.toNat) ?_ ⟨0,by omega,rfl⟩ (hm4 _)
  rintro s k2 ⟨j,hj,rfl⟩ hk2
  dsimp only
  by_cases h4 : j < 4
  ·refine zQq (decide_eq_true (by omega)) ?_
   refine zQb (zW9 (by simp only [Z.mul]; omega)) ?_
   refine zQb (y:=((4 * i+j : Nat) : Int)) (by rw [zW9]<;>simp only [Z.add,Z.mul]<;>omega) ?_
   refine zQb (zW9 (by simp only [Z.mul]; omega)) ?_
   refine zQb (y:=((24 - 8 * j : Nat) : Int)) (by rw [zW9]<;>simp only [Z.sub,Z.mul]<;>omega) ?_
   refine zQy (by simp only [Z.Neg]; omega) ?_
   refine zQb rfl ?_
   refine zQb (y := byteAt X (4 * i + j)) (by
    rw [byteAt,show (4 * i+j) / 4=i by omega,show (4 * i+j) % 4=j by omega]; simp only [Z.toN,Jm]) ?_
   refine zQa ⟨by omega,by omega⟩ ?_
   refine zQa (by simp only [Z.Lt,Z.toN,Z.len,Jm,xWa]; omega) ?_
   refine zQb (y:=fl (byteAt X) 32 (4 * i+j+1)) (by simp only [Z.set,Z.toN,Jm]; exact uWf _ _ _ (by omega)) ?_
   refine zQb (zW9 (by simp only [Z.add]; omega)) ?_
   refine hk2 _ ⟨j+1,by omega,rfl⟩ ?_
   show 4 - ((j : Int)+1).toNat < 4 - ((j : Int)).toNat; omega
  ·obtain rfl : j = 4 := by omega
   refine zQm rfl ?_
   refine zQb (zW9 (by simp only [Z.add]; omega)) ?_
   refine hk _ ⟨i+1,by omega,rfl⟩ ?_
   show 8 - ((i : Int)+1).toNat < 8 - ((i : Int)).toNat; omega
 ·obtain rfl : i = 8 := by omega
  refine zQm rfl ?_
  refine zQa (xWa _ _ _) ?_
  refine zQa (by decide) ?_
  rw [zQu (xWa _ _ _)]
  refine zQa (xWa _ _ _) ?_
  rw [vK3]; rfl
def lenB (m : Int) (i : Nat) : Int:=Z.wrap .u8 (Z.shr .u64 (Z.wrap .u64 (8 * m)) ((8 * i : Nat) : Int))
def len8 (m : Int) : List Int:=[lenB m 7,lenB m 6,lenB m 5,lenB m 4,lenB m 3,lenB m 2,lenB m 1,lenB m 0]
def bk (base : List Int) (m : Int) : Nat → List Int
 | 0=>base
 | i+1=>(bk base m i).set (63 - i) (lenB m i)
theorem xKw (base : List Int) (m : Int) : ∀ i, (bk base m i).length = base.length
 | 0=>rfl
 | i+1=>by simp [bk,xKw base m i]
theorem bk_8 (base : List Int) (m : Int) (h : base.length=64) : bk base m 8=base.take 56++len8 m:=by
 have e : base=base.take 56++base.drop 56:=(Qr 56 base).symm
 have h2 : (base.drop 56).length=8:=by simp [h]
 have h1 : (base.take 56).length=56:=by simp [h]
 generalize base.take 56=A at *
 generalize base.drop 56=B at *
 subst e
 match B,h2 with
 | [a,b,c,d,x,f,g,i],_ =>
  have st : ∀ (B : List Int) (n : Nat) (v : Int),56≤n→(A++B).set n v=A++B.set (n - 56) v:=fun B n v hn=>by rw [List.set_append_right _ _ (by omega),h1]
  simp only [bk]
  rw [st _ _ _ (by decide),st _ _ _ (by decide),st _ _ _ (by decide),st _ _ _ (by decide),st _ _ _ (by decide),st _ _ _ (by decide),st _ _ _ (by decide),st _ _ _ (by decide)]
  rfl
def fin (W : List W32) (r : List Int) (m : Int) : List W32 :=
 if r.length < 56 then trn W (r++128::List.replicate (55 - r.length) 0++len8 m)
 else trn (trn W (r++128::List.replicate (63 - r.length) 0)) (List.replicate 56 0++len8 m)
def z32 : List Int:=List.replicate 32 0
def endS (W : List W32) (r : List Int) (m : Int) : List Int×Int:=if chk r m=0 then (vWm (fin W r m),0) else (z32,8)
theorem wX8 (W : List W32) (r : List Int) (m : Int) (hW : W.length = 8) (hr : r.length ≤ 100000) (hm : 0 ≤ m ∧ m < 18446744073709551616) :
  wQw (W.map ofW,(r,(m,())))=some (endS W r m):=by
 unfold wQw
 dsimp only
 rw [eight (zZ3 hW)]
 refine zQe (yZv _ r m hm.1 (by omega)) ?_
 unfold endS
 rcases wKl r m with h | h
 ·rw [h, if_pos rfl]
  obtain ⟨h1,h1r⟩:=uWl h
  have hr64 : r.length < 64:=by omega
  refine zQm rfl ?_
  have hmin : Z.minN (Z.len r) (Z.subN 64 0)=r.length:=by simp only [Z.minN,Z.len,Z.subN]; omega
  rw [hmin]
  have hput : Z.put (Z.rep 64 0) 0 (Z.take r.length r)=r++List.replicate (64 - r.length) 0:=by
   simp only [Z.put,Z.take,Z.rep,zQt,Q8,Ki,J3,Kz,List.drop_replicate]
  rw [hput]
  have hset : Z.set (r++List.replicate (64 - r.length) (0 : Int)) (Z.toN (Z.ofN r.length)) 128=r++128::List.replicate (63 - r.length) 0:=by
   simp only [Z.set,Z.toN,Z.ofN,Jm]
   rw [List.set_append_right _ _ (Qe _),Nat.sub_self,show 64 - r.length=(63 - r.length)+1 by omega,Ka,List.set_cons_zero]
  refine zQa (by simp [hW]) ?_
  refine zQa (by decide) ?_
  refine zQa (by decide) ?_
  refine zQa (by decide) ?_
  refine zQa ⟨by simp only [Z.ofN]; omega,by simp only [Z.ofN]; omega⟩ ?_
  refine zQa (by simp [Z.Lt,Z.toN,Z.ofN,Z.len]; omega) ?_
  refine zQb hset ?_
  have hb64 : (r++128::List.replicate (63 - r.length) (0 : Int)).length=64:=by simp; omega
  have hm8 : ∀ s : Int×List Int,8 - s.1.toNat < 18446744073709551616:=fun s=>zKi 8 _ (by omega)
  by_cases h56 : r.length < 56
  ·refine zQm (decide_eq_false (by simp only [Z.ofN]; omega)) ?_
   generalize hbase : r++128::List.replicate (63 - r.length) (0 : Int)=base at hb64
   refine zQn (fun s=>∃ i : Nat,i≤8∧s=((i : Int),bk base m i)) (fun s=>8 - s.1.toNat) ?_ ⟨0,by omega,rfl⟩ (hm8 _)
   rintro s k ⟨i,hi,rfl⟩ hk
   dsimp only
   by_cases hi8 : i < 8
   ·refine zQq (decide_eq_true (by omega)) ?_
    refine zQb (y:=((63 - i : Nat) : Int)) (by rw [zW9]<;>simp only [Z.sub]<;>omega) ?_
    refine zQb rfl ?_
    refine zQb (y:=((8 * i : Nat) : Int)) (by rw [zW9]<;>simp only [Z.mul]<;>omega) ?_
    refine zQy (by simp only [Z.Neg]; omega) ?_
    refine zQb rfl ?_
    refine zQb (y:=lenB m i) rfl ?_
    refine zQa ⟨by omega,by omega⟩ ?_
    refine zQa (by simp only [Z.Lt,Z.toN,Z.len,Jm,xKw,hb64]; omega) ?_
    refine zQb (y:=bk base m (i+1)) (by simp only [Z.set,Z.toN,Jm,bk]) ?_
    refine zQb (zW9 (by simp only [Z.add]; omega)) ?_
    refine hk _ ⟨i+1,by omega,rfl⟩ ?_
    show 8 - ((i : Int)+1).toNat < 8 - ((i : Int)).toNat; omega
   ·obtain rfl : i = 8 := by omega
    refine zQm rfl ?_
    refine zQa (by simp [hW]) ?_
    refine zQa (by simp [xKw,hb64]) ?_
    refine zQe (zJg W _ hW (by simp [xKw,hb64])) ?_
    refine zQe (yKz _ (xXe _ _ hW)) ?_
    refine zQa (by decide) ?_
    rw [zQu (zX5 _)]
    refine zQa (zX5 _) ?_
    rw [bk_8 base m hb64,fin,if_pos h56,← hbase]
    rw [show (r++128::List.replicate (63 - r.length) (0 : Int)).take 56=r++128::List.replicate (55 - r.length) 0 from by
     rw [List.take_append,Qp (by omega),show 56 - r.length=(55 - r.length)+1 by omega,Kn,List.take_replicate]
     congr 3; omega]
  ·refine zQq (decide_eq_true (by simp only [Z.ofN]; omega)) ?_
   generalize hbase : r++128::List.replicate (63 - r.length) (0 : Int)=base at hb64
   refine zQa (by simp [hW]) ?_
   refine zQa hb64 ?_
   refine zQe (zJg W base hW hb64) ?_
   refine zQa (by simp [hW]) ?_
   refine zQa (by simp [hb64]) ?_
   have hV:=xXe W base hW
   refine zQn (fun s=>∃ i : Nat,i≤8∧s=((i : Int),bk (List.replicate 64 0) m i)) (fun s=>8 - s.1.toNat) ?_ ⟨0,by omega,rfl⟩ (hm8 _)
   rintro s k ⟨i,hi,rfl⟩ hk
   dsimp only
   have hz64 : (List.replicate 64 (0 : Int)).length=64:=List.length_replicate
   by_cases hi8 : i < 8
   ·refine zQq (decide_eq_true (by omega)) ?_
    refine zQb (y:=((63 - i : Nat) : Int)) (by rw [zW9]<;>simp only [Z.sub]<;>omega) ?_
    refine zQb rfl ?_
    refine zQb (y:=((8 * i : Nat) : Int)) (by rw [zW9]<;>simp only [Z.mul]<;>omega) ?_
    refine zQy (by simp only [Z.Neg]; omega) ?_
    refine zQb rfl ?_
    refine zQb (y:=lenB m i) rfl ?_
    refine zQa ⟨by omega,by omega⟩ ?_
    refine zQa (by simp only [Z.Lt,Z.toN,Z.len,Jm,xKw,hz64]; omega) ?_
    refine zQb (y:=bk (List.replicate 64 0) m (i+1)) (by simp only [Z.set,Z.toN,Jm,bk]) ?_
    refine zQb (zW9 (by simp only [Z.add]; omega)) ?_
    refine hk _ ⟨i+1,by omega,rfl⟩ ?_
    show 8 - ((i : Int)+1).toNat < 8 - ((i : Int)).toNat; omega
   ·obtain rfl : i = 8 := by omega
    refine zQm rfl ?_
    rw [zQu (zZ3 hV)]
    refine zQa (zZ3 hV) ?_
    refine zQa (by simp [xKw,hz64]) ?_
    refine zQe (zJg _ _ hV (by simp [xKw,hz64])) ?_
    refine zQe (yKz _ (xXe _ _ hV)) ?_
    refine zQa (by decide) ?_
    rw [zQu (zX5 _)]
    refine zQa (zX5 _) ?_
    rw [bk_8 _ m hz64,fin,if_neg h56,← hbase,List.take_replicate]
    rfl
 ·rw [h, if_neg (show ¬ (8 : Int) = 0 by decide)]
  refine zQq rfl ?_
  refine zQa (by decide) ?_
  refine zQa (by decide) ?_
  rfl
end Go.Proofs.YtfeemnbhcafofaaDoor
