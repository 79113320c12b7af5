/- SHA-256: bytes that come. -/
import Derived.Test.YtfeemnbhcafofaaDoorShaB
namespace Go.Proofs.YtfeemnbhcafofaaDoor
open Go.Eng
set_option linter.unusedVariables false
set_option linter.unusedSimpArgs false
theorem eight {l : List Int} (h : l.length=8) : (Z.get l 0 0::Z.get l 1 0::Z.get l 2 0::Z.get l 3 0::Z.get l 4 0::Z.get l 5 0::Z.get l 6 0::Z.get l 7 0::([] : List Int))=l:=by
 match l,h with
 | [a,b,c,d,e,f,g,i],_=>rfl
def pk8 {α : Type} (X : List Int) (r : α) : Int×(Int×(Int×(Int×(Int×(Int×(Int×(Int×α))))))) :=
 (Z.get X 0 0,(Z.get X 1 0,(Z.get X 2 0,(Z.get X 3 0,(Z.get X 4 0,(Z.get X 5 0,(Z.get X 6 0,(Z.get X 7 0,r))))))))
theorem zZ3 {W : List W32} (h : W.length=8) : (W.map ofW).length=8:=by simp [h]
def eat (W : List W32) (l : List Int) : Nat → List W32
 | 0=>W
 | n+1=>trn (eat W l n) ((l.drop (64 * n)).take 64)
theorem yWa (W : List W32) (l : List Int) (hW : W.length = 8) : ∀ n, (eat W l n).length = 8
 | 0=>hW
 | n+1=>xXe _ _ (yWa W l hW n)
theorem vJa (W : List W32) (l m : List Int) : ∀ n, 64 * n ≤ l.length → eat W (l ++ m) n = eat W l n
 | 0,_=>rfl
 | n+1,h=>by
  simp only [eat]
  rw [vJa W l m n (by omega),Kc (by omega),Ju (by simp; omega)]
theorem vJb (W : List W32) (l : List Int) (n : Nat) : ∀ k, eat W l (n + k) = eat (eat W l n) (l.drop (64 * n)) k
 | 0=>rfl
 | k+1=>by
  rw [← Jq]
  simp only [eat]
  rw [vJb W l n k,K6,← Nat.mul_add]
def chk (r : List Int) (m : Int) : Int:=if m < 72057594037927936∧(r.length : Int)=m % 64 then 0 else 8
theorem wKl (r : List Int) (m : Int) : chk r m=0∨chk r m=8:=by unfold chk; split<;>simp
theorem uWl {r : List Int} {m : Int} (h : chk r m=0) : m < 72057594037927936∧(r.length : Int)=m % 64:=by
 unfold chk at h
 split at h
 ·assumption
 ·simp at h
theorem yZv (X r : List Int) (m : Int) (hm : 0≤m) (hr : r.length < 4294967296) : yWt (X,(r,(m,())))=some (chk r m):=by
 unfold yWt
 dsimp only
 by_cases h : m < 72057594037927936
 ·refine zQm (decide_eq_false (by omega)) ?_
  refine zQb (wQg (by simp only [Z.ofN,Z.len]; omega)) ?_
  refine zQy (by decide) ?_
  refine zQb (y:=m % 64) (Int.tmod_eq_emod_of_nonneg hm) ?_
  by_cases h2 : (r.length : Int)=m % 64
  ·refine zQm (by show (if False then false else (r.length : Int) != m % 64) = false; simp [h2]) ?_
   rw [chk,if_pos ⟨h,h2⟩]
  ·refine zQq (by simp [Z.zQr, Z.ine, Z.ofN, Z.len, h2]) ?_
   rw [chk,if_neg (fun x=>h2 x.2)]
 ·refine zQq (decide_eq_true (by omega)) ?_
  rw [chk,if_neg (fun x=>h x.1)]
theorem xX6 (W : List W32) (r b : List Int) (m : Int) (hW : W.length = 8) (hr : r.length ≤ 100000) (hb : b.length ≤ 100000) (hm : 0 ≤ m ∧ m + 100000 < 18446744073709551616) :
  yZd ((W.map ofW,(r,(m,()))),b)=some ((eat W (r++b) ((r++b).length / 64)).map ofW,((r++b).drop (64 * ((r++b).length / 64)),(m+b.length,()))):=by
 unfold yZd
 dsimp only
 refine zQa (by decide) ?_
 refine zQy (by simp only [Z.Big,Z.len,Z.seg,List.drop_nil,List.take_nil,Jt]; omega) ?_
 refine zQb (y:=r) (by simp [Z.app,Z.seg]) ?_
 refine zQy (by simp only [Z.Big,Z.len]; omega) ?_
 refine zQa rfl ?_
 refine zQb (y:=r++b) rfl ?_
 have hl : (r++b).length=r.length+b.length:=Qt
 generalize r++b=l at hl
 have h0 : ∃ n,64 * n≤l.length∧((l,pk8 (W.map ofW) (r,m)) : List Int×_)=(l.drop (64 * n),pk8 ((eat W l n).map ofW) (r,m)):=⟨0,by omega,rfl⟩
 refine zQn (fun s=>∃ n,64 * n≤l.length∧s=(l.drop (64 * n),pk8 ((eat W l n).map ofW) (r,m))) (fun s=>s.1.length) ?_ h0 (by show l.length < _; omega)
 rintro s k ⟨n,hn,rfl⟩ hk
 have h8:=zZ3 (yWa W l hW n)
 simp only [pk8]
 rw [eight h8]
 by_cases h : 64≤(l.drop (64 * n)).length
 ·refine zQq (decide_eq_true (by simp only [Z.ofN, Z.len]; omega)) ?_
  refine zQa ⟨by omega,by simp only [Z.len]; omega⟩ ?_
  refine zQb (y:=(l.drop (64 * n)).take 64) (by simp [Z.slice,Z.toN]) ?_
  refine zQe (yWx (eat W l n) _ (yWa W l hW n) (by simp at h ⊢; omega)) ?_
  refine zQa ⟨by omega,by simp only [Z.len]; omega⟩ ?_
  refine zQb (y:=l.drop (64 * (n+1))) (by simp only [Z.slice,Z.toN,Z.len,Q8,K6]; rfl) ?_
  refine hk _ ⟨n+1,by simp at h; omega,rfl⟩ ?_
  show (l.drop (64 * (n+1))).length < (l.drop (64 * n)).length
  simp at h ⊢; omega
 ·refine zQm (decide_eq_false (by simp only [Z.ofN, Z.len]; omega)) ?_
  have hq : l.length / 64=n:=by simp at h; omega
  rw [hq]
  refine zQb (wQg (by simp only [Z.ofN,Z.len]; omega)) ?_
  refine zQb (wQg (by simp only [Z.add,Z.ofN,Z.len]; omega)) ?_
  rfl
def z8 : List Int:=[0,0,0,0,0,0,0,0]
def uZq (W : List W32) (r : List Int) (m : Int) (b : List Int) : (List Int×(List Int×(Int×Unit)))×Int :=
 if chk r m=0 then
  (if m+b.length ≥ 72057594037927936 then ((z8,([],(0,()))),4)
  else (((eat W (r++b) ((r++b).length / 64)).map ofW,((r++b).drop (64 * ((r++b).length / 64)),(m+b.length,()))),0))
 else ((z8,([],(0,()))),8)
theorem wQv (W : List W32) (r b : List Int) (m : Int) (hW : W.length = 8) (hr : r.length ≤ 100000) (hb : b.length ≤ 100000) (hm : 0 ≤ m ∧ m < 18446744073709551616) :
  yK2 ((W.map ofW,(r,(m,()))),b)=some (uZq W r m b):=by
 unfold yK2
 dsimp only
 rw [eight (zZ3 hW)]
 refine zQe (yZv _ r m hm.1 (by omega)) ?_
 unfold uZq
 rcases wKl r m with h | h
 ·rw [h, if_pos rfl]
  obtain ⟨h1,h1r⟩:=uWl h
  refine zQm rfl ?_
  refine zQb (wQg (by simp only [Z.ofN,Z.len]; omega)) ?_
  refine zQb (wQg (by simp only [Z.sub]; omega)) ?_
  by_cases h2 : m+b.length ≥ 72057594037927936
  ·refine zQq (decide_eq_true (by simp only [Z.sub, Z.ofN, Z.len]; omega)) ?_
   rw [if_pos h2]; rfl
  ·refine zQm (decide_eq_false (by simp only [Z.sub, Z.ofN, Z.len]; omega)) ?_
   rw [if_neg h2]
   refine zQb (wQg (by simp only [Z.ofN,Z.len]; omega)) ?_
   refine zQb (y:=m+b.length) (wQg (by simp only [Z.add,Z.ofN,Z.len]; omega)) ?_
   refine zQa (by decide) ?_
   refine zQa (by decide) ?_
   refine zQa (by decide) ?_
   have hr64 : r.length < 64:=by omega
   have hmin : Z.minN (Z.len r) (Z.subN 64 0)=r.length:=by simp only [Z.minN,Z.len,Z.subN]; omega
   rw [hmin]
   have hl : (r++b).length=r.length+b.length:=Qt
   have hstart : Z.put (Z.rep 64 0) 0 (Z.take r.length r)=r++List.replicate (64 - r.length) 0:=by
    simp only [Z.put,Z.take,Z.rep,zQt,Q8,Ki,J3,Kz,List.drop_replicate]
   rw [hstart]
   generalize hlb : r++b=l at hl
   refine zQn (fun s => ∃ (n f : Nat) (c blk : List Int), 64 * n ≤ l.length ∧ f < 64 ∧ blk.length = 64 ∧ l.drop (64 * n) = blk.take f ++ c ∧ s = ((f : Int), (c, (pk8 ((eat W l n).map ofW) (([] : List Int), m + b.length), blk))))
    (fun s=>s.2.1.length) ?_ ⟨0,r.length,b,r++List.replicate (64 - r.length) 0,by omega,hr64,by simp; omega,by simp [← hlb],rfl⟩ (by show b.length < _; omega)
   rintro s k ⟨n,f,c,blk,hn,hf,hblk,hdr,rfl⟩ hk
   have h8:=zZ3 (yWa W l hW n)
   have hX8:=yWa W l hW n
   simp only [pk8]
   rw [eight h8]
   generalize hmn : Z.minN (Z.len c) (Z.subN 64 (Z.toN (f : Int)))=mn
   have hmn' : mn=min c.length (64 - f):=by rw [← hmn]; simp [Z.minN,Z.len,Z.subN,Z.toN]
   have hlen : l.length - 64 * n=f+c.length:=by
    have:=congrArg List.length hdr
    simp only [Kq,Qt,Jy,hblk] at this
    omega
   refine zQa (by simp only [Z.Le,Z.len]; omega) ?_
   refine zQa ⟨by omega,by omega⟩ ?_
   refine zQa (by simp only [Z.Lt,Z.toN]; omega) ?_
   refine zQa (by simp only [Z.Le,Z.addN,Z.subN,Z.toN,Z.len]; omega) ?_
   refine zQb (y:=((f+mn : Nat) : Int)) (by rw [zW9]<;>simp only [Z.add,Z.ofN]<;>omega) ?_
   refine zQa ⟨by simp only [Z.ofN]; omega,by simp only [Z.ofN,Z.len]; omega⟩ ?_
   refine zQb (y:=c.drop mn) (by simp [Z.slice,Z.toN,Z.ofN,Z.len]) ?_
   have hput : Z.put blk (Z.toN (f : Int)) (Z.take mn c)=blk.take f++c.take mn++blk.drop (f+mn):=by
    simp only [Z.put,Z.take,Z.toN,zQt,Jm,Jy]
    congr 3; omega
   rw [hput]
   have hpl : (blk.take f++c.take mn++blk.drop (f+mn)).length=64:=by simp; omega
   generalize hb2 : blk.take f++c.take mn++blk.drop (f+mn)=blk2 at hpl
   by_cases h3 : f+mn < 64
   ·refine zQq (decide_eq_true (by omega)) ?_
    have hmc : mn=c.length:=by omega
    have hq : l.length / 64=n:=by omega
    rw [hq]
    have hseg : Z.seg blk2 0 (Z.subN (Z.toN ((f+mn : Nat) : Int)) 0)=l.drop (64 * n):=by
     simp only [Z.seg,Z.subN,Z.toN,Jm,Jk,Nat.sub_zero]
     rw [← hb2,Jw,hdr,hmc,Q8,← Jw,Ju (by simp; omega),Qp (by simp; omega)]
    rw [hseg]
    have hrl : (l.drop (64 * n)).length=f+mn:=by simp; omega
    refine zQa (by simp only [Z.Le,Z.len]; omega) ?_
    refine zQa ⟨by omega,by omega⟩ ?_
    have gle : Z.Le (Z.addN 0 (Z.subN (Z.toN ((f+mn : Nat) : Int)) 0)) (Z.len blk2):=by simp only [Z.Le,Z.addN,Z.subN,Z.toN,Z.len]; omega
    rw [if_pos (show Z.Lt 0 64 by decide)]
    refine zQa gle ?_
    by_cases h4 : (l.drop (64 * n)).length=0
    ·rw [if_pos (show Z.EqN (Z.len (l.drop (64 * n))) 0 from h4)]
     have hnil : l.drop (64 * n)=[]:=Qu.1 h4
     rw [hnil]
     refine zQa gle ?_
     refine zQe (show zWg []=some [] from by unfold zWg; rfl) ?_
     exact zQa rfl rfl
    ·rw [if_neg (show ¬ Z.EqN (Z.len (l.drop (64 * n))) 0 from h4)]
     refine zQa gle ?_
     refine zQa (by decide) ?_
     rw [if_neg (show ¬ Z.EqN (Z.len (l.drop (64 * n))) 0 from h4)]
     refine zQy (by simp only [Z.Big,Z.len,Z.seg,List.drop_nil,List.take_nil,Jt]; omega) ?_
     refine zQb (y:=l.drop (64 * n)) (by simp [Z.app,Z.seg]) ?_
     refine zQa (by simp [Z.Le,Z.addN,Z.len]) ?_
     simp only [Z.seg,Z.len,Jk,Q8]
   ·refine zQm (decide_eq_false (by omega)) ?_
    have hmc : mn=64 - f:=by omega
    refine zQa hpl ?_
    refine zQe (zJg (eat W l n) blk2 hX8 hpl) ?_
    have hblk2 : blk2=(l.drop (64 * n)).take 64:=by
     rw [hdr,← hb2,Km (by omega),Jo,List.take_append,List.take_take,Jy]
     congr 2<;>omega
    refine hk _ ⟨n+1,0,c.drop mn,blk2,by omega,by omega,hpl, ?_, ?_⟩ ?_
    ·rw [Ki, J3, show 64 * (n + 1) = 64 * n + 64 by omega, ← K6, hdr, List.drop_append, Jy, Km (by simp; omega), J3]
     congr 1; omega
    ·rw [hblk2]; rfl
    ·show (c.drop mn).length < c.length
     simp; omega
 ·rw [h, if_neg (by decide)]
  exact zQq rfl rfl
end Go.Proofs.YtfeemnbhcafofaaDoor
