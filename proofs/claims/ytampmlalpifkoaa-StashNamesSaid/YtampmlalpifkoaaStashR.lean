/- Stashes: a block found, put and dropped. -/
import Derived.Test.YtampmlalpifkoaaStashQ
namespace Go.Proofs.Ytampmlalpifkoaa
open Go.Eng
set_option linter.unusedVariables false
set_option linter.unusedSimpArgs false
theorem yJl {B S H W : Int} {s : List Blk} (h : ckS B S H W s=0) : (zK5 B S H W).2=0∧stB B S H s=true:=by
 unfold ckS at h
 split at h
 ·rename_i h0
  split at h
  ·rename_i h1; exact ⟨h0,h1⟩
  ·simp at h
 ·simp at h
theorem wZ2 (B S H W : Int) (s : List Blk) : ckS B S H W s=0∨ckS B S H W s=8:=by
 unfold ckS; split
 ·split
  ·exact .inl rfl
  ·exact .inr rfl
 ·exact .inr rfl
theorem xJb {B S H W : Int} {s : List Blk} (h : ckS B S H W s=0) : ∀ x∈s,x.2.2.1.length≤2000000:=by
 obtain ⟨h0,h1⟩:=yJl h
 obtain ⟨l1,l2,l3,l4,l5,l6⟩:=yXt.1 (yWs h0)
 intro x hx
 have:=(yKj.1 h1).1 x hx
 unfold xXc at this
 have:=of_decide_eq_true this
 omega
theorem xW2 {s : List Blk} {id : Int} {p : Nat} (hp : s.Pairwise (fun x y=>x.1 < y.1)) (e : lbN s id=p) (h : p < s.length) (hi : s[p].1=id) : fdS s id=some s[p]:=by
 rw [wJx s id hp,e,Qo h]
 show (if s[p].1=id then some s[p] else none)=_
 rw [if_pos hi]
theorem vXv {s : List Blk} {id : Int} {p : Nat} (hp : s.Pairwise (fun x y=>x.1 < y.1)) (e : lbN s id=p) (h : p < s.length) (hi : ¬ s[p].1=id) : fdS s id=none:=by
 rw [wJx s id hp,e,Qo h]
 show (if s[p].1=id then some s[p] else none)=_
 rw [if_neg hi]
theorem wZn {s : List Blk} {id : Int} (hp : s.Pairwise (fun x y=>x.1 < y.1)) (h : ¬ lbN s id < s.length) : fdS s id=none:=by
 rw [wJx s id hp,Jx (by omega)]
def pS (B S H W : Int) (s : List Blk) (b : Blk) : List Blk×Int:=if ckS B S H W s=0 then (if zK0 B S H W b.1 b.2.1 b.2.2.1=0 then (putR s b,0) else ([],8)) else ([],8)
theorem inN {i n : Nat} (h : i < n) : Z.In (i : Int) n:=⟨by omega,by omega⟩
theorem bdN {i n : Nat} (h : i≤n) : Z.Bd (i : Int) n:=⟨by omega,by omega⟩
theorem wX7 (s : List Blk) (b z : Blk) (p : Nat) (h : p < s.length) :
  zQb (zQb (s.take p++List.replicate (s.length+1 - p) z) p [b]) (p+1) (s.drop p)=s.take p++b::s.drop p:=by
 have l1 : (s.take p).length=p:=by simp; omega
 have e1 : zQb (s.take p++List.replicate (s.length+1 - p) z) p [b]=s.take p++b::List.replicate (s.length - p) z:=by
  unfold zQb
  rw [Q9 (by omega),List.take_take,Nat.min_self,List.drop_append,List.drop_eq_nil_of_le (by simp; omega),l1,Kf,List.drop_replicate,Jp]
  congr 1
  show b::_=_
  congr 2
  simp; omega
 rw [e1]
 unfold zQb
 have l2 : (s.take p++[b]).length=p+1:=by simp; omega
 have e2 : s.take p++b::List.replicate (s.length - p) z=(s.take p++[b])++List.replicate (s.length - p) z:=by simp
 have e3 : ((s.take p++[b])++List.replicate (s.length - p) z).drop (p+1+(s.drop p).length)=[]:=List.drop_eq_nil_of_le (by rw [Q0,l2,List.length_replicate,J4]; omega)
 rw [e2,e3,Q9 (by omega),Qr (by omega)]
 simp
theorem zJb (B S H W : Int) (s : List Blk) (b : Blk) (hl : s.length≤1000000) : zJj ((B,(S,(H,(W,())))),(s,b))=some (pS B S H W s b):=by
 unfold zJj
 dsimp only
 refine zQk (zZi B S H W s (by omega)) ?_
 unfold pS
 rcases (wZ2 B S H W s).symm with h8 | h0
 ·refine zQ6 (by rw [h8]; rfl) ?_
  rw [if_neg (by omega),h8]
 have hp:=(yKj.1 (yJl h0).2).2
 have hd:=xJb h0
 rw [if_pos h0]
 refine zWm (by rw [h0]; rfl) ?_
 refine zQk (zKm B S H W b.1 b.2.1 b.2.2.1) ?_
 rcases (xZr B S H W b.1 b.2.1 b.2.2.1).symm with c8 | c0
 ·refine zQ6 (by rw [c8]; rfl) ?_
  rw [if_neg (by omega),c8]
 rw [if_pos c0]
 refine zWm (by rw [c0]; rfl) ?_
 have hbd : b.2.2.1.length≤2000000:=by
  obtain ⟨hs,i0,i1,f0,f1,hd⟩:=xYx c0
  obtain ⟨l1,l2,l3,l4,l5,l6⟩:=yXt.1 (yWs hs)
  omega
 refine zQo (Z.yXb.2 ⟨Int.le_refl _,by simp only [Z.ofN,Z.len]; omega,by simp only [Z.ofN,Z.len]; omega,by simp only [Z.ofN,Z.len]; omega⟩) ?_
 refine yKa hl hd ?_
 dsimp only
 have g0 : ∀ {p : Nat} (h : p < s.length) z,Z.get s (Z.addN 0 (Z.toN (p : Int))) z=s[p]:=fun {p} h z=>by
  show s.getD (0+p) z=s[p]
  rw [Jj]; simp [List.getD,h]
 refine bis (s:=s) (id:=b.1) (by omega) rfl hp (fun lo hi k hlt hh hm ka kb=>?_) (fun k=>?_)
 ·dsimp only
  refine xWg hlt (by omega) ?_
  refine zQo (inN hm) (zQo (by show 0+(lo+(hi - lo) / 2) < s.length; omega) (zQu (g0 hm _) ?_))
  refine zQk (y:=s[lo+(hi - lo) / 2].1) rfl ?_
  by_cases hs : s[lo+(hi - lo) / 2].1 < b.1
  ·refine zQ6 (decide_eq_true hs) ?_
   exact zQu (xXp (by omega)) (ka hs)
  ·exact zWm (decide_eq_false hs) (kb hs)
 dsimp only
 have hle:=xQa s b.1
 rw [wXe s b hp]
 generalize hP : lbN s b.1=p at *
 have tb : zW2 (b.1,(b.2.1,(b.2.2.1,())))=some b:=zJd b.1 b.2.1 b.2.2.1 hbd
 refine zWm (decide_eq_false (by omega)) ?_
 by_cases hlt : p < s.length
 ·refine zQ6 (decide_eq_true (by simp only [Z.ofN]; omega)) ?_
  refine zQo (inN hlt) (zQo (by show 0+p < s.length; omega) (zQu (g0 hlt _) ?_))
  refine zQk (y:=s[p].1) rfl ?_
  by_cases he : s[p].1=b.1
  ·rw [xW2 hp hP hlt he, Option.isSome_some, if_pos rfl]
   refine zQ6 (by simp [Z.zWj,Z.ieq,he]) ?_
   refine zQk tb ?_
   refine zQo (inN hlt) (zQo (by show 0+p < s.length; omega) ?_)
   refine zQu (y:=s.set p b) (by show s.set (0+p) b=_; rw [Jj]) ?_
   refine zQo (by show 0+s.length≤(s.set p b).length; simp) ?_
   rw [show Z.seg (s.set p b) 0 s.length=s.set p b by show ((s.set p b).drop 0).take s.length=_; rw [Q6,Qr (by simp)]]
  ·rw [vXv hp hP hlt he]
   refine zWm (by simp [Z.zWj,Z.ieq,he]) ?_
   refine zQk tb ?_
   refine iteP (bdN hle) ?_
   refine iteP (by show p < s.length; exact hlt) ?_
   refine zWm rfl ?_
   refine zWm (by simp only [Z.ieq,Z.ofN,beq_eq_false_iff_ne]; omega) ?_
   have w1 : Z.wrap .i64 (Z.add (Z.ofN s.length) (Z.ofN 1))=((s.length+1 : Nat) : Int):=(yJ5 (by simp only [Z.add,Z.ofN]; omega)).trans (by simp only [Z.add,Z.ofN]; omega)
   refine zQu w1 ?_
   refine zQ6 (decide_eq_true (by simp only [Z.ofN]; omega)) ?_
   refine iteP (bdN hle) ?_
   refine iteP (by show 0 < s.length; omega) ?_
   refine zQu w1 ?_
   refine zQu (y:=((s.length+1 - p : Nat) : Int)) ((yJ5 (by simp only [Z.sub]; omega)).trans (by simp only [Z.sub]; omega)) ?_
   refine iteP (Z.yJx.2 ⟨by omega,by omega,by omega⟩) ?_
   refine zQu (y:=List.replicate (s.length+1 - p) noB) rfl ?_
   have sg : Z.seg s (Z.addN 0 0) (Z.subN (Z.toN (p : Int)) 0)=s.take p:=rfl
   have sl : (s.take p).length=p:=by simp; omega
   refine iteP (by show 0+0+(p - 0)≤s.length; omega) ?_
   rw [sg]
   refine iteN (by show ¬ 2 ^ 44 < ((s.take p).length+(List.replicate (s.length+1 - p) noB).length) * (40+1); rw [sl,List.length_replicate]; omega) ?_
   refine iteN (by show ¬ (p - 0+(List.replicate (s.length+1 - p) noB).length≤s.length - 0); rw [List.length_replicate]; omega) ?_
   refine zQu (y:=s.take p++List.replicate (s.length+1 - p) noB) rfl ?_
   have rl : (s.take p++List.replicate (s.length+1 - p) noB).length=s.length+1:=by rw [Q0,sl,List.length_replicate]; omega
   have hi:=wX7 s b noB p hlt
   generalize hR : s.take p++List.replicate (s.length+1 - p) noB=R at *
   have t1 : Z.take (Z.minN (Z.len (Z.seg [b] 0 1)) (Z.subN (Z.len R) (Z.toN (p : Int)))) (Z.seg [b] 0 1)=[b]:=by
    show List.take (min 1 (R.length - p)) [b]=[b]
    rw [rl,Nat.min_eq_left (by omega)]; rfl
   have sd : Z.seg s (Z.addN 0 (Z.toN (p : Int))) (Z.subN s.length (Z.toN (p : Int)))=s.drop p:=by
    show (s.drop (0+p)).take (s.length - p)=s.drop p
    rw [Jj,Qr (by simp)]
   have e1 : Z.put R (Z.addN 0 (Z.toN (p : Int))) [b]=zQb R p [b]:=by show zQb R (0+p) [b]=_; rw [Jj]
   have q1 : (zQb R p [b]).length=s.length+1:=by rw [zQv _ _ _ (by rw [rl]; simp; omega),rl]
   refine iteP (by show Z.Bd (p : Int) R.length; rw [rl]; exact bdN (by omega)) ?_
   refine iteP (by show p < R.length; omega) ?_
   refine iteP (Qf _) ?_
   refine iteP (by show 0+p+(R.length - p)≤R.length; omega) ?_
   refine zQu (y:=((p+1 : Nat) : Int)) (xXp (by omega)) ?_
   refine iteP (by show Z.Bd ((p+1 : Nat) : Int) R.length; rw [rl]; exact bdN (by omega)) ?_
   refine iteP (by show p+1 < R.length; omega) ?_
   refine iteP (bdN hle) ?_
   refine iteP (by show p < s.length; exact hlt) ?_
   refine iteP (by show 0+p+(s.length - p)≤s.length; omega) ?_
   have t2 : Z.take (Z.minN (Z.len (s.drop p)) (Z.subN (Z.len R) (Z.toN ((p+1 : Nat) : Int)))) (s.drop p)=s.drop p:=by
    show List.take (min (s.drop p).length (R.length - (p+1))) (s.drop p)=s.drop p
    rw [Qr (by rw [J4]; omega)]
   have e2 : Z.put (zQb R p [b]) (Z.addN 0 (Z.toN ((p+1 : Nat) : Int))) (s.drop p)=s.take p++b::s.drop p:=by
    show zQb (zQb R p [b]) (0+(p+1)) (s.drop p)=_
    rw [Jj]; exact hi
   have q2 : (s.take p++b::s.drop p).length=s.length+1:=by rw [Q0,Jr,sl,J4]; omega
   rw [sd,t2]
   refine iteP ?_ ?_
   ·show 0 + (p + 1) + (R.length - (p + 1)) ≤ (Z.put R (Z.addN 0 (Z.toN (p : Int))) (Z.take (Z.minN (Z.len (Z.seg [b] 0 1)) (Z.subN (Z.len R) (Z.toN (p : Int)))) (Z.seg [b] 0 1))).length
    rw [t1,e1,q1]; omega
   have big : Z.put (Z.put R (Z.addN 0 (Z.toN (p : Int))) (Z.take (Z.minN (Z.len (Z.seg [b] 0 1)) (Z.subN (Z.len R) (Z.toN (p : Int)))) (Z.seg [b] 0 1))) (Z.addN 0 (Z.toN ((p+1 : Nat) : Int))) (s.drop p)=s.take p++b::s.drop p:=by rw [t1,e1,e2]
   refine iteP ?_ ?_
   ·show 0 + R.length ≤ (Z.put (Z.put R (Z.addN 0 (Z.toN (p : Int))) (Z.take (Z.minN (Z.len (Z.seg [b] 0 1)) (Z.subN (Z.len R) (Z.toN (p : Int)))) (Z.seg [b] 0 1))) (Z.addN 0 (Z.toN ((p + 1 : Nat) : Int))) (s.drop p)).length
    rw [big,q2]; omega
   have fin : Z.seg (Z.put (Z.put R (Z.addN 0 (Z.toN (p : Int))) (Z.take (Z.minN (Z.len (Z.seg [b] 0 1)) (Z.subN (Z.len R) (Z.toN (p : Int)))) (Z.seg [b] 0 1))) (Z.addN 0 (Z.toN ((p+1 : Nat) : Int))) (s.drop p)) 0 (Z.len R)=s.take p++b::s.drop p:=by
    rw [big]
    show List.take R.length (List.drop 0 _)=_
    rw [Q6,Qr (by omega)]
   show some (_,_)=some _
   congr 2
 ·have hpe : p = s.length := by omega
  rw [wZn hp (by omega)]
  refine zWm (decide_eq_false (by simp only [Z.ofN]; omega)) ?_
  refine zQk tb ?_
  refine iteP (bdN hle) ?_
  refine iteN (by show ¬ p < s.length; omega) ?_
  refine zWm rfl ?_
  refine zQ6 (by simp only [Z.ieq,Z.ofN,beq_iff_eq]; omega) ?_
  have sg : Z.seg s 0 s.length=s:=by show (s.drop 0).take s.length=s; rw [Q6,Ja]
  refine iteP (Qf _) ?_
  refine iteP (by show 0+s.length≤s.length; omega) ?_
  refine iteN (by rw [sg]; show ¬ 2 ^ 44 < (s.length+1) * (40+1); omega) ?_
  refine iteN (by show ¬ s.length+1≤s.length; omega) ?_
  rw [sg]
  refine zQu (y:=s++[b]) rfl ?_
  refine iteP (by show 0+(s++[b]).length≤(s++[b]).length; omega) ?_
  have : Z.seg (s++[b]) 0 (Z.len (s++[b]))=s++[b]:=by show ((s++[b]).drop 0).take (s++[b]).length=_; rw [Q6,Ja]
  rw [this,hpe]
  simp
end Go.Proofs.Ytampmlalpifkoaa
