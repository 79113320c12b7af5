/- Stashes: blocks added. -/
import Derived.Test.YtampmlalpifkoaaStashR
namespace Go.Proofs.Ytampmlalpifkoaa
open Go.Eng
set_option linter.unusedVariables false
set_option linter.unusedSimpArgs false
theorem lenB (b : Blk) : Z.len [b]=1:=rfl
theorem ins_in (s : List Blk) (b : Blk) (p : Nat) (h : p < s.length) : zQb (zQb s (p+1) (s.drop p)) p [b]=s.take p++b::s.drop p:=by
 have e1 : zQb s (p+1) (s.drop p)=s.take (p+1)++s.drop p:=by
  unfold zQb
  have : s.drop (p+1+(s.drop p).length)=[]:=List.drop_eq_nil_of_le (by rw [J4]; omega)
  rw [this,Jh]
 rw [e1]
 unfold zQb
 have l1 : (s.take (p+1)).length=p+1:=by simp; omega
 rw [Q9 (by omega),List.take_take,Nat.min_eq_left (by omega)]
 have : ((s.take (p+1))++s.drop p).drop (p+[b].length)=s.drop p:=by
  show List.drop (p+1) _=_
  have h0 : (s.take (p+1)).drop (p+1)=[]:=List.drop_eq_nil_of_le (by omega)
  rw [List.drop_append,h0,l1,Nat.sub_self,Q6,Kf]
 rw [this]; simp
theorem xWt (s : List Blk) (b : Blk) (p k : Nat) (hk : s.length ≤ k) (hp : p ≤ s.length) (hl : s.length ≤ 1000000) :
    zQj (k,(s,((p : Int),[b])))=some (s.take p++b::s.drop p):=by
  have end_ : ∀ (h : p=s.length),(if (Z.Le (Z.addN 0 (Z.len [b])) (Z.len [b])) then if (Z.Le (Z.addN 0 (Z.len s)) (Z.len s)) then if (Z.Big (Z.len (Z.seg s 0 (Z.len s))) (Z.len (Z.seg [b] 0 (Z.len [b]))) 40) then none
 else if (Z.Le (Z.addN (Z.len s) (Z.len (Z.seg [b] 0 (Z.len [b])))) k) then Z.bnd (Z.put s (Z.addN 0 (Z.len s)) (Z.seg [b] 0 (Z.len [b]))) fun (x15 : List (Blk)) =>
 if (Z.Le (Z.addN 0 (Z.addN (Z.len s) (Z.len (Z.seg [b] 0 (Z.len [b]))))) (Z.len x15)) then some (Z.seg x15 0 (Z.addN (Z.len s) (Z.len (Z.seg [b] 0 (Z.len [b])))))
 else none
 else Z.bnd (Z.app (Z.seg s 0 (Z.len s)) (Z.seg [b] 0 (Z.len [b]))) fun (x18 : List (Blk)) =>
 if (Z.Le (Z.addN 0 (Z.len x18)) (Z.len x18)) then some (Z.seg x18 0 (Z.len x18))
 else none
 else none
 else none)=some (s.take p++b::s.drop p):=fun h=>by
    have sg : Z.seg s 0 (Z.len s)=s:=by show (s.drop 0).take s.length=s; rw [Q6,Ja]
    have sb : (s++[b]).length=s.length+1:=by simp
    have fin : ∀ n,n=s.length+1→Z.seg (s++[b]) 0 n=s.take p++b::s.drop p:=fun n hn=>by
      show ((s++[b]).drop 0).take n=_
      rw [Q6,Qr (by omega),h]; simp
    refine iteP (Qf _) ?_
    refine iteP (by show 0+s.length≤s.length; omega) ?_
    refine iteN (by rw [sg]; show ¬ 2 ^ 44 < (s.length+1) * (40+1); omega) ?_
    by_cases hr : s.length+1≤k
    · refine iteP hr ?_
      refine zQu (y:=s++[b]) (by show zQb s (0+s.length) [b]=_; rw [Jj]; simp [zQb]) ?_
      refine iteP (by show 0+(s.length+1)≤(s++[b]).length; omega) ?_
      exact congrArg some (fin _ rfl)
    · refine iteN hr ?_
      rw [sg]
      refine zQu (y:=s++[b]) rfl ?_
      refine iteP (by show 0+(s++[b]).length≤(s++[b]).length; omega) ?_
      exact congrArg some (fin _ sb)
  unfold zQj
  dsimp only
  refine iteP (bdN hp) ?_
  have w1 : Z.wrap .i64 (Z.add (Z.ofN (Z.len s)) (Z.ofN (Z.len [b])))=((s.length+1 : Nat) : Int):=(yJ5 (by simp only [Z.add,Z.ofN,lenB,Z.len]; omega)).trans (by simp only [Z.add,Z.ofN,lenB,Z.len]; omega)
  by_cases hpk : p < k
  · refine iteP (by show p < k; exact hpk) ?_
    refine zWm rfl ?_
    by_cases he : p=s.length
    · refine zQ6 (by simp only [Z.ieq, Z.ofN, Z.len, beq_iff_eq]; omega) ?_
      exact end_ he
    have hlt : p < s.length:=by omega
    refine zWm (by simp only [Z.ieq,Z.ofN,Z.len,beq_eq_false_iff_ne]; omega) ?_
    refine zQu w1 ?_
    have sl : (s.take p).length=p:=by simp; omega
    have sd : (s.drop p).length=s.length - p:=J4 ..
    by_cases hr : k < s.length+1
    · refine zQ6 (decide_eq_true (by simp only [Z.ofN]; omega)) ?_
      refine iteP (bdN (by omega)) ?_
      refine iteP (by show 0 < k; omega) ?_
      refine zQu w1 ?_
      refine zQu (y:=((s.length+1 - p : Nat) : Int)) ((yJ5 (by simp only [Z.sub]; omega)).trans (by simp only [Z.sub]; omega)) ?_
      refine iteP (Z.yJx.2 ⟨by omega,by omega,by omega⟩) ?_
      refine zQu (y:=List.replicate (s.length+1 - p) noB) rfl ?_
      have sg : Z.seg s (Z.addN 0 0) (Z.subN (Z.toN (p : Int)) 0)=s.take p:=rfl
      refine iteP (by show 0+0+(p - 0)≤s.length; omega) ?_
      rw [sg]
      refine iteN (by show ¬ 2 ^ 44 < ((s.take p).length+(List.replicate (s.length+1 - p) noB).length) * (40+1); rw [sl,List.length_replicate]; omega) ?_
      refine iteN (by show ¬ (p - 0+(List.replicate (s.length+1 - p) noB).length≤k - 0); rw [List.length_replicate]; omega) ?_
      refine zQu (y:=s.take p++List.replicate (s.length+1 - p) noB) rfl ?_
      have rl : (s.take p++List.replicate (s.length+1 - p) noB).length=s.length+1:=by rw [Q0,sl,List.length_replicate]; omega
      have hi:=wX7 s b noB p hlt
      generalize hR : s.take p++List.replicate (s.length+1 - p) noB=R at *
      refine iteP (by show Z.Bd (p : Int) R.length; rw [rl]; exact bdN (by omega)) ?_
      refine iteP (by show p < R.length; omega) ?_
      have m1 : Z.minN (Z.len [b]) (Z.subN (Z.len R) (Z.toN (p : Int)))=1:=by show min 1 (R.length - p)=1; omega
      refine iteP (by rw [m1]; exact Qf _) ?_
      refine iteP (by show 0+p≤R.length; omega) ?_
      refine zQu (y:=((p+1 : Nat) : Int)) ((yJ5 (by simp only [Z.add,Z.ofN,lenB]; omega)).trans (by simp only [Z.add,Z.ofN,lenB]; omega)) ?_
      refine iteP (by show Z.Bd ((p+1 : Nat) : Int) R.length; rw [rl]; exact bdN (by omega)) ?_
      refine iteP (by show p+1 < R.length; omega) ?_
      refine iteP (bdN hp) ?_
      refine iteP (by show p < k; exact hpk) ?_
      have m2 : Z.minN (Z.subN (Z.len s) (Z.toN (p : Int))) (Z.subN (Z.len R) (Z.toN ((p+1 : Nat) : Int)))=s.length - p:=by show min (s.length - p) (R.length - (p+1))=_; omega
      rw [m1,m2]
      have t1 : Z.seg [b] 0 1=[b]:=rfl
      have t2 : Z.seg s (Z.addN 0 (Z.toN (p : Int))) (s.length - p)=s.drop p:=by
        show (s.drop (0+p)).take (s.length - p)=s.drop p
        rw [Jj,Qr (by omega)]
      rw [t1,t2]
      have e1 : Z.put R (Z.addN 0 (Z.toN (p : Int))) [b]=zQb R p [b]:=by show zQb R (0+p) [b]=_; rw [Jj]
      have e2 : Z.put (zQb R p [b]) (Z.addN 0 (Z.toN ((p+1 : Nat) : Int))) (s.drop p)=s.take p++b::s.drop p:=by
        show zQb (zQb R p [b]) (0+(p+1)) (s.drop p)=_
        rw [Jj]; exact hi
      have q1 : (zQb R p [b]).length=s.length+1:=by rw [zQv _ _ _ (by rw [rl]; simp; omega),rl]
      rw [e1,e2]
      have q2 : (s.take p++b::s.drop p).length=s.length+1:=by rw [Q0,Jr,sl,sd]; omega
      refine iteP (by show 0+p+(s.length - p)≤s.length; omega) ?_
      refine iteP (by show 0+(p+1)≤(zQb R p [b]).length; omega) ?_
      refine iteP (by show 0+R.length≤(s.take p++b::s.drop p).length; omega) ?_
      congr 1
      show ((s.take p++b::s.drop p).drop 0).take R.length=_
      rw [Q6,Qr (by omega)]
    · refine zWm (decide_eq_false (by simp only [Z.ofN]; omega)) ?_
      refine zQu w1 ?_
      refine iteP (by show Z.Bd ((s.length+1 : Nat) : Int) k; exact bdN (by omega)) ?_
      refine iteP (by show 0 < k; omega) ?_
      have w2 : Z.wrap .i64 (Z.add (p : Int) (Z.ofN (Z.len [b])))=((p+1 : Nat) : Int):=(yJ5 (by simp only [Z.add,Z.ofN,lenB]; omega)).trans (by simp only [Z.add,Z.ofN,lenB]; omega)
      have bp1 : Z.Bd ((p+1 : Nat) : Int) (Z.subN (Z.toN ((s.length+1 : Nat) : Int)) 0):=by show Z.Bd ((p+1 : Nat) : Int) (s.length+1); exact bdN (by omega)
      have bp : Z.Bd (p : Int) (Z.subN (Z.toN ((s.length+1 : Nat) : Int)) 0):=by show Z.Bd (p : Int) (s.length+1); exact bdN (by omega)
      have lp1 : Z.Lt (Z.toN ((p+1 : Nat) : Int)) (Z.subN k 0):=by show p+1 < k; omega
      have lp : Z.Lt (Z.toN (p : Int)) (Z.subN k 0):=by show p < k; omega
      refine zQu w2 ?_
      refine iteP bp1 (iteP lp1 ?_)
      refine iteN (by show ¬ s.length=0; omega) ?_
      refine zQu w2 ?_
      refine iteP bp1 (iteP lp1 (iteP bp (iteP lp ?_)))
      have m1 : Z.minN (Z.subN (Z.subN (Z.toN ((s.length+1 : Nat) : Int)) 0) (Z.toN (p : Int))) (Z.subN (Z.subN (Z.toN ((s.length+1 : Nat) : Int)) 0) (Z.toN ((p+1 : Nat) : Int)))=s.length - p:=by
        show min (s.length+1 - 0 - p) (s.length+1 - 0 - (p+1))=_; omega
      have m2 : Z.minN (Z.len [b]) (Z.subN (Z.subN (Z.toN ((s.length+1 : Nat) : Int)) 0) (Z.toN (p : Int)))=1:=by show min 1 (s.length+1 - 0 - p)=1; omega
      rw [m1,m2]
      have t1 : Z.seg [b] 0 1=[b]:=rfl
      have t2 : Z.seg s (Z.addN (Z.addN 0 0) (Z.toN (p : Int))) (s.length - p)=s.drop p:=by
        show (s.drop (0+0+p)).take (s.length - p)=s.drop p
        rw [Jj,Qr (by omega)]
      rw [t1,t2]
      have e1 : Z.put s (Z.addN (Z.addN 0 0) (Z.toN ((p+1 : Nat) : Int))) (s.drop p)=zQb s (p+1) (s.drop p):=by show zQb s (0+0+(p+1)) _=_; rw [Jj]
      have e2 : Z.put (zQb s (p+1) (s.drop p)) (Z.addN (Z.addN 0 0) (Z.toN (p : Int))) [b]=s.take p++b::s.drop p:=by
        show zQb (zQb s (p+1) (s.drop p)) (0+0+p) [b]=_
        rw [Jj]; exact ins_in s b p hlt
      rw [e1,e2]
      have q1 : (zQb s (p+1) (s.drop p)).length=s.length+1:=by
        unfold zQb
        have h0 : s.drop (p+1+(s.drop p).length)=[]:=List.drop_eq_nil_of_le (by omega)
        rw [h0,Jh,Q0,Jw,sd]; omega
      have q2 : (s.take p++b::s.drop p).length=s.length+1:=by rw [Q0,Jr,sl,sd]; omega
      refine iteP (by show 0+0+p+(s.length - p)≤s.length; omega) ?_
      refine iteP (by show 0+0+(p+1)≤s.length; omega) ?_
      refine iteP bp (iteP lp ?_)
      refine iteP (by show 0+1≤1; omega) ?_
      refine iteP (by show 0+0+p≤(zQb s (p+1) (s.drop p)).length; omega) ?_
      refine iteP (by show 0+0+(s.length+1 - 0)≤(s.take p++b::s.drop p).length; omega) ?_
      congr 1
      show ((s.take p++b::s.drop p).drop (0+0)).take (s.length+1 - 0)=_
      rw [Jj,Q6,Qr (by omega)]
  · refine iteN (by show ¬ p < k; exact hpk) ?_
    refine zWm rfl ?_
    refine zQ6 (by simp only [Z.ieq,Z.ofN,Z.len,beq_iff_eq]; omega) ?_
    exact end_ (by omega)
theorem yYe (b : Blk) : zQi (0,[b])=some [b]:=by
 unfold zQi
 dsimp only
 refine iteP (bdN (Qf _)) ?_
 refine zQu rfl ?_
 refine zWm rfl (zQ6 rfl ?_)
 refine iteP (Qf _) ?_
 refine iteN (by show ¬ (1 : Nat)=0; decide) ?_
 refine iteN (by show ¬ 2 ^ 44 < (0+1) * (40+1); omega) ?_
 refine zQu (y:=[b]) rfl ?_
 exact iteP (Qf _) rfl
theorem wQr (s : List Blk) (b : Blk) (p : Nat) (hp : p ≤ s.length) (hl : s.length ≤ 1000000) :
  Z.yJw s.length (fun (k : Nat)=>zQj (k,(s,((p : Int),[b])))) (zQi ((p : Int),[b]))=some (s.take p++b::s.drop p):=by
 rw [Z.xQr]
 refine ⟨fun k hk=>xWt s b p k hk hp hl,fun h=>?_⟩
 have h0 : p=0:=by omega
 subst h0
 have hs : s=[]:=Qv.1 h
 subst hs
 exact yYe b
theorem one_gr (o : List Blk) : Z.XGr [o] (.ref 0 0 o.length o.length : MixE Blk):=by
 simp [Z.XGr,MixE.xgr]
theorem one_ok (o : List Blk) : Z.XOk [o] (.ref 0 0 o.length o.length : MixE Blk):=by
 simp [Z.XOk,MixE.xok]
theorem xJ7 (o : List Blk) {i : Nat} (h : i < o.length) : Z.XPt [o] (.ref 0 0 o.length o.length : MixE Blk) i:=by
 simp [Z.XPt,MixE.xpt,h]
theorem wXk (o : List Blk) : Z.xget [o] (.ref 0 0 o.length o.length : MixE Blk)=o:=by
 show (o.drop 0).take o.length=o
 rw [Q6,Ja]
theorem wYn (o : List Blk) {i : Nat} (h : i < o.length) (z : Blk) : Z.xat [o] (.ref 0 0 o.length o.length : MixE Blk) i z=o[i]:=by
 show o.getD (0+i) z=o[i]
 rw [Jj]; simp [List.getD,h]
def addR (B S H W : Int) : List Blk → List Blk → Option (List Blk)
 | s,[]=>some s
 | s,b::more=>if (fdS s b.1).isSome=true then none else if zK0 B S H W b.1 b.2.1 b.2.2.1=0 then addR B S H W (putR s b) more else none
def aS (B S H W : Int) (s more : List Blk) : List Blk×Int:=if ckS B S H W s=0 then (match addR B S H W s more with | some o=>(o,0) | none=>([],8)) else ([],8)
theorem ck_put {B S H W : Int} {s : List Blk} {b : Blk} (h : ckS B S H W s=0) (c : zK0 B S H W b.1 b.2.1 b.2.2.1=0) : ckS B S H W (putR s b)=0:=by
 have hst:=yJl h
 have hb : xXc B S H b.1 b.2.1 b.2.2.1=true:=by
  unfold zK0 at c
  rw [if_pos hst.1] at c
  split at c
  ·assumption
  ·simp at c
 unfold ckS
 rw [if_pos hst.1,if_pos (zYn hst.2 hb)]
theorem wQy {B S H W : Int} {b : Blk} (c : zK0 B S H W b.1 b.2.1 b.2.2.1=0) : b.2.2.1.length≤2000000:=by
 obtain ⟨hs,i0,i1,f0,f1,hd⟩:=xYx c
 obtain ⟨l1,l2,l3,l4,l5,l6⟩:=yXt.1 (yWs hs)
 omega
theorem zJc (B S H W : Int) (s more : List Blk) (hl : s.length+more.length≤1000000) : zJk ((B,(S,(H,(W,())))),(s,more))=some (aS B S H W s more):=by
  unfold zJk
  dsimp only
  refine zQk (zZi B S H W s (by omega)) ?_
  unfold aS
  rcases (wZ2 B S H W s).symm with h8 | h0
  · refine zQ6 (by rw [h8]; rfl) ?_
    rw [if_neg (by omega),h8]
  rw [if_pos h0]
  refine zWm (by rw [h0]; rfl) ?_
  refine zQo (Z.yXb.2 ⟨Int.le_refl _,by simp only [Z.ofN,Z.len]; omega,by simp only [Z.ofN,Z.len]; omega,by simp only [Z.ofN,Z.len]; omega⟩) ?_
  refine yKa (by omega) (xJb h0) ?_
  dsimp only
  refine iteP (by show 0+s.length≤s.length; omega) ?_
  have sg : Z.seg s 0 s.length=s:=by show (s.drop 0).take s.length=s; rw [Q6,Ja]
  rw [sg]
  refine yQr (fun (st : (MixE Blk) × ((List (List Blk)) × Int)) => ∃ (j : Nat) (o : List Blk), st = (.ref 0 0 o.length o.length, ([o], (j : Int))) ∧ j ≤ more.length ∧ o.length ≤ s.length + j ∧ ckS B S H W o = 0 ∧ addR B S H W o (more.drop j) = addR B S H W s more)
    (fun st=>more.length - st.2.2.toNat) ?_ ⟨0,s,rfl,J9 _,Qf _,h0,rfl⟩ (wJg _ _ (by omega))
  rintro st k ⟨j,o,rfl,hj,ho,hc,he⟩ hk
  dsimp only
  by_cases hlt : j < more.length
  · refine zQ6 (decide_eq_true (by simp only [Z.ofN, Z.len]; omega)) ?_
    refine zQo (ixN hlt (by omega)) (zQu (getN more hlt _) ?_)
    have hdrop : more.drop j=more[j]::more.drop (j+1):=J5 hlt
    rw [hdrop] at he
    generalize more[j]=b at he ⊢
    have hp:=(yKj.1 (yJl hc).2).2
    simp only [addR] at he
    have chk : ∀ (h : fdS o b.1 = none) (X : Option (List Blk × Int)), (zK0 B S H W b.1 b.2.1 b.2.2.1 = 0 → X = some (match addR B S H W s more with | some o => (o, 0) | none => ([], 8))) →
        Z.bind (zZd ((B,(S,(H,(W,())))),(b.1,(b.2.1,(b.2.2.1,()))))) (fun (x61 : Int)=>(bif (Z.zWj false true (Z.ine x61 0)) then some (([] : List Blk),(8 : Int)) else X))=some (match addR B S H W s more with | some o=>(o,0) | none=>([],8)):=fun h X hX=>by
      refine zQk (zKm B S H W b.1 b.2.1 b.2.2.1) ?_
      rw [h,Option.isSome_none,if_neg (by simp)] at he
      rcases (xZr B S H W b.1 b.2.1 b.2.2.1).symm with c8 | c0
      · refine zQ6 (by rw [c8]; rfl) ?_
        rw [if_neg (by omega)] at he
        rw [← he]
      · exact zWm (by rw [c0]; rfl) (hX c0)
    have ins : ∀ (h : fdS o b.1 = none), zK0 B S H W b.1 b.2.1 b.2.2.1 = 0 → ∀ (p : Nat), lbN o b.1 = p →
        Z.bind (zW2 (b.1,(b.2.1,(b.2.2.1,())))) (fun (x54 : Blk) =>
 if (Z.XGr [o] (MixE.ref 0 0 o.length o.length)) then if (Z.EqN (Z.len [o]) 1) then if (Z.Le (Z.addN 0 1) (Z.len ((x54.1,(x54.2.1,(x54.2.2.1,())))::([] : List Blk)))) then Z.bind (Z.yJw (Z.xlen (MixE.ref 0 0 o.length o.length : MixE Blk)) (fun (k61 : Nat)=>zQj (k61,((Z.xget [o] (MixE.ref 0 0 o.length o.length)),((p : Int),(Z.seg ((x54.1,(x54.2.1,(x54.2.2.1,())))::([] : List Blk)) 0 1))))) (zQi ((p : Int),(Z.seg ((x54.1,(x54.2.1,(x54.2.2.1,())))::([] : List Blk)) 0 1)))) fun (x62 : List Blk) =>
 if (Z.Lt (Z.xlen (MixE.ref 0 0 o.length o.length : MixE Blk)) (Z.len x62)) then Z.bnd (Z.wrap .i64 (Z.add (j : Int) 1)) fun (x65 : Int) =>
 k ((Z.xnew (α:=Blk) 0 (Z.len x62)),((x62::([] : List (List Blk))),x65))
 else none
 else none
 else none
 else none)=some (match addR B S H W s more with | some o=>(o,0) | none=>([],8)):=fun h c0 p hP=>by
      have hle:=xQa o b.1
      rw [h,Option.isSome_none,if_neg (by simp),if_pos c0] at he
      refine zQk (y:=b) (zJd b.1 b.2.1 b.2.2.1 (wQy c0)) ?_
      refine zQo (one_gr o) (zQo rfl (zQo (Qf _) ?_))
      rw [wXk]
      have hput:=wXe o b hp
      rw [h,Option.isSome_none,if_neg (by simp),hP] at hput
      have hany:=wQr o b p (by omega) (by omega)
      rw [← hput] at hany
      refine zQk hany ?_
      have hlen : (putR o b).length=o.length+1:=by rw [hput]; simp; omega
      refine zQo (by show o.length < (putR o b).length; omega) ?_
      refine zQu (xXp (i:=j) (by omega)) ?_
      exact hk _ ⟨j+1,putR o b,rfl,hlt,by omega,ck_put hc c0,he⟩ (by show more.length - (((j+1 : Nat) : Int)).toNat < more.length - ((j : Int)).toNat; omega)
    refine bis (s:=o) (id:=b.1) (by omega) rfl hp (fun lo hi k2 hlt2 hh hm ka kb=>?_) (fun k2=>?_)
    · dsimp only
      refine xWg hlt2 (by omega) ?_
      refine zQo ⟨by omega,by show _ < o.length; omega⟩ (zQo (xJ7 o hm) (zQo (xJ7 o hm) (zQu (wYn o hm _) ?_)))
      refine zQk (y:=o[lo+(hi - lo) / 2].1) rfl ?_
      by_cases hs : o[lo+(hi - lo) / 2].1 < b.1
      · refine zQ6 (decide_eq_true hs) ?_
        exact zQu (xXp (by omega)) (ka hs)
      · exact zWm (decide_eq_false hs) (kb hs)
    dsimp only
    have hle:=xQa o b.1
    generalize hP : lbN o b.1=p at *
    refine zWm (decide_eq_false (by omega)) ?_
    by_cases hlp : p < o.length
    · refine zQ6 (decide_eq_true (by simp only [Z.ofN, Z.xlen]; omega)) ?_
      refine zQo ⟨by omega,by show _ < o.length; omega⟩ (zQo (xJ7 o hlp) (zQo (xJ7 o hlp) (zQu (wYn o hlp _) ?_)))
      refine zQk (y:=o[p].1) rfl ?_
      by_cases hi : o[p].1=b.1
      · refine zQ6 (by simp [Z.zWj, Z.ieq, hi]) ?_
        rw [xW2 hp hP hlp hi,Option.isSome_some,if_pos rfl] at he
        rw [← he]
      · have hn := vXv hp hP hlp hi
        refine zWm (by simp [Z.zWj,Z.ieq,hi]) ?_
        exact chk hn _ fun c0=>ins hn c0 p rfl
    · have hn := wZn hp (by omega : ¬ lbN o b.1 < o.length)
      refine zWm (decide_eq_false (by simp only [Z.ofN,Z.xlen]; omega)) ?_
      exact chk hn _ fun c0=>ins hn c0 p rfl
  · refine zWm (decide_eq_false (by simp only [Z.ofN, Z.len]; omega)) ?_
    have hd : more.drop j=[]:=List.drop_eq_nil_of_le (by omega)
    rw [hd] at he
    simp only [addR] at he
    refine zQo (one_ok o) (zQu (wXk o) ?_)
    rw [← he]
end Go.Proofs.Ytampmlalpifkoaa
