/- SHA-256: the document's digests, and digests of parts. -/
import Derived.Test.YtfeemnbhcafofaaDoorShaD
namespace Go.Proofs.YtfeemnbhcafofaaDoor
open Go.Eng
set_option linter.unusedVariables false
set_option linter.unusedSimpArgs false
def l8 (m : Int) (j : Nat) : List Int:=(List.range j).map fun t=>lenB m (7 - t)
theorem l8_len (m : Int) (j : Nat) : (l8 m j).length=j:=by simp [l8]
theorem uZy (m : Int) (j : Nat) : l8 m (j+1)=l8 m j++[lenB m (7 - j)]:=by simp [l8,List.range_succ]
def padk (r : Nat) : Nat:=if r < 56 then 55 - r else 119 - r
theorem uKf (W : List W32) (r : List Int) (m : Int) (hr : r.length < 64) (L : List Int) (hL : L=r++[128]++List.replicate (padk r.length) 0++l8 m 8) : fin W r m=eat W L (L.length / 64):=by
 have e8 : l8 m 8=len8 m:=rfl
 rw [e8] at hL
 have h8 : (len8 m).length=8:=rfl
 unfold fin padk at *
 split at hL
 ·rename_i h
  have hlen : L.length=64:=by rw [hL]; simp [h8]; omega
  rw [if_pos h,hlen]
  have e : r++128::List.replicate (55 - r.length) 0++len8 m=L:=by rw [hL]; simp
  rw [e]
  show _=trn (eat W L 0) ((L.drop (64 * 0)).take 64)
  rw [Nat.mul_zero,Jk,Qp (by omega)]; rfl
 ·rename_i h
  have hlen : L.length=128:=by rw [hL]; simp [h8]; omega
  rw [if_neg h,hlen]
  show _=trn (trn (eat W L 0) ((L.drop (64 * 0)).take 64)) ((L.drop (64 * 1)).take 64)
  have e : L=(r++128::List.replicate (63 - r.length) 0)++(List.replicate 56 0++len8 m):=by
   rw [hL,show 119 - r.length=(63 - r.length)+56 by omega,← K4]; simp
  have h1 : (r++128::List.replicate (63 - r.length) (0 : Int)).length=64:=by simp; omega
  rw [Nat.mul_zero,Jk,K1,e,Ju (by omega),Qp (by omega),Kc (by omega),Km (by omega),J3,Qp (by simp [h8])]
  rfl
theorem xWn (W : List W32) (r : List Int) (m : Int) (hW : W.length = 8) (hr : r.length < 64) (hm : 0 ≤ m ∧ m < 18446744073709551616) :
  yQs (W.map ofW,(r,(m,())))=some (vWm (fin W r m)):=by
 unfold yQs
 dsimp only
 rw [eight (zZ3 hW)]
 refine zQa (by decide) ?_
 refine zQy (by simp only [Z.Big,Z.len,Z.seg,List.drop_nil,List.take_nil,Jt]; omega) ?_
 refine zQb (y:=r) (by simp [Z.app,Z.seg]) ?_
 refine zQa (by decide) ?_
 refine zQy (by simp only [Z.Big,Z.len,Z.seg,Jk,Kn,Ki,Jh,Jt]; omega) ?_
 refine zQa rfl ?_
 refine zQb (y:=r++[128]) rfl ?_
 refine zQa rfl ?_
 refine zQn (fun s=>∃ k : Nat,k≤padk r.length∧s=r++[128]++List.replicate k 0) (fun s=>200 - s.length) ?_ ⟨0,by omega,by simp⟩ (zKi 200 _ (by omega))
 rintro s k ⟨j,hj,rfl⟩ hk
 have hlen : (r++[128]++List.replicate j (0 : Int)).length=r.length+1+j:=by simp; omega
 have hp : padk r.length+r.length+1=56∨padk r.length+r.length+1=120∧56≤r.length:=by unfold padk; split<;>omega
 refine zQy (by decide) ?_
 refine zQb (y:=(((r.length+1+j) % 64 : Nat) : Int)) (by simp only [Z.tmod,Z.ofN,Z.len,hlen]; rw [Int.tmod_eq_emod_of_nonneg (by omega)]; omega) ?_
 by_cases h : j=padk r.length
 ·refine zQm (by rw [show (r.length + 1 + j) % 64 = 56 by omega]; rfl) ?_
  refine zQb rfl ?_
  refine zQa rfl ?_
  subst h
  clear hk k
  generalize hb2 : r++[128]++List.replicate (padk r.length) (0 : Int)=b2 at hlen
  refine zQn (fun s=>∃ t : Nat,t≤8∧s=(b2++l8 m t,(7 : Int) - t)) (fun s=>(s.2+1).toNat) ?_ ⟨0,by omega,by simp [l8]⟩ (by show ((7 : Int)+1).toNat < _; decide)
  rintro s k ⟨t,ht,rfl⟩ hk
  dsimp only
  have hl2 : (b2++l8 m t).length=r.length+1+padk r.length+t:=by simp [hlen,l8_len]
  by_cases h8 : t < 8
  ·refine zQq (decide_eq_true (by omega)) ?_
   refine zQb (zW9 (by simp only [Z.mul]; omega)) ?_
   refine zQb (y:=((8 * (7 - t) : Nat) : Int)) (by rw [wQg]<;>simp only [Z.mul]<;>omega) ?_
   refine zQy (by simp only [Z.Neg]; omega) ?_
   refine zQb rfl ?_
   refine zQb (y:=lenB m (7 - t)) rfl ?_
   refine zQa (by simp [Z.Le,Z.addN,Z.len]) ?_
   refine zQy (by simp only [Z.Big,Z.len,Z.seg,Jk,Kn,Ki,Jh,Jt,hl2]; omega) ?_
   refine zQa rfl ?_
   refine zQb (y:=b2++l8 m (t+1)) (by simp only [Z.app,Z.seg,Jk,Kn,Ki,uZy,Jw]) ?_
   refine zQb (zW9 (by simp only [Z.sub]; omega)) ?_
   refine zQa rfl ?_
   refine hk _ ⟨t+1,by omega,Prod.ext rfl (by simp only [Z.sub]; omega)⟩ ?_
   show ((7 : Int) - t - 1+1).toNat < ((7 : Int) - t+1).toNat
   omega
  ·obtain rfl : t = 8 := by omega
   refine zQm (by decide) ?_
   refine zQa (by simp [hW]) ?_
   clear hk k
   generalize hLL : b2++l8 m 8=L at hl2
   have hfin : fin W r m=eat W L (L.length / 64):=uKf W r m hr L (by rw [← hLL,← hb2])
   have hL64 : L.length % 64=0:=by omega
   refine zQn (fun s=>∃ n,64 * n≤L.length∧s=(L.drop (64 * n),(eat W L n).map ofW)) (fun s=>s.1.length) ?_ ⟨0,by omega,rfl⟩ (by show L.length < _; omega)
   rintro s k ⟨n,hn,rfl⟩ hk
   dsimp only
   have hE:=yWa W L hW n
   by_cases h0 : 64 * n < L.length
   ·have hge : 64 ≤ L.length - 64 * n := by omega
    refine zQq (decide_eq_true (by simp only [Z.ofN,Z.len,Kq]; omega)) ?_
    refine zQa (zZ3 hE) ?_
    refine zQa ⟨by omega,by simp only [Z.len,Kq]; omega⟩ ?_
    refine zQb (y:=(L.drop (64 * n)).take 64) (by simp [Z.slice,Z.toN]) ?_
    refine zQe (yWx (eat W L n) _ hE (by simp; omega)) ?_
    refine zQa (zZ3 hE) ?_
    refine zQa ⟨by omega,by simp only [Z.len,Kq]; omega⟩ ?_
    refine zQb (y:=L.drop (64 * (n+1))) (by simp only [Z.slice,Z.toN,Z.len,Q8,K6]; rfl) ?_
    rw [zQu (zZ3 (xXe _ _ hE))]
    refine hk _ ⟨n+1,by omega,rfl⟩ ?_
    show (L.drop (64 * (n+1))).length < (L.drop (64 * n)).length
    simp; omega
   ·have hq : L.length / 64 = n := by omega
    rw [hfin,hq]
    refine zQm (decide_eq_false (by simp only [Z.ofN,Z.len,Kq]; omega)) ?_
    generalize eat W L n=X at hE
    clear hk k
    have hm32 : ∀ s : Int×List Int,32 - s.1.toNat < 18446744073709551616:=fun s=>zKi 32 _ (by omega)
    refine zQn (fun s=>∃ i : Nat,i≤32∧s=((i : Int),fl (byteAt X) 32 i)) (fun s=>32 - s.1.toNat) ?_ ⟨0,by omega,by rw [vK2]; rfl⟩ (hm32 _)
    rintro s k ⟨i,hi,rfl⟩ hk
    dsimp only
    by_cases h32 : i < 32
    ·refine zQq (decide_eq_true (by omega)) ?_
     refine zQy (by decide) ?_
     refine zQb (y := ((i / 4 : Nat) : Int)) (by
      have : Z.tdiv (i : Int) 4=((i / 4 : Nat) : Int):=by show Int.tdiv _ _=_; rw [Int.tdiv_eq_ediv_of_nonneg (by omega)]; omega
      rw [this,zW9]; omega) ?_
     refine zQa ⟨by omega,by omega⟩ ?_
     refine zQa (by simp only [Z.Lt,Z.toN,Z.len,Jm,Qh,hE]; omega) ?_
     refine zQb (get_map _ _) ?_
     refine zQy (by decide) ?_
     refine zQb (y:=((i % 4 : Nat) : Int)) (by show Int.tmod _ _=_; rw [Int.tmod_eq_emod_of_nonneg (by omega)]; omega) ?_
     refine zQb (zW9 (by simp only [Z.mul]; omega)) ?_
     refine zQb (zW9 (by simp only [Z.mul,Z.sub]; omega)) ?_
     refine zQb (y:=((24 - 8 * (i % 4) : Nat) : Int)) (by rw [wQg]<;>simp only [Z.sub,Z.mul]<;>omega) ?_
     refine zQy (by simp only [Z.Neg]; omega) ?_
     refine zQb rfl ?_
     refine zQb (y:=byteAt X i) (by rw [byteAt]; simp only [Z.toN,Jm]) ?_
     refine zQa ⟨by omega,by omega⟩ ?_
     refine zQa (by simp only [Z.Lt,Z.toN,Z.len,Jm,xWa]; omega) ?_
     refine zQb (y:=fl (byteAt X) 32 (i+1)) (by simp only [Z.set,Z.toN,Jm]; exact uWf _ _ _ (by omega)) ?_
     refine zQb (zW9 (by simp only [Z.add]; omega)) ?_
     refine hk _ ⟨i+1,by omega,rfl⟩ ?_
     show 32 - ((i : Int)+1).toNat < 32 - ((i : Int)).toNat; omega
    ·obtain rfl : i = 32 := by omega
     refine zQm rfl ?_
     refine zQa (xWa _ _ _) ?_
     refine zQa (by decide) ?_
     rw [zQu (xWa _ _ _)]
     refine zQa (xWa _ _ _) ?_
     rw [vK3]; rfl
 ·refine zQq (by
   have : ¬ (r.length+1+j) % 64=56:=by omega
   simp only [Z.ine,bne_iff_ne,ne_eq]; omega) ?_
  refine zQa (by decide) ?_
  refine zQy (by simp only [Z.Big,Z.len,Z.seg,Jk,Kn,Ki,Jh,Jt,hlen]; omega) ?_
  refine zQa rfl ?_
  refine zQb (y:=r++[128]++List.replicate (j+1) 0) (by simp only [Z.app,Z.seg,Jk,Kn,Ki,List.replicate_succ',Jw]) ?_
  refine zQa rfl ?_
  refine hk _ ⟨j+1,by omega,rfl⟩ ?_
  simp; omega
def W0 : List W32:=[1779033703#32,3144134277#32,1013904242#32,2773480762#32,1359893119#32,2600822924#32,528734635#32,1541459225#32]
theorem wKv : W0.length=8:=rfl
theorem xK7 : yK3 ()=some (W0.map ofW,([],(0,()))):=by unfold yK3; rfl
theorem xWo : yQt ()=some (W0.map ofW,([],(0,()))):=by unfold yQt; rfl
def digS (l : List Int) : List Int:=vWm (fin (eat W0 l (l.length / 64)) (l.drop (64 * (l.length / 64))) l.length)
theorem vQ4 (l : List Int) : (digS l).length=32:=zX5 _
theorem wQ3 (l : List Int) (hl : l.length≤100000) : yJb l=some (digS l):=by
 unfold yJb
 refine zQe xWo ?_
 dsimp only
 rw [eight (zZ3 wKv)]
 refine zQe (xX6 W0 [] l 0 wKv (by simp) hl (by omega)) ?_
 dsimp only
 rw [J3,eight (zZ3 (yWa _ _ wKv _))]
 refine zQe (xWn _ _ _ (yWa _ _ wKv _) (by simp; omega) (by omega)) ?_
 refine zQa (by decide) ?_
 rw [zQu (zX5 _)]
 refine zQa (zX5 _) ?_
 rw [Int.zero_add]; rfl
theorem ofBig (l : List (List Int)) (hl : l.length≤50) (he : ∀ x∈l,x.length≤100000) : wX7 l=some (digS l.flatten):=by
 unfold wX7
 refine zQe xK7 ?_
 have hsum : ∀ q : List (List Int),(∀ x∈q,x.length≤100000)→q.flatten.length≤100000 * q.length:=by
  intro q
  induction q with
  | nil=>intro _; simp
  | cons x q ih=>intro h; have:=ih (fun y hy=>h y (by simp [hy])); have:=h x (by simp); simp at *; omega
 have h0 : ∃ (i : Nat) (X : List W32) (r : List Int), i ≤ l.length ∧ X = eat W0 (l.take i).flatten ((l.take i).flatten.length / 64) ∧ r = (l.take i).flatten.drop (64 * ((l.take i).flatten.length / 64)) ∧
   (((0 : Int),pk8 (W0.map ofW) (([] : List Int),(0 : Int))) : Int×_)=((i : Int),pk8 (X.map ofW) (r,((l.take i).flatten.length : Int))):=⟨0,W0,[],by omega,by simp [eat],by simp,by simp⟩
 refine zQn (fun s => ∃ (i : Nat) (X : List W32) (r : List Int), i ≤ l.length ∧ X = eat W0 (l.take i).flatten ((l.take i).flatten.length / 64) ∧ r = (l.take i).flatten.drop (64 * ((l.take i).flatten.length / 64)) ∧ s = ((i : Int), pk8 (X.map ofW) (r, ((l.take i).flatten.length : Int))))
  (fun s=>l.length - s.1.toNat) ?_ h0 (zKi l.length _ (by omega))
 rintro s k ⟨i,X,r,hi,hX,hr,rfl⟩ hk
 have hX8 : X.length=8:=by rw [hX]; exact yWa _ _ wKv _
 simp only [pk8]
 rw [eight (zZ3 hX8)]
 have hb:=hsum (l.take i) (fun x hx=>he x (J1 hx))
 have hb' : (l.take i).flatten.length≤5000000:=by simp only [Jy] at hb; omega
 have hrl : r.length=(l.take i).flatten.length % 64:=by rw [hr,Kq]; omega
 by_cases h : i < l.length
 ·refine zQq (decide_eq_true (by simp only [Z.ofN, Z.len]; omega)) ?_
  refine zQa ⟨by omega,by simp only [Z.len]; omega⟩ ?_
  refine zQb (y:=l[i]) (by simp [Z.get,Z.toN,List.getD,h]) ?_
  have hx:=he l[i] (Qv h)
  refine zQe (wQv X r l[i] _ hX8 (by omega) (by omega) (by omega)) ?_
  refine zQb (zW9 (by simp only [Z.add]; omega)) ?_
  have hfl : (l.take (i+1)).flatten=(l.take i).flatten++l[i]:=by rw [Jj h,List.flatten_append,Kv,List.flatten_nil,Jo]
  generalize hF : (l.take i).flatten=F at *
  have hc : chk r (F.length : Int)=0:=by rw [chk,if_pos ⟨by omega,by omega⟩]
  unfold uZq
  rw [hc,if_pos rfl,if_neg (by omega)]
  have hq : F.length / 64+(r++l[i]).length / 64=(F++l[i]).length / 64:=by simp; omega
  have hdr : F.drop (64 * (F.length / 64))++l[i]=(F++l[i]).drop (64 * (F.length / 64)):=by rw [Kc (by omega)]
  refine hk _ ⟨i+1,eat W0 (F++l[i]) ((F++l[i]).length / 64),(F++l[i]).drop (64 * ((F++l[i]).length / 64)),by omega,by rw [hfl],by rw [hfl], ?_⟩ ?_
  ·have e1 : eat X (r++l[i]) ((r++l[i]).length / 64)=eat W0 (F++l[i]) ((F++l[i]).length / 64):=by
    rw [← hq,vJb W0 (F++l[i]),vJa W0 F l[i] _ (by omega),← hX,← hdr,← hr]
   have e2 : (r++l[i]).drop (64 * ((r++l[i]).length / 64))=(F++l[i]).drop (64 * ((F++l[i]).length / 64)):=by
    rw [← hq,Nat.mul_add,← K6,← hdr,← hr]
   refine Prod.ext rfl ?_
   have eL : ((F++l[i]).length : Int)=(F.length : Int)+(l[i].length : Int):=by simp
   rw [← e1,← e2,hfl,eL]
   rfl
  ·show l.length - ((i : Int) + 1).toNat < l.length - ((i : Int)).toNat
   omega
 ·refine zQm (decide_eq_false (by simp only [Z.ofN, Z.len]; omega)) ?_
  rw [Qp (by omega)] at *
  generalize l.flatten=F at *
  have hc : chk r (F.length : Int)=0:=by rw [chk,if_pos ⟨by omega,by omega⟩]
  refine zQe (wX8 X r _ hX8 (by omega) (by omega)) ?_
  unfold endS
  rw [hc,if_pos rfl]
  dsimp only
  rw [zQu (zX5 _),zQu (zX5 _)]
  refine zQa (by decide) ?_
  refine zQa (zX5 _) ?_
  refine zQa (by decide) ?_
  refine zQa (zX5 _) ?_
  rw [hX,hr]; rfl
end Go.Proofs.YtfeemnbhcafofaaDoor
