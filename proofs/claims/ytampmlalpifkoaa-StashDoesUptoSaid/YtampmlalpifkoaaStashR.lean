/- Stashes: a block found, put and dropped. -/
import Derived.Test.YtampmlalpifkoaaStashQ
namespace Go.Proofs.Ytampmlalpifkoaa
open Go.Eng
set_option linter.unusedVariables false
set_option linter.unusedSimpArgs false
def fndS(B S H W:Int)(s:List Blk)(id:Int):Blk×Bool:=if ckS B S H W s=0 then(match fdS s id with|some x=>(x,true)|none=>(noB,false))else(noB,false)
theorem zYh{B S H W:Int}{s:List Blk}(h:ckS B S H W s=0):(zX5 B S H W).2=0∧stB B S H s=true:=by
 unfold ckS at h;split at h
 ·rename_i h0
  split at h
  ·rename_i h1;exact⟨h0,h1⟩
  ·simp at h
 ·simp at h
theorem yYp(B S H W:Int)(s:List Blk):ckS B S H W s=0∨ckS B S H W s=8:=by
 unfold ckS;split
 ·split
  ·exact .inl rfl
  ·exact .inr rfl
 ·exact .inr rfl
theorem yQ7{B S H W:Int}{s:List Blk}(h:ckS B S H W s=0):∀x∈s,x.2.2.1.length≤2000000:=by
 obtain⟨h0,h1⟩:=zYh h;obtain⟨l1,l2,l3,l4,l5,l6⟩:=yW5.1 (zY8 h0);intro x hx;have:=(zJ5.1 h1).1 x hx;unfold yZ2 at this;have:=K9 this;omega
theorem xWy{s:List Blk}{id:Int}{p:Nat}(hp:s.Pairwise (fun x y=>x.1<y.1))(e:lbN s id=p)(h:p<s.length)(hi:s[p].1=id):fdS s id=some s[p]:=by
 rw[vXv s id hp,e,Qm h];show(if s[p].1=id then some s[p]else none)=_
 rw[Qf hi]
theorem vJt{s:List Blk}{id:Int}{p:Nat}(hp:s.Pairwise (fun x y=>x.1<y.1))(e:lbN s id=p)(h:p<s.length)(hi:¬s[p].1=id):fdS s id=none:=by
 rw[vXv s id hp,e,Qm h];show(if s[p].1=id then some s[p]else none)=_
 rw[Qi hi]
theorem wJj{s:List Blk}{id:Int}(hp:s.Pairwise (fun x y=>x.1<y.1))(h:¬lbN s id<s.length):fdS s id=none:=by
 rw[vXv s id hp,J2 (by omega)]
theorem xQt(B S H W:Int)(s:List Blk)(id:Int)(hl:s.length≤1000000):yXp ((B,(S,(H,(W,())))),(s,id))=some (fndS B S H W s id):=by
 unfold yXp;dsimp only;refine zQh (zWi B S H W s (by omega)) ?_
 rcases yYp B S H W s with h0|h8
 ·have hp:=(zJ5.1 (zYh h0).2).2
  have hd:=yQ7 h0;unfold fndS;rw[Qf h0];refine zQs (by rw[h0];rfl) ?_
  refine bis (s:=s) (id:=id) (by omega) rfl hp (fun lo hi k hlt hh hm ka kb=>?_) (fun k=>?_)
  ·dsimp only
   refine xJa hlt (by omega) ?_
   refine zQb (ixN hm (by omega)) (zQi (getN s hm _) ?_)
   refine zQh (y:=s[lo+(hi-lo)/2].1) rfl ?_;by_cases hs:s[lo+(hi-lo)/2].1<id
   ·refine zQq (Qu hs) ?_
    exact zQi (zY5 (by omega)) (ka hs)
   ·exact zQs (Qx hs) (kb hs)
  ·dsimp only
   have hle:=xZs s id;generalize hP:lbN s id=p at *;refine zQs (Qx (by omega)) ?_
   by_cases hlt:p<s.length
   ·refine zQq (Qu (by simp only[Z.ofN,Z.len];omega)) ?_
    refine zQb (ixN hlt (by omega)) (zQi (getN s hlt _) ?_)
    refine zQh (y:=s[p].1) rfl ?_;by_cases he:s[p].1=id
    ·rw[xWy hp hP hlt he]
     refine zQs (by simp[Z.bnot,Z.zQu,Z.ieq,he]) ?_
     refine zQb (ixN hlt (by omega)) (zQi (getN s hlt _) ?_)
     refine zQh (zZy s[p].1 s[p].2.1 s[p].2.2.1 (hd _ (Ka hlt))) ?_;rfl
    ·rw[vJt hp hP hlt he]
     refine zQq (by simp[Z.bnot,Z.zQu,Z.ieq,he]) ?_
     rfl
   ·rw[wJj hp (by omega)]
    refine zQs (Qx (by simp only[Z.ofN,Z.len];omega)) ?_
    rfl
 ·refine zQq (by rw[h8];rfl) ?_
  unfold fndS;rw[Qi (by omega)]
  rfl
def pS(B S H W:Int)(s:List Blk)(b:Blk):List Blk×Int:=if ckS B S H W s=0 then(if zZi B S H W b.1 b.2.1 b.2.2.1=0 then(putR s b,0)else([],8))else([],8)
theorem inN{i n:Nat}(h:i<n):Z.In (i:Int) n:=⟨by omega,by omega⟩
theorem bdN{i n:Nat}(h:i≤n):Z.Bd (i:Int) n:=⟨by omega,by omega⟩
end Go.Proofs.Ytampmlalpifkoaa
