/- Stashes whose blocks' data stand in rows: Insert. -/
import Derived.Test.YtampmlalpifkoaaStashU
import Derived.Test.YtampmlalpifkoaaStashT
namespace Go.Proofs.Ytampmlalpifkoaa
open Go.Eng
set_option linter.unusedVariables false
set_option linter.unusedSimpArgs false
abbrev MBlk:=Int×(Int×(MixE Int×Unit))
abbrev noM:MBlk:=(0,(0,(Z.zJt [],())))
theorem lenX(b:MBlk):Z.len [b]=1:=rfl
theorem vJl{α:Type}(s:List α)(b z:α)(p:Nat)(h:p<s.length):
  zQd (zQd (s.take p++List.replicate (s.length+1-p) z) p [b]) (p+1) (s.drop p)=s.take p++b::s.drop p:=by
 have l1:(s.take p).length=p:=by simp;omega
 have e1:zQd (s.take p++List.replicate (s.length+1-p) z) p [b]=s.take p++b::List.replicate (s.length-p) z:=by
  unfold zQd;rw[Js (by omega),List.take_take,Nat.min_self,List.drop_append,Jx (by simp;omega),l1,K2,List.drop_replicate,Jn]
  congr 1;show b::_=_;congr 2;simp;omega
 rw[e1];unfold zQd;have l2:(s.take p++[b]).length=p+1:=by simp;omega
 have e2:s.take p++b::List.replicate (s.length-p) z=(s.take p++[b])++List.replicate (s.length-p) z:=by simp
 have e3:((s.take p++[b])++List.replicate (s.length-p) z).drop (p+1+(s.drop p).length)=[]:=Jx (by rw[Q5,l2,Wc,J6];omega)
 rw[e2,e3,Js (by omega),Q9 (by omega)]
 simp
theorem uW1{α:Type}(s:List α)(b:α)(p:Nat)(h:p<s.length):zQd (zQd s (p+1) (s.drop p)) p [b]=s.take p++b::s.drop p:=by
 have e1:zQd s (p+1) (s.drop p)=s.take (p+1)++s.drop p:=by
  unfold zQd;have:s.drop (p+1+(s.drop p).length)=[]:=Jx (by rw[J6];omega)
  rw[this,Jq]
 rw[e1];unfold zQd;have l1:(s.take (p+1)).length=p+1:=by simp;omega
 rw[Js (by omega),List.take_take,Nat.min_eq_left (by omega)]
 have:((s.take (p+1))++s.drop p).drop (p+[b].length)=s.drop p:=by
  show List.drop (p+1) _=_;have h0:(s.take (p+1)).drop (p+1)=[]:=Jx (by omega)
  rw[List.drop_append,h0,l1,Nat.sub_self,Jt,K2]
 rw[this];simp
theorem xJo(qs:List (List Int))(s:List MBlk)(b:MBlk)(p k:Nat)(hk:s.length≤k)(hp:p≤s.length)(hl:s.length≤1000000):
    zQl (k,(qs,(s,((p:Int),[b]))))=some (qs,s.take p++b::s.drop p):=by
  have end_:∀(h:p=s.length),(if(Z.Le (Z.addN 0 (Z.len [b])) (Z.len [b]))then if(Z.Le (Z.addN 0 (Z.len s)) (Z.len s))then if(Z.Big (Z.len (Z.seg s 0 (Z.len s))) (Z.len (Z.seg [b] 0 (Z.len [b]))) 40)then none
 else if(Z.Le (Z.addN (Z.len s) (Z.len (Z.seg [b] 0 (Z.len [b])))) k)then Z.bnd (Z.put s (Z.addN 0 (Z.len s)) (Z.seg [b] 0 (Z.len [b]))) fun(x15:List MBlk)=>
 if(Z.Le (Z.addN 0 (Z.addN (Z.len s) (Z.len (Z.seg [b] 0 (Z.len [b]))))) (Z.len x15))then some (qs,Z.seg x15 0 (Z.addN (Z.len s) (Z.len (Z.seg [b] 0 (Z.len [b])))))
 else none
 else Z.bnd (Z.app (Z.seg s 0 (Z.len s)) (Z.seg [b] 0 (Z.len [b]))) fun(x18:List MBlk)=>
 if(Z.Le (Z.addN 0 (Z.len x18)) (Z.len x18))then some (qs,Z.seg x18 0 (Z.len x18))
 else none
 else none
 else none)=some (qs,s.take p++b::s.drop p):=fun h=>by
    have sg:Z.seg s 0 (Z.len s)=s:=by show(s.drop 0).take s.length=s;rw[Jt,Jj]
    have sb:(s++[b]).length=s.length+1:=by simp
    have fin:∀n,n=s.length+1→Z.seg (s++[b]) 0 n=s.take p++b::s.drop p:=fun n hn=>by
      show((s++[b]).drop 0).take n=_;rw[Jt,Q9 (by omega),h];simp
    refine iteP (Qe _) ?_;refine iteP (by show 0+s.length≤s.length;omega) ?_
    refine iteN (by rw[sg];show¬2^44<(s.length+1)*(40+1);omega) ?_
    by_cases hr:s.length+1≤k
    · refine iteP hr ?_
      refine zQi (y:=s++[b]) (by show zQd s (0+s.length) [b]=_;rw[Jo];simp[zQd]) ?_
      refine iteP (by show 0+(s.length+1)≤(s++[b]).length;omega) ?_
      exact Kr (fun z=>some (qs,z)) (fin _ rfl)
    · refine iteN hr ?_
      rw[sg];refine zQi (y:=s++[b]) rfl ?_;refine iteP (by show 0+(s++[b]).length≤(s++[b]).length;omega) ?_
      exact Kr (fun z=>some (qs,z)) (fin _ sb)
  unfold zQl;dsimp only;refine iteP (bdN hp) ?_;have w1:Z.wrap .i64 (Z.add (Z.ofN (Z.len s)) (Z.ofN (Z.len [b])))=((s.length+1:Nat):Int):=(yYs (by simp only[Z.add,Z.ofN,lenX,Z.len];omega)).trans (by simp only[Z.add,Z.ofN,lenX,Z.len];omega)
  by_cases hpk:p<k
  · refine iteP (by show p<k;exact hpk) ?_
    refine zQs rfl ?_;by_cases he:p=s.length
    · refine zQq (by simp only[Z.ieq,Z.ofN,Z.len,beq_iff_eq];omega) ?_
      exact end_ he
    have hlt:p<s.length:=by omega
    refine zQs (by simp only[Z.ieq,Z.ofN,Z.len,beq_eq_false_iff_ne];omega) ?_
    refine zQi w1 ?_;have sl:(s.take p).length=p:=by simp;omega
    have sd:(s.drop p).length=s.length-p:=J6 ..;by_cases hr:k<s.length+1
    · refine zQq (Qu (by simp only[Z.ofN];omega)) ?_
      refine iteP (bdN (by omega)) ?_
      refine iteP (by show 0<k;omega) ?_
      refine zQi w1 ?_;refine zQi (y:=((s.length+1-p:Nat):Int)) ((yYs (by simp only[Z.sub];omega)).trans (by simp only[Z.sub];omega)) ?_
      refine iteP (Z.xYi.2 ⟨by omega,by omega,by omega⟩) ?_
      refine zQi (y:=List.replicate (s.length+1-p) noM) rfl ?_;have sg:Z.seg s (Z.addN 0 0) (Z.subN (Z.toN (p:Int)) 0)=s.take p:=rfl;refine iteP (by show 0+0+(p-0)≤s.length;omega) ?_
      rw[sg];refine iteN (by show¬2^44<((s.take p).length+(List.replicate (s.length+1-p) noM).length)*(40+1);rw[sl,Wc];omega) ?_
      refine iteN (by show¬(p-0+(List.replicate (s.length+1-p) noM).length≤k-0);rw[Wc];omega) ?_
      refine zQi (y:=s.take p++List.replicate (s.length+1-p) noM) rfl ?_;have rl:(s.take p++List.replicate (s.length+1-p) noM).length=s.length+1:=by rw[Q5,sl,Wc];omega
      have hi:=vJl s b noM p hlt;generalize hR:s.take p++List.replicate (s.length+1-p) noM=R at *;refine iteP (by show Z.Bd (p:Int) R.length;rw[rl];exact bdN (by omega)) ?_
      refine iteP (by show p<R.length;omega) ?_
      have m1:Z.minN (Z.len [b]) (Z.subN (Z.len R) (Z.toN (p:Int)))=1:=by show min 1 (R.length-p)=1;omega
      refine iteP (by rw[m1];exact Qe _) ?_
      refine iteP (by show 0+p≤R.length;omega) ?_
      refine zQi (y:=((p+1:Nat):Int)) ((yYs (by simp only[Z.add,Z.ofN,lenX];omega)).trans (by simp only[Z.add,Z.ofN,lenX];omega)) ?_
      refine iteP (by show Z.Bd ((p+1:Nat):Int) R.length;rw[rl];exact bdN (by omega)) ?_
      refine iteP (by show p+1<R.length;omega) ?_
      refine iteP (bdN hp) ?_;refine iteP (by show p<k;exact hpk) ?_
      have m2:Z.minN (Z.subN (Z.len s) (Z.toN (p:Int))) (Z.subN (Z.len R) (Z.toN ((p+1:Nat):Int)))=s.length-p:=by show min (s.length-p) (R.length-(p+1))=_;omega
      rw[m1,m2];have t1:Z.seg [b] 0 1=[b]:=rfl;have t2:Z.seg s (Z.addN 0 (Z.toN (p:Int))) (s.length-p)=s.drop p:=by
        show(s.drop (0+p)).take (s.length-p)=s.drop p;rw[Jo,Q9 (by omega)]
      rw[t1,t2];have e1:Z.put R (Z.addN 0 (Z.toN (p:Int))) [b]=zQd R p [b]:=by show zQd R (0+p) [b]=_;rw[Jo]
      have e2:Z.put (zQd R p [b]) (Z.addN 0 (Z.toN ((p+1:Nat):Int))) (s.drop p)=s.take p++b::s.drop p:=by
        show zQd (zQd R p [b]) (0+(p+1)) (s.drop p)=_;rw[Jo];exact hi
      have q1:(zQd R p [b]).length=s.length+1:=by rw[zWa _ _ _ (by rw[rl];simp;omega),rl]
      rw[e1,e2];have q2:(s.take p++b::s.drop p).length=s.length+1:=by rw[Q5,Jc,sl,sd];omega
      refine iteP (by show 0+p+(s.length-p)≤s.length;omega) ?_
      refine iteP (by show 0+(p+1)≤(zQd R p [b]).length;omega) ?_
      refine iteP (by show 0+R.length≤(s.take p++b::s.drop p).length;omega) ?_
      refine Kr (fun z=>some (qs,z)) ?_
      show((s.take p++b::s.drop p).drop 0).take R.length=_;rw[Jt,Q9 (by omega)]
    · refine zQs (Qx (by simp only[Z.ofN];omega)) ?_
      refine zQi w1 ?_;refine iteP (by show Z.Bd ((s.length+1:Nat):Int) k;exact bdN (by omega)) ?_
      refine iteP (by show 0<k;omega) ?_
      have w2:Z.wrap .i64 (Z.add (p:Int) (Z.ofN (Z.len [b])))=((p+1:Nat):Int):=(yYs (by simp only[Z.add,Z.ofN,lenX];omega)).trans (by simp only[Z.add,Z.ofN,lenX];omega)
      have bp1:Z.Bd ((p+1:Nat):Int) (Z.subN (Z.toN ((s.length+1:Nat):Int)) 0):=by show Z.Bd ((p+1:Nat):Int) (s.length+1);exact bdN (by omega)
      have bp:Z.Bd (p:Int) (Z.subN (Z.toN ((s.length+1:Nat):Int)) 0):=by show Z.Bd (p:Int) (s.length+1);exact bdN (by omega)
      have lp1:Z.Lt (Z.toN ((p+1:Nat):Int)) (Z.subN k 0):=by show p+1<k;omega
      have lp:Z.Lt (Z.toN (p:Int)) (Z.subN k 0):=by show p<k;omega
      refine zQi w2 ?_;refine iteP bp1 (iteP lp1 ?_);refine iteN (by show¬s.length=0;omega) ?_
      refine zQi w2 ?_;refine iteP bp1 (iteP lp1 (iteP bp (iteP lp ?_)));have m1:Z.minN (Z.subN (Z.subN (Z.toN ((s.length+1:Nat):Int)) 0) (Z.toN (p:Int))) (Z.subN (Z.subN (Z.toN ((s.length+1:Nat):Int)) 0) (Z.toN ((p+1:Nat):Int)))=s.length-p:=by
        show min (s.length+1-0-p) (s.length+1-0-(p+1))=_;omega
      have m2:Z.minN (Z.len [b]) (Z.subN (Z.subN (Z.toN ((s.length+1:Nat):Int)) 0) (Z.toN (p:Int)))=1:=by show min 1 (s.length+1-0-p)=1;omega
      rw[m1,m2];have t1:Z.seg [b] 0 1=[b]:=rfl;have t2:Z.seg s (Z.addN (Z.addN 0 0) (Z.toN (p:Int))) (s.length-p)=s.drop p:=by
        show(s.drop (0+0+p)).take (s.length-p)=s.drop p;rw[Jo,Q9 (by omega)]
      rw[t1,t2];have e1:Z.put s (Z.addN (Z.addN 0 0) (Z.toN ((p+1:Nat):Int))) (s.drop p)=zQd s (p+1) (s.drop p):=by show zQd s (0+0+(p+1)) _=_;rw[Jo]
      have e2:Z.put (zQd s (p+1) (s.drop p)) (Z.addN (Z.addN 0 0) (Z.toN (p:Int))) [b]=s.take p++b::s.drop p:=by
        show zQd (zQd s (p+1) (s.drop p)) (0+0+p) [b]=_;rw[Jo];exact uW1 s b p hlt
      rw[e1,e2];have q1:(zQd s (p+1) (s.drop p)).length=s.length+1:=by
        unfold zQd;have h0:s.drop (p+1+(s.drop p).length)=[]:=Jx (by omega)
        rw[h0,Jq,Q5,Jf,sd];omega
      have q2:(s.take p++b::s.drop p).length=s.length+1:=by rw[Q5,Jc,sl,sd];omega
      refine iteP (by show 0+0+p+(s.length-p)≤s.length;omega) ?_
      refine iteP (by show 0+0+(p+1)≤s.length;omega) ?_
      refine iteP bp (iteP lp ?_);refine iteP (by show 0+1≤1;omega) ?_
      refine iteP (by show 0+0+p≤(zQd s (p+1) (s.drop p)).length;omega) ?_
      refine iteP (by show 0+0+(s.length+1-0)≤(s.take p++b::s.drop p).length;omega) ?_
      refine Kr (fun z=>some (qs,z)) ?_
      show((s.take p++b::s.drop p).drop (0+0)).take (s.length+1-0)=_;rw[Jo,Jt,Q9 (by omega)]
  · refine iteN (by show¬p<k;exact hpk) ?_
    refine zQs rfl ?_;refine zQq (by simp only[Z.ieq,Z.ofN,Z.len,beq_iff_eq];omega) ?_
    exact end_ (by omega)
theorem xXy(qs:List (List Int))(b:MBlk):zQk (qs,(0,[b]))=some (qs,[b]):=by
 unfold zQk;dsimp only;refine iteP (bdN (Qe _)) ?_;refine zQi rfl ?_;refine zQs rfl (zQq rfl ?_);refine iteP (Qe _) ?_;refine iteN (by show¬(1:Nat)=0;decide) ?_
 refine iteN (by show¬2^44<(0+1)*(40+1);omega) ?_
 refine zQi (y:=[b]) rfl ?_;exact iteP (Qe _) rfl
theorem wX0(qs:List (List Int))(s:List MBlk)(b:MBlk)(p:Nat)(hp:p≤s.length)(hl:s.length≤1000000):
  Z.yXm s.length (fun(k:Nat)=>zQl (k,(qs,(s,((p:Int),[b]))))) (zQk (qs,((p:Int),[b])))=some (qs,s.take p++b::s.drop p):=by
 rw[Z.yJ6];refine⟨fun k hk=>xJo qs s b p k hk hp hl,fun h=>?_⟩
 have h0:p=0:=by omega
 subst h0;have hs:s=[]:=Qr.1 h;subst hs;exact xXy qs b
end Go.Proofs.Ytampmlalpifkoaa
