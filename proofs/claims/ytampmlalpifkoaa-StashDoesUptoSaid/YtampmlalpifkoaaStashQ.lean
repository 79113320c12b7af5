/- Stashes: the loops. -/
import Derived.Test.YtampmlalpifkoaaStashP
namespace Go.Proofs.Ytampmlalpifkoaa
open Go.Eng
set_option linter.unusedVariables false
set_option linter.unusedSimpArgs false
theorem xJa{β:Type}{lo hi:Nat}{A:Int→Option β}{E:Option β}{r:β}(h:lo<hi)(hb:hi<9223372036854775807)(hA:A ((lo+(hi-lo)/2:Nat):Int)=some r):
  (bif (Z.ilt (lo:Int) (hi:Int))then Z.bnd (Z.wrap .i64 (Z.sub (hi:Int) (lo:Int))) fun(x4:Int)=>if(Z.IsZ 2)then none else Z.bnd (Z.wrap .i64 (Z.tdiv x4 2)) fun(x7:Int)=>Z.bnd (Z.wrap .i64 (Z.add (lo:Int) x7)) fun(x8:Int)=>A x8 else E)=some r:=by
 refine zQq (Qu (by omega)) ?_
 refine zQi (y:=((hi-lo:Nat):Int)) ((yYs (by simp only[Z.sub];omega)).trans (by simp only[Z.sub];omega)) ?_
 refine wJb (by show¬((2:Int)=0);decide) ?_
 refine zQi (y:=(((hi-lo)/2:Nat):Int)) ?_ ?_
 ·have e:Z.tdiv ((hi-lo:Nat):Int) 2=(((hi-lo)/2:Nat):Int):=Int.ofNat_tdiv _ 2
  rw[e,yYs (by omega)]
 ·refine zQi (y:=((lo+(hi-lo)/2:Nat):Int)) ((yYs (by simp only[Z.add];omega)).trans (by simp only[Z.add];omega)) ?_
  exact hA
theorem bis{β:Type}{f:Int×Int→(Int×Int→Option β)→Option β}{s:List Blk}{id:Int}{n:Int}{r:β}(hl:s.length<9223372036854775807)(hn:n=(s.length:Int))(hp:s.Pairwise (fun x y=>x.1<y.1))
  (step:∀(lo hi:Nat) (k:Int×Int→Option β),lo<hi→hi≤s.length→∀(hm:lo+(hi-lo)/2<s.length),
   (s[lo+(hi-lo)/2].1<id→k (((lo+(hi-lo)/2+1:Nat):Int),(hi:Int))=some r)→(¬s[lo+(hi-lo)/2].1<id→k ((lo:Int),((lo+(hi-lo)/2:Nat):Int))=some r)→f ((lo:Int),(hi:Int)) k=some r)
  (fin:∀k,f (((lbN s id:Nat):Int),((lbN s id:Nat):Int)) k=some r):
  Z.loop f (0,n)=some r:=by
 subst hn;have hle:=xZs s id;refine zWx (fun(st:Int×Int)=>∃lo hi:Nat,st=((lo:Int),(hi:Int))∧lo≤lbN s id∧lbN s id≤hi∧hi≤s.length) (fun st=>st.2.toNat-st.1.toNat) ?_ ⟨0,s.length,rfl,Jd _,hle,Qe _⟩ (by show(s.length:Int).toNat-(0:Int).toNat<18446744073709551616;omega)
 rintro st k ⟨lo,hi,rfl,h1,h2,h3⟩ hk;by_cases hlt:lo<hi
 ·have hm:lo+(hi-lo)/2<s.length:=by omega
  refine step lo hi k hlt h3 hm (fun hs=>hk _ ⟨_,hi,rfl, ?_,h2,h3⟩ ?_) (fun hs=>hk _ ⟨lo,_,rfl,h1, ?_,by omega⟩ ?_)
  ·have:¬lbN s id≤lo+(hi-lo)/2:=fun hh=>by have:=vXb s id hp _ hm hh;omega
   omega
  ·show(hi:Int).toNat-(((lo+(hi-lo)/2+1:Nat):Int)).toNat<(hi:Int).toNat-(lo:Int).toNat
   omega
  ·have:¬lo+(hi-lo)/2<lbN s id:=fun hh=>hs (vXa s id _ hm hh)
   omega
  ·show(((lo+(hi-lo)/2:Nat):Int)).toNat-(lo:Int).toNat<(hi:Int).toNat-(lo:Int).toNat
   omega
 ·have e1:lo=lbN s id:=by omega
  have e2:hi=lbN s id:=by omega
  subst e1;rw[e2];exact fin k
end Go.Proofs.Ytampmlalpifkoaa
