/- Package slot. -/
import Derived.Test.YtoceaomlohgkkaaGeo
import Derived.Test.YtoceaomlohgkkaaTake
import Derived.Test.YtoceaomlohgkkaaMid
import Derived.Test.YtoceaomlohgkkaaSame
namespace Go.Proofs.Ytoceaomlohgkkaa
open Go.Eng
set_option linter.unusedVariables false
set_option linter.unusedSimpArgs false
def xYb(B S H:Int):Bool:=decide (1≤B∧B≤64∧1≤S∧S≤32∧may H=true∧B≤2^H.toNat)
def zXn(B S H W:Int):Int×Int:=
 if xYb B S H=true then(if W=1*(8+S)+64 then(1,0)else if W=2*(8+S)+64 then(2,0)else if W=3*(8+S)+64 then(3,0)else if W=4*(8+S)+64 then(4,0)else(0,8))else(0,8)
theorem yQ7{B S H:Int}:xYb B S H=true↔1≤B∧B≤64∧1≤S∧S≤32∧may H=true∧B≤2^H.toNat:=by unfold xYb;exact decide_eq_true_iff
theorem xWl(B S H W:Int)(h:0≤S)(h2:S≤1000):yX9 (B,S,H,W,())=some (8+S):=by
 unfold yX9;simp only;rw[Z.wrap_i64 (by simp only[Z.add_eq];omega) (by simp only[Z.add_eq];omega)]
theorem zZz(B S H W:Int):zJb (B,S,H,W,())=some (zXn B S H W):=by
 unfold zJb zXn;simp only;have bad:¬(1≤B∧B≤64∧1≤S∧S≤32∧may H=true∧B≤2^H.toNat)→(if xYb B S H=true then(if W=1*(8+S)+64 then((1,0):Int×Int)else if W=2*(8+S)+64 then(2,0)else if W=3*(8+S)+64 then(3,0)else if W=4*(8+S)+64 then(4,0)else(0,8))else(0,8))=(0,8):=
  fun h=>if_neg (fun hh=>h (yQ7.1 hh))
 have pf:∀b:Bool,Z.zQ1 false true b=b:=fun b=>by simp[Z.zQ1]
 by_cases h1:B<1
 ·rw[show Z.ilt B 1=true by simp[Z.ilt,h1],cond_true,bad (by omega)]
 rw[show Z.ilt B 1=false by simp[Z.ilt,h1],cond_false,pf]
 by_cases h2:B>64
 ·rw[show Z.igt B 64=true by simp[Z.igt,h2],cond_true,bad (by omega)]
 rw[show Z.igt B 64=false by simp[Z.igt];omega,cond_false,pf]
 by_cases h3:S<1
 ·rw[show Z.ilt S 1=true by simp[Z.ilt,h3],cond_true,bad (by omega)]
 rw[show Z.ilt S 1=false by simp[Z.ilt,h3],cond_false,pf]
 by_cases h4:S>32
 ·rw[show Z.igt S 32=true by simp[Z.igt,h4],cond_true,bad (by omega)]
 rw[show Z.igt S 32=false by simp[Z.igt];omega,cond_false,yWf,Z.bind_some]
 cases hm:may H with
 |false=>
  rw[bad (by rw[hm];simp)];rfl
 | true=>
  have z0:Z.ine 0 0=false:=rfl;rw[if_pos rfl];simp only;rw[z0,cond_false,pf];by_cases h5:2^H.toNat<B
  ·rw[show Z.ilt (2^H.toNat) B=true by simp[Z.ilt,h5],cond_true,bad (by omega)]
  rw[show Z.ilt (2^H.toNat) B=false by simp[Z.ilt];omega,cond_false,if_pos (yQ7.2 ⟨by omega,by omega,by omega,by omega,hm,by omega⟩)]
  refine zWc (fun(s:Int)=>1≤s∧s≤5∧∀j:Int,1≤j→j<s→W≠j*(8+S)+64) (fun s=>(5-s).toNat) ?_ ⟨by omega,by omega,fun j h1 h2=>by omega⟩ (by decide)
  rintro s k ⟨s1,s2,s3⟩ hk;by_cases hs:s≤4
  ·have e1:Z.ile s 4=true:=by simp[Z.ile,hs]
   have hmul:s*(8+S)≤4*40:=Int.mul_le_mul hs (by omega) (by omega) (by omega)
   have hmul0:0≤s*(8+S):=Int.mul_nonneg (by omega) (by omega)
   have w1:Z.wrap .i64 (Z.mul s (8+S))=s*(8+S):=Z.wrap_i64 (by show _≤s*(8+S);omega) (by show s*(8+S)≤_;omega)
   have w2:Z.wrap .i64 (Z.add (s*(8+S)) 64)=s*(8+S)+64:=Z.wrap_i64 (by show _≤s*(8+S)+64;omega) (by show s*(8+S)+64≤_;omega)
   have w3:Z.wrap .i64 (Z.add s 1)=s+1:=Z.wrap_i64 (by show _≤s+1;omega) (by show s+1≤_;omega)
   rw[e1,cond_true,xWl _ _ _ _ (by omega) (by omega),Z.bind_some,w1,Z.zZh,w2,Z.zZh]
   by_cases hW:W=s*(8+S)+64
   ·rw[show Z.ieq W (s*(8+S)+64)=true by simp[Z.ieq,hW],cond_true]
    have hc:s=1∨s=2∨s=3∨s=4:=by omega
    rcases hc with rfl|rfl|rfl|rfl
    ·rw[if_pos hW]
    ·rw[if_neg (s3 1 (by omega) (by omega)),if_pos hW]
    ·rw[if_neg (s3 1 (by omega) (by omega)),if_neg (s3 2 (by omega) (by omega)),if_pos hW]
    ·rw[if_neg (s3 1 (by omega) (by omega)),if_neg (s3 2 (by omega) (by omega)),if_neg (s3 3 (by omega) (by omega)),if_pos hW]
   ·rw[show Z.ieq W (s*(8+S)+64)=false by simp[Z.ieq,hW],cond_false,w3,Z.zZh]
    refine hk _ ⟨by omega,by omega,fun j j1 j2=>?_⟩ (by omega)
    by_cases hj:j=s
    ·subst hj;exact hW
    ·exact s3 j j1 (by omega)
  ·have e1:Z.ile s 4=false:=by simp[Z.ile];omega
   rw[e1,cond_false,if_neg (s3 1 (by omega) (by omega)),if_neg (s3 2 (by omega) (by omega)),if_neg (s3 3 (by omega) (by omega)),if_neg (s3 4 (by omega) (by omega))]
theorem yYr(B S H W:Int):(zXn B S H W).2=0∨zXn B S H W=(0,8):=by
 unfold zXn;split
 ·split
  ·exact .inl rfl
  ·split
   ·exact .inl rfl
   ·split
    ·exact .inl rfl
    ·split
     ·exact .inl rfl
     ·exact .inr rfl
 ·exact .inr rfl
theorem yQu{B S H W:Int}(h:(zXn B S H W).2=0):xYb B S H=true:=by
 unfold zXn at h;split at h
 ·assumption
 ·simp at h
def yK0(B S H i f:Int)(d:List Int):Bool:=decide (0≤i∧i<B∧0≤f∧f<2^H.toNat∧(d.length:Int)=S)
def vWh(B S H W i f:Int)(d:List Int):Int:=if(zXn B S H W).2=0 then(if yK0 B S H i f d=true then 0 else 8)else 8
theorem yYs(B S H W i f:Int)(d:List Int):yWu ((B,S,H,W,()),(i,f,d,()))=some (vWh B S H W i f d):=by
 unfold yWu vWh;simp only;rw[zZz,Z.bind_some];rcases yYr B S H W with h0|h8
 ·obtain⟨l1,l2,l3,l4,l5,l6⟩:=yQ7.1 (yQu h0)
  have z0:Z.ine 0 0=false:=rfl;have pf:∀b:Bool,Z.zQ1 false true b=b:=fun b=>by simp[Z.zQ1]
  rw[h0,z0,cond_false,yWf,Z.bind_some,l5,if_pos rfl,if_pos rfl];simp only;rw[pf,pf,pf,pf];have bad:¬(0≤i∧i<B∧0≤f∧f<2^H.toNat∧(d.length:Int)=S)→(if yK0 B S H i f d=true then(0:Int)else 8)=8:=fun h=>if_neg (fun hh=>h (of_decide_eq_true hh))
  by_cases c1:i<0
  ·rw[show Z.ilt i 0=true by simp[Z.ilt,c1],cond_true,bad (by omega)]
  rw[show Z.ilt i 0=false by simp[Z.ilt,c1],cond_false]
  by_cases c2:i≥B
  ·rw[show Z.ige i B=true by simp[Z.ige,c2],cond_true,bad (by omega)]
  rw[show Z.ige i B=false by simp[Z.ige];omega,cond_false]
  by_cases c3:f<0
  ·rw[show Z.ilt f 0=true by simp[Z.ilt,c3],cond_true,bad (by omega)]
  rw[show Z.ilt f 0=false by simp[Z.ilt,c3],cond_false]
  by_cases c4:f≥2^H.toNat
  ·rw[show Z.ige f (2^H.toNat)=true by simp[Z.ige,c4],cond_true,bad (by omega)]
  rw[show Z.ige f (2^H.toNat)=false by simp[Z.ige];omega,cond_false]
  by_cases c5:(d.length:Int)=S
  ·rw[show Z.ine (Z.ofN (Z.len d)) S=false by simp[Z.ine,c5],cond_false,if_pos (show yK0 B S H i f d=true from decide_eq_true ⟨by omega,by omega,by omega,by omega,c5⟩)]
  ·rw[show Z.ine (Z.ofN (Z.len d)) S=true by simp[Z.ine,c5],cond_true,bad (fun h=>c5 h.2.2.2.2)]
 ·have z8:Z.ine 8 0=true:=rfl
  rw[h8];simp only;rw[z8,cond_true];rfl
abbrev Blk:Type:=Int×(Int×(List Int×Unit))
def noB:Blk:=(0,0,[],())
end Go.Proofs.Ytoceaomlohgkkaa
