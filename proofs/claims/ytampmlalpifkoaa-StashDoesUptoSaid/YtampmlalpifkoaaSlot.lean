/- Package slot. -/
import Derived.Test.YtampmlalpifkoaaGeo
import Derived.Test.YtampmlalpifkoaaTake
import Derived.Test.YtampmlalpifkoaaMid
import Derived.Test.YtampmlalpifkoaaSame
namespace Go.Proofs.Ytampmlalpifkoaa
open Go.Eng
set_option linter.unusedVariables false
set_option linter.unusedSimpArgs false
def wQt(B S H:Int):Bool:=decide (1≤B∧B≤64∧1≤S∧S≤32∧may H=true∧B≤2^H.toNat)
def zX5(B S H W:Int):Int×Int:=
 if wQt B S H=true then(if W=1*(8+S)+64 then(1,0)else if W=2*(8+S)+64 then(2,0)else if W=3*(8+S)+64 then(3,0)else if W=4*(8+S)+64 then(4,0)else(0,8))else(0,8)
theorem yW5{B S H:Int}:wQt B S H=true↔1≤B∧B≤64∧1≤S∧S≤32∧may H=true∧B≤2^H.toNat:=by unfold wQt;exact decide_eq_true_iff
theorem xXn(B S H W:Int)(h:0≤S)(h2:S≤1000):yZ9 (B,S,H,W,())=some (8+S):=by
 unfold yZ9;simp only;rw[Z.wrap_i64 (by simp only[Z.add_eq];omega) (by simp only[Z.add_eq];omega)]
theorem zJ6(B S H W:Int):zY9 (B,S,H,W,())=some (zX5 B S H W):=by
 unfold zY9 zX5;simp only;have bad:¬(1≤B∧B≤64∧1≤S∧S≤32∧may H=true∧B≤2^H.toNat)→(if wQt B S H=true then(if W=1*(8+S)+64 then((1,0):Int×Int)else if W=2*(8+S)+64 then(2,0)else if W=3*(8+S)+64 then(3,0)else if W=4*(8+S)+64 then(4,0)else(0,8))else(0,8))=(0,8):=
  fun h=>Qi (fun hh=>h (yW5.1 hh))
 have pf:∀b:Bool,Z.zQu false true b=b:=fun b=>by simp[Z.zQu]
 by_cases h1:B<1
 ·rw[show Z.ilt B 1=true by simp[Z.ilt,h1],cond_true,bad (by omega)]
 rw[show Z.ilt B 1=false by simp[Z.ilt,h1],cond_false,pf]
 by_cases h2:B>64
 ·rw[show Z.igt B 64=true by simp[Z.igt,h2],cond_true,bad (by omega)]
 rw[show Z.igt B 64=false by simp[Z.igt];omega,cond_false,pf]
 by_cases h3:S<1
 ·rw[show Z.ilt S 1=true by simp[Z.ilt,h3],cond_true,bad (by omega)]
 rw[show Z.ilt S 1=false by simp[Z.ilt,h3],cond_false,pf]
 by_cases h4:S>32
 ·rw[show Z.igt S 32=true by simp[Z.igt,h4],cond_true,bad (by omega)]
 rw[show Z.igt S 32=false by simp[Z.igt];omega,cond_false,yXc,Z.bind_some]
 cases hm:may H with
 |false=>
  rw[bad (by rw[hm];simp)];rfl
 | true=>
  have z0:Z.ine 0 0=false:=rfl;rw[Qf rfl];simp only;rw[z0,cond_false,pf];by_cases h5:2^H.toNat<B
  ·rw[show Z.ilt (2^H.toNat) B=true by simp[Z.ilt,h5],cond_true,bad (by omega)]
  rw[show Z.ilt (2^H.toNat) B=false by simp[Z.ilt];omega,cond_false,Qf (yW5.2 ⟨by omega,by omega,by omega,by omega,hm,by omega⟩)]
  refine zWx (fun(s:Int)=>1≤s∧s≤5∧∀j:Int,1≤j→j<s→W≠j*(8+S)+64) (fun s=>(5-s).toNat) ?_ ⟨by omega,by omega,fun j h1 h2=>by omega⟩ (by decide)
  rintro s k ⟨s1,s2,s3⟩ hk;by_cases hs:s≤4
  ·have e1:Z.ile s 4=true:=by simp[Z.ile,hs]
   have hmul:s*(8+S)≤4*40:=Int.mul_le_mul hs (by omega) (by omega) (by omega)
   have hmul0:0≤s*(8+S):=Int.mul_nonneg (by omega) (by omega)
   have w1:Z.wrap .i64 (Z.mul s (8+S))=s*(8+S):=Z.wrap_i64 (by show _≤s*(8+S);omega) (by show s*(8+S)≤_;omega)
   have w2:Z.wrap .i64 (Z.add (s*(8+S)) 64)=s*(8+S)+64:=Z.wrap_i64 (by show _≤s*(8+S)+64;omega) (by show s*(8+S)+64≤_;omega)
   have w3:Z.wrap .i64 (Z.add s 1)=s+1:=Z.wrap_i64 (by show _≤s+1;omega) (by show s+1≤_;omega)
   rw[e1,cond_true,xXn _ _ _ _ (by omega) (by omega),Z.bind_some,w1,Z.zYw,w2,Z.zYw]
   by_cases hW:W=s*(8+S)+64
   ·rw[show Z.ieq W (s*(8+S)+64)=true by simp[Z.ieq,hW],cond_true]
    have hc:s=1∨s=2∨s=3∨s=4:=by omega
    rcases hc with rfl|rfl|rfl|rfl
    ·rw[Qf hW]
    ·rw[Qi (s3 1 (by omega) (by omega)),Qf hW]
    ·rw[Qi (s3 1 (by omega) (by omega)),Qi (s3 2 (by omega) (by omega)),Qf hW]
    ·rw[Qi (s3 1 (by omega) (by omega)),Qi (s3 2 (by omega) (by omega)),Qi (s3 3 (by omega) (by omega)),Qf hW]
   ·rw[show Z.ieq W (s*(8+S)+64)=false by simp[Z.ieq,hW],cond_false,w3,Z.zYw]
    refine hk _ ⟨by omega,by omega,fun j j1 j2=>?_⟩ (by omega)
    by_cases hj:j=s
    ·subst hj;exact hW
    ·exact s3 j j1 (by omega)
  ·have e1:Z.ile s 4=false:=by simp[Z.ile];omega
   rw[e1,cond_false,Qi (s3 1 (by omega) (by omega)),Qi (s3 2 (by omega) (by omega)),Qi (s3 3 (by omega) (by omega)),Qi (s3 4 (by omega) (by omega))]
theorem xQv(B S H W:Int):(zX5 B S H W).2=0∨zX5 B S H W=(0,8):=by
 unfold zX5;split
 ·split
  ·exact .inl rfl
  ·split
   ·exact .inl rfl
   ·split
    ·exact .inl rfl
    ·split
     ·exact .inl rfl
     ·exact .inr rfl
 ·exact .inr rfl
theorem zY8{B S H W:Int}(h:(zX5 B S H W).2=0):wQt B S H=true:=by
 unfold zX5 at h;split at h
 ·assumption
 ·simp at h
def yZ2(B S H i f:Int)(d:List Int):Bool:=decide (0≤i∧i<B∧0≤f∧f<2^H.toNat∧(d.length:Int)=S)
def zZi(B S H W i f:Int)(d:List Int):Int:=if(zX5 B S H W).2=0 then(if yZ2 B S H i f d=true then 0 else 8)else 8
theorem zKk(B S H W i f:Int)(d:List Int):zKc ((B,S,H,W,()),(i,f,d,()))=some (zZi B S H W i f d):=by
 unfold zKc zZi;simp only;rw[zJ6,Z.bind_some];rcases xQv B S H W with h0|h8
 ·obtain⟨l1,l2,l3,l4,l5,l6⟩:=yW5.1 (zY8 h0)
  have z0:Z.ine 0 0=false:=rfl;have pf:∀b:Bool,Z.zQu false true b=b:=fun b=>by simp[Z.zQu]
  rw[h0,z0,cond_false,yXc,Z.bind_some,l5,Qf rfl,Qf rfl];simp only;rw[pf,pf,pf,pf];have bad:¬(0≤i∧i<B∧0≤f∧f<2^H.toNat∧(d.length:Int)=S)→(if yZ2 B S H i f d=true then(0:Int)else 8)=8:=fun h=>Qi (fun hh=>h (K9 hh))
  by_cases c1:i<0
  ·rw[show Z.ilt i 0=true by simp[Z.ilt,c1],cond_true,bad (by omega)]
  rw[show Z.ilt i 0=false by simp[Z.ilt,c1],cond_false]
  by_cases c2:i≥B
  ·rw[show Z.ige i B=true by simp[Z.ige,c2],cond_true,bad (by omega)]
  rw[show Z.ige i B=false by simp[Z.ige];omega,cond_false]
  by_cases c3:f<0
  ·rw[show Z.ilt f 0=true by simp[Z.ilt,c3],cond_true,bad (by omega)]
  rw[show Z.ilt f 0=false by simp[Z.ilt,c3],cond_false]
  by_cases c4:f≥2^H.toNat
  ·rw[show Z.ige f (2^H.toNat)=true by simp[Z.ige,c4],cond_true,bad (by omega)]
  rw[show Z.ige f (2^H.toNat)=false by simp[Z.ige];omega,cond_false]
  by_cases c5:(d.length:Int)=S
  ·rw[show Z.ine (Z.ofN (Z.len d)) S=false by simp[Z.ine,c5],cond_false,Qf (show yZ2 B S H i f d=true from Qu ⟨by omega,by omega,by omega,by omega,c5⟩)]
  ·rw[show Z.ine (Z.ofN (Z.len d)) S=true by simp[Z.ine,c5],cond_true,bad (fun h=>c5 h.2.2.2.2)]
 ·have z8:Z.ine 8 0=true:=rfl
  rw[h8];simp only;rw[z8,cond_true];rfl
theorem vJ2{B S H W i f:Int}{d:List Int}(h:zZi B S H W i f d=0):(zX5 B S H W).2=0∧0≤i∧i<B∧0≤f∧f<2^H.toNat∧(d.length:Int)=S:=by
 unfold zZi at h;split at h
 ·rename_i h0
  split at h
  ·rename_i h1;exact⟨h0,K9 h1⟩
  ·simp at h
 ·simp at h
theorem yK3(B S H W i f:Int)(d:List Int):zZi B S H W i f d=0∨zZi B S H W i f d=8:=by
 unfold zZi;split
 ·split
  ·exact .inl rfl
  ·exact .inr rfl
 ·exact .inr rfl
theorem yYz(a b:List Int):yWa (a,b)=some (decide (Z.str a=Z.str b)):=by
 simp only[yWa,Z.zYw,Z.seq];congr 1;rw[Bool.eq_iff_iff];simp
abbrev Blk:Type:=Int×(Int×(List Int×Unit))
def noB:Blk:=(0,0,[],())
end Go.Proofs.Ytampmlalpifkoaa
