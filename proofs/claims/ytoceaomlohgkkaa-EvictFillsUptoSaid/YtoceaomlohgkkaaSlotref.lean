/- The document's answers for slots. -/
import Derived.Test.YtoceaomlohgkkaaSlot
namespace Go.Proofs.Ytoceaomlohgkkaa
open Go.Eng
set_option linter.unusedVariables false
set_option linter.unusedSimpArgs false
theorem wQi{B S H W:Int}(h:(zXn B S H W).2=0):1≤(zXn B S H W).1:=by
 unfold zXn at h⊢;split
 ·split
  ·decide
  ·split
   ·decide
   ·split
    ·decide
    ·split
     ·decide
     ·rename_i c0 c1 c2 c3 c4
      rw[if_pos c0,if_neg c1,if_neg c2,if_neg c3,if_neg c4]at h;simp at h
 ·rename_i c0
  rw[if_neg c0]at h;simp at h
theorem yQx(B S H W:Int):zYj (B,S,H,W,())=some (zXn B S H W).1:=by
 unfold zYj;simp only;have bad:¬(1≤B∧B≤64∧1≤S∧S≤32∧may H=true∧B≤2^H.toNat)→(zXn B S H W).1=0:=
  fun h=>by unfold zXn;rw[if_neg (fun hh=>h (yQ7.1 hh))]
 have pf:∀b:Bool,Z.zQ1 false true b=b:=fun b=>by simp[Z.zQ1]
 by_cases h1:B<1
 ·rw[show Z.ilt B 1=true by simp[Z.ilt,h1],cond_true,bad (by omega)]
 rw[show Z.ilt B 1=false by simp[Z.ilt,h1],cond_false,pf]
 by_cases h2:B>64
 ·rw[show Z.igt B 64=true by simp[Z.igt,h2],cond_true,bad (by omega)]
 rw[show Z.igt B 64=false by simp[Z.igt];omega,cond_false,pf]
 by_cases h3:S<1
 ·rw[show Z.ilt S 1=true by simp[Z.ilt,h3],cond_true,bad (by omega)]
 rw[show Z.ilt S 1=false by simp[Z.ilt,h3],cond_false,pf]
 by_cases h4:S>32
 ·rw[show Z.igt S 32=true by simp[Z.igt,h4],cond_true,bad (by omega)]
 rw[show Z.igt S 32=false by simp[Z.igt];omega,cond_false,xWo,Z.bind_some,pf]
 cases hm:may H with
 |false=>
  rw[bad (by rw[hm];simp)];rfl
 | true=>
  have hH:=zY8.1 hm;have nt:Z.bnot true=false:=rfl;rw[nt,cond_false,zX0 H (by omega) (by omega),Z.bind_some,pf]
  by_cases h5:2^H.toNat<B
  ·rw[show Z.ilt (2^H.toNat) B=true by simp[Z.ilt,h5],cond_true,bad (by omega)]
  have hlv:xYb B S H=true:=yQ7.2 ⟨by omega,by omega,by omega,by omega,hm,by omega⟩
  rw[show Z.ilt (2^H.toNat) B=false by simp[Z.ilt];omega,cond_false]
  unfold zXn;rw[if_pos hlv];refine zWc (fun(s:Int)=>1≤s∧s≤5∧∀j:Int,1≤j→j<s→W≠j*(8+S)+64) (fun s=>(5-s).toNat) ?_ ⟨by omega,by omega,fun j h1 h2=>by omega⟩ (by decide)
  rintro s k ⟨s1,s2,s3⟩ hk;by_cases hs:s≤4
  ·have e1:Z.ile s 4=true:=by simp[Z.ile,hs]
   have hmul:s*(8+S)≤4*40:=Int.mul_le_mul hs (by omega) (by omega) (by omega)
   have hmul0:0≤s*(8+S):=Int.mul_nonneg (by omega) (by omega)
   have w0:Z.wrap .i64 (Z.add 8 S)=8+S:=Z.wrap_i64 (by show _≤8+S;omega) (by show 8+S≤_;omega)
   have w1:Z.wrap .i64 (Z.mul s (8+S))=s*(8+S):=Z.wrap_i64 (by show _≤s*(8+S);omega) (by show s*(8+S)≤_;omega)
   have w2:Z.wrap .i64 (Z.add (s*(8+S)) 64)=s*(8+S)+64:=Z.wrap_i64 (by show _≤s*(8+S)+64;omega) (by show s*(8+S)+64≤_;omega)
   have w3:Z.wrap .i64 (Z.add s 1)=s+1:=Z.wrap_i64 (by show _≤s+1;omega) (by show s+1≤_;omega)
   rw[e1,cond_true,w0,Z.zZh,w1,Z.zZh,w2,Z.zZh];by_cases hW:W=s*(8+S)+64
   ·rw[show Z.ieq W (s*(8+S)+64)=true by simp[Z.ieq,hW],cond_true]
    have hc:s=1∨s=2∨s=3∨s=4:=by omega
    rcases hc with rfl|rfl|rfl|rfl
    ·rw[if_pos hW]
    ·rw[if_neg (s3 1 (by omega) (by omega)),if_pos hW]
    ·rw[if_neg (s3 1 (by omega) (by omega)),if_neg (s3 2 (by omega) (by omega)),if_pos hW]
    ·rw[if_neg (s3 1 (by omega) (by omega)),if_neg (s3 2 (by omega) (by omega)),if_neg (s3 3 (by omega) (by omega)),if_pos hW]
   ·rw[show Z.ieq W (s*(8+S)+64)=false by simp[Z.ieq,hW],cond_false,w3,Z.zZh]
    refine hk _ ⟨by omega,by omega,fun j j1 j2=>?_⟩ (by omega)
    by_cases hj:j=s
    ·subst hj;exact hW
    ·exact s3 j j1 (by omega)
  ·have e1:Z.ile s 4=false:=by simp[Z.ile];omega
   rw[e1,cond_false,if_neg (s3 1 (by omega) (by omega)),if_neg (s3 2 (by omega) (by omega)),if_neg (s3 3 (by omega) (by omega)),if_neg (s3 4 (by omega) (by omega))]
theorem wXp(B S H W:Int):Z.ilt (zXn B S H W).1 1=!decide ((zXn B S H W).2=0):=by
 rcases yYr B S H W with h0|h8
 ·have:=wQi h0
  simp[Z.ilt,h0];omega
 ·rw[h8];rfl
theorem xWn(B S H W i f:Int)(d:List Int)(hl:xYb B S H=true):yZg ((B,S,H,W,()),(i,f,d,()))=some (yK0 B S H i f d):=by
 unfold yZg;obtain⟨l1,l2,l3,l4,l5,l6⟩:=yQ7.1 hl;have hH:=zY8.1 l5;have pt:∀b:Bool,Z.zQ1 true b false=b:=fun b=>by cases b<;>rfl
 have bad:¬(0≤i∧i<B∧0≤f∧f<2^H.toNat∧(d.length:Int)=S)→yK0 B S H i f d=false:=fun h=>decide_eq_false h
 simp only;rw[pt,pt];by_cases c1:i<0
 ·rw[show Z.ige i 0=false by simp[Z.ige,c1],cond_false,bad (by omega)]
 rw[show Z.ige i 0=true by simp[Z.ige];omega,cond_true]
 by_cases c2:i≥B
 ·rw[show Z.ilt i B=false by simp[Z.ilt];omega,cond_false,bad (by omega)]
 rw[show Z.ilt i B=true by simp[Z.ilt];omega,cond_true]
 by_cases c3:f<0
 ·rw[show Z.ige f 0=false by simp[Z.ige,c3],cond_false,bad (by omega)]
 rw[show Z.ige f 0=true by simp[Z.ige];omega,cond_true,zX0 H (by omega) (by omega),Z.bind_some,pt,pt]
 by_cases c4:f≥2^H.toNat
 ·rw[show Z.ilt f (2^H.toNat)=false by simp[Z.ilt];omega,cond_false,bad (by omega)]
 rw[show Z.ilt f (2^H.toNat)=true by simp[Z.ilt];omega,cond_true]
 by_cases c5:(d.length:Int)=S
 ·rw[show Z.ieq (Z.ofN (Z.len d)) S=true by simp[Z.ieq,c5],show yK0 B S H i f d=true from decide_eq_true ⟨by omega,by omega,by omega,by omega,c5⟩]
 ·rw[show Z.ieq (Z.ofN (Z.len d)) S=false by simp[Z.ieq,c5],bad (fun h=>c5 h.2.2.2.2)]
theorem yYy(i f:Int)(d:List Int)(hd:d.length≤2000000):yWx (i,f,d,())=some (i,f,d,()):=by
  unfold yWx;have c1:Z.Le (Z.addN 0 0) (Z.len ([]:List Int)):=Qf _;have s0:Z.seg ([]:List Int) 0 0=[]:=rfl;have c8:¬Z.Big (Z.len ([]:List Int)) (Z.len d) 1:=by show¬(2^44<(([]:List Int).length+d.length)*(1+1));simp only[Kp];omega
  have a0:Z.app ([]:List Int) d=d:=rfl;have c7:Z.Le (Z.addN 0 (Z.len d)) (Z.len d):=by show 0+d.length≤d.length;omega
  have sa:Z.seg d 0 (Z.len d)=d:=by show(d.drop 0).take d.length=d;rw[J1,Q4]
  simp only;rw[if_pos c1]
  first
  | (rw[s0,if_neg c8,Z.zZh]
     rfl
     done)
  | (by_cases h0:Z.EqN (Z.len d) 0
     · have hn:d=[]:=Qq.1 h0
       rw[if_pos h0,if_pos c1,s0,hn]
     ·rw[if_neg h0,s0,if_neg c8,Z.zZh,a0,if_pos c7,sa])
theorem xWm(i f:Int)(d:List Int)(hd:d.length≤2000000):yQv (i,f,d,())=some (i,f,d,()):=by
  unfold yQv;have c1:Z.Le (Z.addN 0 0) (Z.len ([]:List Int)):=Qf _;have s0:Z.seg ([]:List Int) 0 0=[]:=rfl;have c8:¬Z.Big (Z.len ([]:List Int)) (Z.len d) 1:=by show¬(2^44<(([]:List Int).length+d.length)*(1+1));simp only[Kp];omega
  have c7:Z.Le (Z.addN 0 (Z.len d)) (Z.len d):=by show 0+d.length≤d.length;omega
  have sa:Z.seg d 0 (Z.len d)=d:=by show(d.drop 0).take d.length=d;rw[J1,Q4]
  simp only
  first
  | (cases d with
     | nil=>
       rw[if_pos (show Z.EqN (Z.len ([]:List Int)) 0 from rfl),yKx _ (by simp),Z.bind_some]
       rfl
     | cons x d=>
       have n0:¬Z.EqN (Z.len (x::d)) 0:=by show¬((x::d).length=0);simp
       have a0:Z.app ([]:List Int) (x::d)=x::d:=rfl;rw[if_neg n0,if_neg n0,if_pos c1,if_neg n0,s0,if_neg c8,Z.zZh,a0,if_pos c7,vJl _ (Qf _)]
     done)
  | (rw[yKx _ (by omega),Z.bind_some]
     by_cases h0:Z.EqN (Z.len d) 0
     ·rw[if_pos h0,if_pos h0]
     ·rw[if_neg h0,if_pos c7,sa]
     done)
  |(rw[yKx _ (by omega),Z.bind_some])
def vJo(i f:Int)(d:List Int)(i' f':Int)(d':List Int):Bool:=decide (i=i'∧f=f'∧Z.str d=Z.str d')
theorem wZ7(i f:Int)(d:List Int):vJo i f d i f d=true:=decide_eq_true ⟨rfl,rfl,rfl⟩
theorem yYz(i f:Int)(d:List Int)(i' f':Int)(d':List Int):zYi ((i,f,d,()),(i',f',d',()))=some (vJo i f d i' f' d'):=by
 unfold zYi vJo;have pt:∀b:Bool,Z.zQ1 true b false=b:=fun b=>by cases b<;>rfl
 simp only;rw[yY1,pt,Z.bind_some,pt];by_cases h1:i=i'
 ·rw[show Z.ieq i i'=true by simp[Z.ieq,h1],cond_true]
  by_cases h2:f=f'
  ·rw[show Z.ieq f f'=true by simp[Z.ieq,h2],cond_true]
   simp[h1,h2]
  ·rw[show Z.ieq f f'=false by simp[Z.ieq,h2],cond_false]
   simp[h2]
 ·rw[show Z.ieq i i'=false by simp[Z.ieq,h1],cond_false]
  simp[h1]
end Go.Proofs.Ytoceaomlohgkkaa
