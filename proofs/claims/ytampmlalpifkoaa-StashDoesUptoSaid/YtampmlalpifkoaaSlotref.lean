/- The document's answers for slots. -/
import Derived.Test.YtampmlalpifkoaaSlot
namespace Go.Proofs.Ytampmlalpifkoaa
open Go.Eng
set_option linter.unusedVariables false
set_option linter.unusedSimpArgs false
theorem wXe{B S H W:Int}(h:(zX5 B S H W).2=0):1≤(zX5 B S H W).1:=by
 unfold zX5 at h⊢;split
 ·split
  ·decide
  ·split
   ·decide
   ·split
    ·decide
    ·split
     ·decide
     ·rename_i c0 c1 c2 c3 c4
      rw[Qf c0,Qi c1,Qi c2,Qi c3,Qi c4]at h;simp at h
 ·rename_i c0
  rw[Qi c0]at h;simp at h
theorem xQ2(B S H W:Int):yXv (B,S,H,W,())=some (zX5 B S H W).1:=by
 unfold yXv;simp only;have bad:¬(1≤B∧B≤64∧1≤S∧S≤32∧may H=true∧B≤2^H.toNat)→(zX5 B S H W).1=0:=
  fun h=>by unfold zX5;rw[Qi (fun hh=>h (yW5.1 hh))]
 have pf:∀b:Bool,Z.zQu false true b=b:=fun b=>by simp[Z.zQu]
 by_cases h1:B<1
 ·rw[show Z.ilt B 1=true by simp[Z.ilt,h1],cond_true,bad (by omega)]
 rw[show Z.ilt B 1=false by simp[Z.ilt,h1],cond_false,pf]
 by_cases h2:B>64
 ·rw[show Z.igt B 64=true by simp[Z.igt,h2],cond_true,bad (by omega)]
 rw[show Z.igt B 64=false by simp[Z.igt];omega,cond_false,pf]
 by_cases h3:S<1
 ·rw[show Z.ilt S 1=true by simp[Z.ilt,h3],cond_true,bad (by omega)]
 rw[show Z.ilt S 1=false by simp[Z.ilt,h3],cond_false,pf]
 by_cases h4:S>32
 ·rw[show Z.igt S 32=true by simp[Z.igt,h4],cond_true,bad (by omega)]
 rw[show Z.igt S 32=false by simp[Z.igt];omega,cond_false,xXp,Z.bind_some,pf]
 cases hm:may H with
 |false=>
  rw[bad (by rw[hm];simp)];rfl
 | true=>
  have hH:=xJb.1 hm;have nt:Z.bnot true=false:=rfl;rw[nt,cond_false,yWq H (by omega) (by omega),Z.bind_some,pf]
  by_cases h5:2^H.toNat<B
  ·rw[show Z.ilt (2^H.toNat) B=true by simp[Z.ilt,h5],cond_true,bad (by omega)]
  have hlv:wQt B S H=true:=yW5.2 ⟨by omega,by omega,by omega,by omega,hm,by omega⟩
  rw[show Z.ilt (2^H.toNat) B=false by simp[Z.ilt];omega,cond_false]
  unfold zX5;rw[Qf hlv];refine zWx (fun(s:Int)=>1≤s∧s≤5∧∀j:Int,1≤j→j<s→W≠j*(8+S)+64) (fun s=>(5-s).toNat) ?_ ⟨by omega,by omega,fun j h1 h2=>by omega⟩ (by decide)
  rintro s k ⟨s1,s2,s3⟩ hk;by_cases hs:s≤4
  ·have e1:Z.ile s 4=true:=by simp[Z.ile,hs]
   have hmul:s*(8+S)≤4*40:=Int.mul_le_mul hs (by omega) (by omega) (by omega)
   have hmul0:0≤s*(8+S):=Int.mul_nonneg (by omega) (by omega)
   have w0:Z.wrap .i64 (Z.add 8 S)=8+S:=Z.wrap_i64 (by show _≤8+S;omega) (by show 8+S≤_;omega)
   have w1:Z.wrap .i64 (Z.mul s (8+S))=s*(8+S):=Z.wrap_i64 (by show _≤s*(8+S);omega) (by show s*(8+S)≤_;omega)
   have w2:Z.wrap .i64 (Z.add (s*(8+S)) 64)=s*(8+S)+64:=Z.wrap_i64 (by show _≤s*(8+S)+64;omega) (by show s*(8+S)+64≤_;omega)
   have w3:Z.wrap .i64 (Z.add s 1)=s+1:=Z.wrap_i64 (by show _≤s+1;omega) (by show s+1≤_;omega)
   rw[e1,cond_true,w0,Z.zYw,w1,Z.zYw,w2,Z.zYw];by_cases hW:W=s*(8+S)+64
   ·rw[show Z.ieq W (s*(8+S)+64)=true by simp[Z.ieq,hW],cond_true]
    have hc:s=1∨s=2∨s=3∨s=4:=by omega
    rcases hc with rfl|rfl|rfl|rfl
    ·rw[Qf hW]
    ·rw[Qi (s3 1 (by omega) (by omega)),Qf hW]
    ·rw[Qi (s3 1 (by omega) (by omega)),Qi (s3 2 (by omega) (by omega)),Qf hW]
    ·rw[Qi (s3 1 (by omega) (by omega)),Qi (s3 2 (by omega) (by omega)),Qi (s3 3 (by omega) (by omega)),Qf hW]
   ·rw[show Z.ieq W (s*(8+S)+64)=false by simp[Z.ieq,hW],cond_false,w3,Z.zYw]
    refine hk _ ⟨by omega,by omega,fun j j1 j2=>?_⟩ (by omega)
    by_cases hj:j=s
    ·subst hj;exact hW
    ·exact s3 j j1 (by omega)
  ·have e1:Z.ile s 4=false:=by simp[Z.ile];omega
   rw[e1,cond_false,Qi (s3 1 (by omega) (by omega)),Qi (s3 2 (by omega) (by omega)),Qi (s3 3 (by omega) (by omega)),Qi (s3 4 (by omega) (by omega))]
theorem wKg(B S H W:Int):Z.ilt (zX5 B S H W).1 1=!decide ((zX5 B S H W).2=0):=by
 rcases xQv B S H W with h0|h8
 ·have:=wXe h0
  simp[Z.ilt,h0];omega
 ·rw[h8];rfl
theorem zY0(B S H W i f:Int)(d:List Int)(hl:wQt B S H=true):yQe ((B,S,H,W,()),(i,f,d,()))=some (yZ2 B S H i f d):=by
 unfold yQe;obtain⟨l1,l2,l3,l4,l5,l6⟩:=yW5.1 hl;have hH:=xJb.1 l5;have pt:∀b:Bool,Z.zQu true b false=b:=fun b=>by cases b<;>rfl
 have bad:¬(0≤i∧i<B∧0≤f∧f<2^H.toNat∧(d.length:Int)=S)→yZ2 B S H i f d=false:=fun h=>Qx h
 simp only;rw[pt,pt];by_cases c1:i<0
 ·rw[show Z.ige i 0=false by simp[Z.ige,c1],cond_false,bad (by omega)]
 rw[show Z.ige i 0=true by simp[Z.ige];omega,cond_true]
 by_cases c2:i≥B
 ·rw[show Z.ilt i B=false by simp[Z.ilt];omega,cond_false,bad (by omega)]
 rw[show Z.ilt i B=true by simp[Z.ilt];omega,cond_true]
 by_cases c3:f<0
 ·rw[show Z.ige f 0=false by simp[Z.ige,c3],cond_false,bad (by omega)]
 rw[show Z.ige f 0=true by simp[Z.ige];omega,cond_true,yWq H (by omega) (by omega),Z.bind_some,pt,pt]
 by_cases c4:f≥2^H.toNat
 ·rw[show Z.ilt f (2^H.toNat)=false by simp[Z.ilt];omega,cond_false,bad (by omega)]
 rw[show Z.ilt f (2^H.toNat)=true by simp[Z.ilt];omega,cond_true]
 by_cases c5:(d.length:Int)=S
 ·rw[show Z.ieq (Z.ofN (Z.len d)) S=true by simp[Z.ieq,c5],show yZ2 B S H i f d=true from Qu ⟨by omega,by omega,by omega,by omega,c5⟩]
 ·rw[show Z.ieq (Z.ofN (Z.len d)) S=false by simp[Z.ieq,c5],bad (fun h=>c5 h.2.2.2.2)]
theorem zZc(i f:Int)(d:List Int)(hd:d.length≤2000000):zXn (i,f,d,())=some (i,f,d,()):=by
  unfold zXn;have c1:Z.Le (Z.addN 0 0) (Z.len ([]:List Int)):=Qe _;have s0:Z.seg ([]:List Int) 0 0=[]:=rfl;have c8:¬Z.Big (Z.len ([]:List Int)) (Z.len d) 1:=by show¬(2^44<(([]:List Int).length+d.length)*(1+1));simp only[Wa];omega
  have a0:Z.app ([]:List Int) d=d:=rfl;have c7:Z.Le (Z.addN 0 (Z.len d)) (Z.len d):=by show 0+d.length≤d.length;omega
  have sa:Z.seg d 0 (Z.len d)=d:=by show(d.drop 0).take d.length=d;rw[Jt,Jj]
  simp only;rw[Qf c1]
  first
  | (rw[s0,Qi c8,Z.zYw]
     rfl
     done)
  | (by_cases h0:Z.EqN (Z.len d) 0
     · have hn:d=[]:=Qr.1 h0
       rw[Qf h0,Qf c1,s0,hn]
     ·rw[Qi h0,s0,Qi c8,Z.zYw,a0,Qf c7,sa])
theorem zZy(i f:Int)(d:List Int)(hd:d.length≤2000000):zW4 (i,f,d,())=some (i,f,d,()):=by
  unfold zW4;have c1:Z.Le (Z.addN 0 0) (Z.len ([]:List Int)):=Qe _;have s0:Z.seg ([]:List Int) 0 0=[]:=rfl;have c8:¬Z.Big (Z.len ([]:List Int)) (Z.len d) 1:=by show¬(2^44<(([]:List Int).length+d.length)*(1+1));simp only[Wa];omega
  have c7:Z.Le (Z.addN 0 (Z.len d)) (Z.len d):=by show 0+d.length≤d.length;omega
  have sa:Z.seg d 0 (Z.len d)=d:=by show(d.drop 0).take d.length=d;rw[Jt,Jj]
  simp only
  first
  | (cases d with
     | nil=>
       rw[Qf (show Z.EqN (Z.len ([]:List Int)) 0 from rfl),yJ0 _ (by simp),Z.bind_some]
       rfl
     | cons x d=>
       have n0:¬Z.EqN (Z.len (x::d)) 0:=by show¬((x::d).length=0);simp
       have a0:Z.app ([]:List Int) (x::d)=x::d:=rfl;rw[Qi n0,Qi n0,Qf c1,Qi n0,s0,Qi c8,Z.zYw,a0,Qf c7,uQ0 _ (Qe _)]
     done)
  | (rw[yJ0 _ (by omega),Z.bind_some]
     by_cases h0:Z.EqN (Z.len d) 0
     ·rw[Qf h0,Qf h0]
     ·rw[Qi h0,Qf c7,sa]
     done)
  |(rw[yJ0 _ (by omega),Z.bind_some])
def xY2(i f:Int)(d:List Int)(i' f':Int)(d':List Int):Bool:=decide (i=i'∧f=f'∧Z.str d=Z.str d')
theorem xZe(i f:Int)(d:List Int):xY2 i f d i f d=true:=Qu ⟨rfl,rfl,rfl⟩
theorem yWp(i f:Int)(d:List Int)(i' f':Int)(d':List Int):zJ2 ((i,f,d,()),(i',f',d',()))=some (xY2 i f d i' f' d'):=by
 unfold zJ2 xY2;have pt:∀b:Bool,Z.zQu true b false=b:=fun b=>by cases b<;>rfl
 simp only;rw[xQ3,pt,Z.bind_some,pt];by_cases h1:i=i'
 ·rw[show Z.ieq i i'=true by simp[Z.ieq,h1],cond_true]
  by_cases h2:f=f'
  ·rw[show Z.ieq f f'=true by simp[Z.ieq,h2],cond_true]
   simp[h1,h2]
  ·rw[show Z.ieq f f'=false by simp[Z.ieq,h2],cond_false]
   simp[h2]
 ·rw[show Z.ieq i i'=false by simp[Z.ieq,h1],cond_false]
  simp[h1]
theorem xXo(i f:Int)(d:List Int)(i' f':Int)(d':List Int):yKa ((i,f,d,()),(i',f',d',()))=some (xY2 i f d i' f' d'):=by
 unfold yKa xY2;have pt:∀b:Bool,Z.zQu true b false=b:=fun b=>by cases b<;>rfl
 simp only;rw[yYz,pt,Z.bind_some,pt];by_cases h1:i=i'
 ·rw[show Z.ieq i i'=true by simp[Z.ieq,h1],cond_true]
  by_cases h2:f=f'
  ·rw[show Z.ieq f f'=true by simp[Z.ieq,h2],cond_true]
   simp[h1,h2]
  ·rw[show Z.ieq f f'=false by simp[Z.ieq,h2],cond_false]
   simp[h2]
 ·rw[show Z.ieq i i'=false by simp[Z.ieq,h1],cond_false]
  simp[h1]
end Go.Proofs.Ytampmlalpifkoaa
