/- Leaves' paths: what is asked of them. -/
import Derived.Test.YtoceaomlohgkkaaGeo
import Derived.Test.YtoceaomlohgkkaaSameInts
namespace Go.Proofs.Ytoceaomlohgkkaa
open Go.Eng
set_option linter.unusedVariables false
set_option linter.unusedSimpArgs false
set_option maxRecDepth 20000
def isL(h a:Int):Bool:=may h&&(decide (0≤a)&&decide (a<2^h.toNat))
theorem wQ9{h a:Int}:isL h a=true↔may h=true∧0≤a∧a<2^h.toNat:=by simp[isL]
theorem shl1{h:Int}(hm:may h=true):Z.shl .i64 1 h=2^h.toNat:=by
 rcases xJ9 hm with rfl|rfl|rfl|rfl|rfl|rfl<;>rfl
theorem vKe{h:Int}(hm:may h=true):¬Z.Neg h:=by
 have:=zY8.1 hm;show¬(h<0);omega
theorem zJl(h a:Int):zJc (h,a)=some (isL h a):=by
 unfold zJc isL;simp only;rw[yXj,Z.bind_some];cases hm:may h with
 |false=>simp[Z.ieq]
 |true=>
  simp only[if_true,Z.ieq,beq_self_eq_true,cond_true,if_neg (vKe hm),shl1 hm,Z.zZh,Z.vJ2,Kf];by_cases h0:0≤a<;>simp[Z.ige,Z.ilt,h0]
theorem wZf{h a:Int}(hl:isL h a=true):∃H A:Nat,h=(H:Int)∧a=(A:Int)∧1≤H∧H≤6∧A<2^H∧may (H:Int)=true:=by
 obtain⟨hm,h0,h1⟩:=wQ9.1 hl;have hm':=zY8.1 hm;obtain⟨H,rfl⟩:=Int.eq_ofNat_of_zero_le (by omega:0≤h)
 obtain⟨A,rfl⟩:=Int.eq_ofNat_of_zero_le h0;refine⟨H,A,rfl,rfl,by omega,by omega, ?_,hm⟩
 have e:((2:Int)^(H:Int).toNat)=((2^H:Nat):Int):=by simp
 rw[e]at h1;omega
def rowN(H A r:Nat):Nat:=(2^H+A)/2^(H-r)
theorem pow6{H:Nat}(h:H≤6):2^H≤64:=Nat.pow_le_pow_right (by omega) h
theorem zYb{H A r:Nat}(h1:1≤H)(hH:H≤6)(hA:A<2^H)(hr:r≤H):zYo ((H:Int),(r:Int),(A:Int))=some ((rowN H A r:Nat):Int):=by
 have hm:may (H:Int)=true:=zY8.2 ⟨by omega,by omega⟩
 have hp:=pow6 hH;unfold zYo;have e1:((2:Int)^(H:Int).toNat)=((2^H:Nat):Int):=by simp
 have e2:Z.wrap .i64 (Z.add ((2^H:Nat):Int) (A:Int))=((2^H+A:Nat):Int):=by
  have:Z.add ((2^H:Nat):Int) (A:Int)=((2^H+A:Nat):Int):=by simp[Z.add]
  have hb:2^H+A<128:=by omega
  rw[this];clear hA e1 this hp;generalize 2^H+A=n at *;rw[Z.wrap_i64]<;>omega
 have e3:Z.wrap .i64 (Z.sub (H:Int) (r:Int))=((H-r:Nat):Int):=by
  rw[Z.wrap_i64]<;>simp only[Z.sub_eq]<;>omega
 have n2:¬Z.Neg ((H-r:Nat):Int):=by show¬(((H-r:Nat):Int)<0);omega
 simp only[if_neg (vKe hm),shl1 hm,e1,Z.zZh,e2,e3,if_neg n2];congr 1;show Int.fdiv ((2^H+A:Nat):Int) (2^(min ((H-r:Nat):Int).toNat 64))=_;have e4:min ((H-r:Nat):Int).toNat 64=H-r:=by omega
 have e5:((2:Int)^(H-r))=((2^(H-r):Nat):Int):=by simp
 rw[e4,e5,Int.fdiv_eq_ediv_of_nonneg _ (Int.natCast_nonneg _)];rfl
theorem xZh{n:Nat}(h:n≤1000):n<18446744073709551616:=by omega
def wayN(H A:Nat):List Int:=(List.range (H+1)).map fun r=>((rowN H A r:Nat):Int)
theorem wQk(x:Int):Z.seg (x::([]:List Int)) 0 1=[x]:=rfl
theorem vQd(x:Int):Z.Le (Z.addN 0 1) (Z.len (x::([]:List Int))):=Qf _
theorem wY2{l:List Int}(h:l.length≤200)(x:Int):¬Z.Big (Z.len l) (Z.len (Z.seg (x::([]:List Int)) 0 1)) 8:=by
 show¬(2^44<(l.length+1)*(8+1));omega
theorem yKe(f:Nat→Int)(i:Nat):(List.range i).map f++[f i]=(List.range (i+1)).map f:=by simp[List.range_succ]
theorem yZr(h a:Int):yJ7 (h,a)=some (if isL h a then(wayN h.toNat a.toNat,0)else([],2)):=by
 unfold yJ7;simp only;rw[zJl,Z.bind_some];cases hl:isL h a with
 |false=>simp only[Z.wW0,Bool.not_false,cond_true];rfl
 | true=>
  obtain⟨H,A,rfl,rfl,h1,hH,hA,hm⟩:=wZf hl;have w1:Z.wrap .i64 (Z.add (H:Int) 1)=((H+1:Nat):Int):=Z.zZy (by omega)
  rw[if_pos rfl,Z.wW0,Bool.not_true,cond_false,w1,Z.zZh];rw[if_pos (show Z.MkOk 0 ((H+1:Nat):Int) 8 from Z.zJ4.2 ⟨by omega,by omega,by omega,by omega⟩),if_pos (show Z.EqN (Z.toN 0) 0 from Z.vXg),if_pos (show Z.EqN 0 (Z.len ([]:List Int))from rfl)]
  refine zWc (fun(s:Int×List Int)=>∃i:Nat,s.1=(i:Int)∧i≤H+1∧s.2=(List.range i).map fun r=>((rowN H A r:Nat):Int)) (fun s=>H+1-s.1.toNat) ?_ ⟨0,rfl,by omega,rfl⟩ (xZh (by show H+1-(0:Int).toNat≤1000;omega))
  rintro⟨si,so⟩ k ⟨i,rfl,hi,rfl⟩ hk;by_cases hlt:i≤H
  ·have e1:Z.ile (i:Int) (H:Int)=true:=by simp[Z.ile,hlt]
   simp only[e1,cond_true];rw[zYb h1 hH hA hlt,Z.bind_some,if_pos (vQd _),if_neg (wY2 (by simp;omega) _),wQk]
   simp only[Z.zZh,Z.vWx,if_true];rw[Z.zZy (by omega),yKe (fun r=>((rowN H A r:Nat):Int))]
   exact hk (((i+1:Nat):Int),_) ⟨i+1,rfl,by omega,rfl⟩ (by show H+1-((i+1:Nat):Int).toNat<H+1-(i:Int).toNat;omega)
  ·have e1:Z.ile (i:Int) (H:Int)=false:=by simp[Z.ile];omega
   have ei:i=H+1:=by omega
   subst ei;simp only[e1,cond_false];simp[wayN]
theorem vZm(N i:Nat):N/2^i/2=N/2^(i+1):=by rw[Nat.div_div_eq_div_mul,Nat.pow_succ]
theorem yXf{H A:Nat}(h1:1≤H)(hH:H≤6)(hA:A<2^H):yQy ((H:Int),(A:Int))=some (wayN H A):=by
 have hp:=pow6 hH;unfold yQy;simp only;rw[zX0 (H:Int) (by omega) (by omega),Z.bind_some]
 have e1:((2:Int)^(H:Int).toNat)=((2^H:Nat):Int):=by simp
 have e2:Z.wrap .i64 (Z.add ((2^H:Nat):Int) (A:Int))=((2^H+A:Nat):Int):=by
  have:Z.add ((2^H:Nat):Int) (A:Int)=((2^H+A:Nat):Int):=by simp[Z.add]
  have hb:2^H+A<128:=by omega
  rw[this];clear hA e1 this hp;generalize 2^H+A=n at *;rw[Z.wrap_i64]<;>omega
 simp only[e1,Z.zZh,e2];rw[if_pos (show Z.EqN 0 (Z.len ([]:List Int))from rfl)]
 have hlow:∀i,i≤H→1≤(2^H+A)/2^i:=fun i hi=>by
  rw[Nat.le_div_iff_mul_le (Nat.pow_pos (by omega)),Nat.one_mul]
  have:2^i≤2^H:=Nat.pow_le_pow_right (by omega) hi
  omega
 have htop:(2^H+A)/2^(H+1)=0:=by
  apply Nat.div_eq_of_lt;rw[Nat.pow_succ];omega
 have hle:∀i,(2^H+A)/2^i≤127:=fun i=>by
  have:(2^H+A)/2^i≤2^H+A:=Nat.div_le_self _ _;omega
 refine zWc (fun(s:List Int×Int)=>∃i:Nat,i≤H+1∧s.1=((List.range i).map fun r=>(((2^H+A)/2^r:Nat):Int))∧s.2=(((2^H+A)/2^i:Nat):Int)) (fun s=>s.2.toNat) ?_ ⟨0,by omega,rfl,by simp⟩ ?_
 ·rintro⟨so,sb⟩ k ⟨i,hi,rfl,rfl⟩ hk
  by_cases hlt:i≤H
  ·have hge:=hlow i hlt
   have hl7:=hle i;have hd:=vZm (2^H+A) i;simp only;have e3:Z.ige (((2^H+A)/2^i:Nat):Int) 1=true:=by
    simp only[Z.ige,decide_eq_true_eq,ge_iff_le];omega
   have z2:¬Z.IsZ 2:=by show¬((2:Int)=0);omega
   have e4:Z.wrap .i64 (Z.tdiv (((2^H+A)/2^i:Nat):Int) 2)=(((2^H+A)/2^(i+1):Nat):Int):=by
    have:Z.tdiv (((2^H+A)/2^i:Nat):Int) 2=(((2^H+A)/2^i/2:Nat):Int):=Int.ofNat_tdiv _ 2;have h8:=hle (i+1);rw[this,hd];generalize (2^H+A)/2^(i+1)=q at *
    rw[Z.wrap_i64]<;>omega
   simp only[e3,cond_true];rw[if_pos (vQd _),if_neg (wY2 (by simp;omega) _),wQk]
   simp only[Z.zZh,Z.vWx,if_true];rw[if_neg z2,e4,yKe (fun r=>(((2^H+A)/2^r:Nat):Int))]
   refine hk (_,_) ⟨i+1,by omega,rfl,rfl⟩ ?_
   simp only[Int.toNat_natCast];rw[←hd];exact Nat.div_lt_self (by omega) (by omega)
  ·have ei:i=H+1:=by omega
   subst ei;have e3:Z.ige (((2^H+A)/2^(H+1):Nat):Int) 1=false:=by rw[htop];rfl
   simp only[e3,cond_false];have hlen:((List.range (H+1)).map fun r=>(((2^H+A)/2^r:Nat):Int)).length=H+1:=by simp
   have e5:Z.wrap .i64 (Z.sub (Z.ofN (Z.len ((List.range (H+1)).map fun r=>(((2^H+A)/2^r:Nat):Int)))) 1)=(H:Int):=by
    simp only[Z.len_eq,hlen,Z.vKd,Z.sub_eq];rw[Z.wrap_i64]<;>omega
   rw[e5];rw[if_pos (show Z.EqN 0 (Z.len ([]:List Int))from rfl)]
   refine zWc (fun(s:List Int×Int)=>∃j:Nat,j≤H+1∧s.1=((List.range j).map fun r=>((rowN H A r:Nat):Int))∧s.2=(H:Int)-j) (fun s=>(s.2+1).toNat) ?_ ⟨0,by omega,rfl,by simp⟩ (by simp;omega)
   rintro⟨so,sj⟩ k2 ⟨j,hj,rfl,rfl⟩ hk2;by_cases hlt2:j≤H
   ·have ej:(H:Int)-(j:Int)=((H-j:Nat):Int):=by omega
    have e6:Z.ige ((H:Int)-(j:Int)) 0=true:=by simp[Z.ige];omega
    simp only[e6,cond_true];rw[ej];have c1:Z.Ix ((H-j:Nat):Int) (Z.len ((List.range (H+1)).map fun r=>(((2^H+A)/2^r:Nat):Int))):=(Z.vKw _ _).2 (by simp;omega)
    have g1:Z.get ((List.range (H+1)).map fun r=>(((2^H+A)/2^r:Nat):Int)) (Z.toN ((H-j:Nat):Int)) 0=((rowN H A j:Nat):Int):=by
     rw[Z.wJs,Z.vKm _ _ (by simp;omega)]
     simp[rowN]
    rw[if_pos c1,g1];rw[if_pos (vQd _),if_neg (wY2 (by simp;omega) _),wQk]
    simp only[Z.vWx,if_true];have w2:Z.wrap .i64 (Z.sub ((H-j:Nat):Int) 1)=(H:Int)-((j+1:Nat):Int):=by
     rw[Z.wrap_i64]<;>simp only[Z.sub_eq]<;>omega
    rw[w2,yKe (fun r=>((rowN H A r:Nat):Int))]
    exact hk2 (_,_) ⟨j+1,by omega,rfl,rfl⟩ (by simp only;omega)
   ·have ej:j=H+1:=by omega
    subst ej;have e6:Z.ige ((H:Int)-((H+1:Nat):Int)) 0=false:=by simp[Z.ige];omega
    simp only[e6,cond_false];rfl
 ·have:=hle 0
  simp only[Nat.pow_zero,Nat.div_one]at this;simp only[Int.toNat_natCast];omega
end Go.Proofs.Ytoceaomlohgkkaa
