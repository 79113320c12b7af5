/- Devices: new ones, whether two are the same, how great they are. -/
import Derived.Test.YtghnechjgchajaaDevD
namespace Go.Proofs.Ytghnechjgchajaa
open Go.Eng
set_option linter.unusedVariables false
set_option linter.unusedSimpArgs false
theorem xZ5(a b:Byt):yW4 (a,b)=some (decide (Z.str a=Z.str b)):=by
 unfold yW4;refine zQd rfl (zQd rfl ?_);congr 1;by_cases h:Z.str a=Z.str b
 ·rw[decide_eq_true h];simp[Z.seq];exact h
 ·rw[decide_eq_false h];simp only[Z.seq];exact beq_eq_false_iff_ne.2 h
theorem vZ4{n:Int}(h:n=3∨n=7∨n=15∨n=31∨n=63∨n=127):zY8 (1,n)=some (0,n):=by
 rcases h with rfl|rfl|rfl|rfl|rfl|rfl<;>rfl
theorem vZr{x z:Int}{N m:Nat}(h1:1≤m)(h:m<N):zQi (List.replicate m x++List.replicate (N-m) z) m (List.replicate (min m (N-m)) x)=List.replicate (m+min m (N-m)) x++List.replicate (N-(m+min m (N-m))) z:=by
 unfold zQi;have l1:(List.replicate m x).length=m:=by simp
 rw[Jx (by omega),Qm (by omega),List.drop_append,List.drop_eq_nil_of_le (by rw[l1,List.length_replicate];omega),l1,Ki,List.length_replicate,List.drop_replicate,Kw]
 congr 2;omega
theorem vX1(x n:Int)(h:n=3∨n=7∨n=15∨n=31∨n=63∨n=127):zXj ([x],n)=some (List.replicate n.toNat x):=by
 unfold zXj;dsimp only;obtain⟨N,rfl,hN3,hN⟩:∃N:Nat,n=(N:Int)∧3≤N∧N≤127:=⟨n.toNat,by omega,by omega,by omega⟩
 refine zQo (decide_eq_false (by omega)) ?_
 refine zQd (y:=1) rfl ?_;refine zQd (y:=(N:Int)) (wrapU (by omega)) ?_
 refine zQs (vZ4 h) ?_;refine zQo rfl ?_;refine zQo (by simp[Z.zQh,Z.igt];omega) ?_
 refine zQd (y:=(N:Int)) (yJ5 (by omega)) ?_
 refine zQa (Z.zKt.2 ⟨by omega,Int.le_refl _,by omega,by omega⟩) ?_
 refine zQa (by show 0+N≤(List.replicate N (0:Int)).length;simp) ?_
 refine zWd (fun(s:Int×List Int)=>∃m:Nat,1≤m∧m≤N∧s=((m:Int),List.replicate m x++List.replicate (N-m) 0)) (fun s=>N-s.1.toNat) ?_ ⟨1,by omega,by omega, ?_⟩ (zJy _ _ (by omega))
 ·rintro s k ⟨m,hm1,hm,rfl⟩ hk
  dsimp only;have bl:(List.replicate m x++List.replicate (N-m) (0:Int)).length=N:=by simp;omega
  have sg:Z.seg (List.replicate m x++List.replicate (N-m) (0:Int)) (Z.addN 0 0) (Z.subN (Z.toN (m:Int)) 0)=List.replicate m x:=by
   show(List.drop (0+0) _).take (m-0)=_;rw[Jt,Jw,Jx (by simp),Qm (by simp)]
  by_cases hlt:m<N
  ·refine zQt (decide_eq_true (by simp only[Z.ofN,Z.toN];omega)) ?_
   have hbd:Z.Bd (m:Int) (Z.toN (N:Int)):=⟨by omega,by show(m:Int)≤((N:Int).toNat:Int);omega⟩
   refine zQa hbd ?_;refine iteP (by show m<N;omega) ?_
   refine zQa hbd ?_;refine iteP (by show 0<N;omega) ?_
   refine zQa (by show 0+0+(m-0)≤_;rw[Z.len,bl];omega) ?_
   refine zQa (by show 0+m+(N-m)≤_;rw[Z.len,bl];omega) ?_
   rw[sg];have hmn:Z.minN (Z.len (List.replicate m x)) (Z.subN (Z.toN (N:Int)) (Z.toN (m:Int)))=min m (N-m):=by
    show min (List.replicate m x).length (N-m)=_;simp
   rw[hmn];refine zQd (y:=((m+min m (N-m):Nat):Int)) ((yJ5 (by simp only[Z.add,Z.ofN];omega)).trans (by simp only[Z.add,Z.ofN];omega)) ?_
   have hput:Z.put (List.replicate m x++List.replicate (N-m) (0:Int)) (Z.addN 0 (Z.toN (m:Int))) (Z.take (min m (N-m)) (List.replicate m x))=List.replicate (m+min m (N-m)) x++List.replicate (N-(m+min m (N-m))) 0:=by
    show zQi _ (0+m) (List.take (min m (N-m)) (List.replicate m x))=_;rw[Jt,List.take_replicate,Nat.min_eq_left (by omega:min m (N-m)≤m)]
    exact vZr hm1 hlt
   rw[hput];exact hk _ ⟨m+min m (N-m),by omega,by omega,rfl⟩ (by show N-(((m+min m (N-m):Nat):Int)).toNat<N-((m:Int)).toNat;omega)
  ·refine zQo (decide_eq_false (by simp only[Z.ofN,Z.toN];omega)) ?_
   have hm2:m=N:=by omega
   subst hm2;rw[Nat.sub_self,List.replicate_zero,Je]at *;refine zQa (by show 0+m≤(List.replicate m x).length;simp) ?_
   have e:((List.replicate m x).drop 0).take m=List.replicate m x:=by rw[Jw,Qm (by simp)]
   exact congrArg some e
 ·have e1:Z.minN (Z.len [x]) (Z.toN (N:Int))=1:=by show min 1 N=1;omega
  rw[e1];show((1:Int),zQi (List.replicate N 0) 0 [x])=_;have:zQi (List.replicate N (0:Int)) 0 [x]=List.replicate 1 x++List.replicate (N-1) 0:=by
   unfold zQi;show []++[x]++(List.replicate N 0).drop 1=_;rw[List.drop_replicate];rfl
  rw[this];rfl
theorem vZw(L:Lev)(w:Byt)(hw:w=L.flatten)(sz:List Int)(hs:sz=zKx L)(hl:L.length≤1000)(hf:L.flatten.length≤1000000):yKe (w,sz)=some L:=by
 unfold yKe;dsimp only;have hszl:sz.length=L.length:=by rw[hs];simp[zKx]
 refine zQa (Z.zKt.2 ⟨by simp only[Z.ofN,Z.len];omega,Int.le_refl _,by simp only[Z.ofN,Z.len];omega,by simp only[Z.ofN,Z.len];omega⟩) ?_
 refine zWd (fun(s:Int×(Int×List Byt))=>∃q:Nat,q≤L.length∧s=((offD L q:Int),((q:Int),L.take q++List.replicate (L.length-q) []))) (fun s=>L.length-s.2.1.toNat) ?_ ⟨0,Jm _, ?_⟩ (zJy _ _ (by omega))
 ·rintro s k ⟨q,hq,rfl⟩ hk
  dsimp only;by_cases h:q<L.length
  ·have hq':q<sz.length:=by omega
   refine zQt (decide_eq_true (by simp only[Z.ofN,Z.len];omega)) ?_
   refine zQa (ixND hq') (zQd (zKb sz hq' _) ?_);have hse:sz[q]=(L[q].length:Int):=by subst hs;simp[zKx]
   rw[hse];have o1:=zJn L h;have o2:=yK2 L (q+1);have hwl:w.length=L.flatten.length:=by rw[hw]
   have hwr:Z.wrap .i64 (Z.add (offD L q:Int) (L[q].length:Int))=((offD L (q+1):Nat):Int):=(yJ5 (by simp only[Z.add];omega)).trans (by simp only[Z.add];omega)
   refine zQd hwr (zQd hwr ?_);refine zQa ⟨by omega,by simp only[Z.len];omega⟩ ?_
   refine zQa (by show Z.Bd ((offD L (q+1):Nat):Int) (offD L (q+1));exact⟨by omega,by omega⟩) ?_
   refine zQa (by show Z.Bd ((offD L q:Nat):Int) (offD L (q+1));exact⟨by omega,by omega⟩) ?_
   refine zQd (y:=L[q]) ?_ ?_
   ·show(w.take (offD L (q+1))).drop (offD L q)=_
    have hp:=xQ8 L h;rw[List.drop_take,hw,o1,Jn];exact hp
   refine zQa ⟨by omega,by show(q:Int)<((sz.length:Int).toNat:Int);omega⟩ ?_
   refine zQa (by show 0+q<_;simp;omega) ?_
   refine zQd (y:=L.take (q+1)++List.replicate (L.length-(q+1)) []) ?_ ?_
   ·show List.set _ (0+q) L[q]=_
    rw[Jt];exact xZ2 L h []
   refine zQd hwr (zQd (zX6 (by omega)) ?_)
   exact hk _ ⟨q+1,h,rfl⟩ (by show L.length-((q+1:Nat):Int).toNat<L.length-((q:Int)).toNat;omega)
  ·refine zQo (decide_eq_false (by simp only[Z.ofN,Z.len];omega)) ?_
   have hq2:q=L.length:=by omega
   subst hq2;rw[Ja,Nat.sub_self,List.replicate_zero,Je];refine zQa (by show 0+((sz.length:Int).toNat)≤L.length;omega) ?_
   congr 1;show(L.drop 0).take ((sz.length:Int).toNat)=L;rw[Jw,Qm (by omega)]
 ·show((0:Int),((0:Int),List.replicate ((sz.length:Int).toNat) []))=_
  have:((sz.length:Int).toNat)=L.length:=by omega
  rw[this];rfl
noncomputable def nwS(c:CfgT):List Lev:=(shS c).map fun s=>List.replicate s.1.toNat (List.replicate s.2.1.toNat 0)
theorem xQr(c:CfgT):(nwS c).length=(shS c).length:=by simp[nwS]
theorem sh_six{c:CfgT}(N:Nums c):∀s∈shS c,s.1=3∨s.1=7∨s.1=15∨s.1=31∨s.1=63∨s.1=127:=by
 intro s hs;obtain⟨l,hl,rfl⟩:=Jb.1 hs;obtain⟨h1,_⟩:=vX0 N l hl;show 2*2^l.2.2.1.toNat-1=3∨2*2^l.2.2.1.toNat-1=7∨2*2^l.2.2.1.toNat-1=15∨2*2^l.2.2.1.toNat-1=31∨2*2^l.2.2.1.toNat-1=63∨(2:Int)*2^l.2.2.1.toNat-1=127
 rcases yZ2 h1 with h|h|h|h|h|h<;>rw[h]<;>decide
theorem vQt{c:CfgT}(h:mayB c=true):zK0 c (nwS c):=by
 obtain⟨N,_⟩:=yQ4 h;refine⟨h,xQr c,fun i hi hi'=>?_⟩
 obtain⟨a1,a2,a3,a4⟩:=uWm N _ (Qt hi');have e:(nwS c)[i]=List.replicate (shS c)[i].1.toNat (List.replicate (shS c)[i].2.1.toNat 0):=by simp[nwS]
 rw[e];refine⟨by rw[List.length_replicate];omega,fun b hb=>?_⟩
 rw[List.eq_of_mem_replicate hb,List.length_replicate];omega
noncomputable def newD(c:CfgT):(List Lev×Unit)×Int:=if mayB c=true then((nwS c,()),0)else(([],()),8)
theorem wZz(n m:Nat)(x:Int):(List.replicate n (List.replicate m x)).flatten=List.replicate (n*m) x:=by
 simp
theorem xZc(c:CfgT):xWd c=some (newD c):=by
 unfold xWd newD;refine zQs (yWo c) ?_;cases hm:mayB c with
 |false=>exact zQt rfl rfl
 | true=>
  obtain⟨N,_⟩:=yQ4 hm;have hal:=yKm c;have hsl:=yY7 c;simp only[if_true];refine zQo rfl ?_;refine zQa rfl ?_;refine zWd (fun(s:Int×List Lev)=>∃i:Nat,i≤(shS c).length∧s=((i:Int),(nwS c).take i)) (fun s=>(shS c).length-s.1.toNat) ?_ ⟨0,Jm _,rfl⟩ (zJy _ _ (by omega))
  rintro s k ⟨i,hi,rfl⟩ hk;dsimp only;by_cases h:i<(shS c).length
  ·refine zQt (decide_eq_true (by simp only[Z.ofN,Z.len];omega)) ?_
   refine zQa (ixND h) (zQd (zKb (shS c) h _) ?_);have h6:=sh_six N _ (Qt h);obtain⟨a1,a2,a3,a4⟩:=uWm N _ (Qt h);have e:(nwS c)[i]'(by rw[xQr];exact h)=List.replicate (shS c)[i].1.toNat (List.replicate (shS c)[i].2.1.toNat 0):=by simp[nwS]
   generalize (shS c)[i]=sh at *;obtain⟨b,z,⟨⟩⟩:=sh;dsimp only at h6 a1 a2 a3 a4 e⊢;refine zQa (Qf _) ?_;refine zQs (vX1 z b h6) ?_;obtain⟨B,rfl⟩:∃B:Nat,b=(B:Int):=⟨b.toNat,by omega⟩
   obtain⟨zn,rfl⟩:∃zn:Nat,z=(zn:Int):=⟨z.toNat,by omega⟩
   have hBzn:B*zn≤127*232:=Nat.mul_le_mul (by omega) (by omega)
   refine zQd (y:=((B*zn:Nat):Int)) ?_ ?_
   ·have e2:Z.mul (B:Int) (zn:Int)=((B*zn:Nat):Int):=by simp[Z.mul]
    rw[e2,yJ5 (by omega)]
   refine zQa (Z.zKt.2 ⟨by omega,Int.le_refl _,by omega,by omega⟩) ?_
   refine zQa (by show 0+(B*zn)≤(List.replicate (B*zn) (0:Int)).length;simp) ?_
   refine zQs (vZw (List.replicate B (List.replicate zn 0)) _ ?_ _ ?_ (by rw[List.length_replicate];omega) (by rw[wZz,List.length_replicate];omega)) ?_
   ·rw[wZz]
    show((List.replicate (B*zn) (0:Int)).drop 0).take (B*zn)=_;rw[Jw,Qm (by simp)]
   ·show List.replicate B (zn:Int)=_
    simp[zKx]
   refine zQa (Qf _) ?_;refine zKa (bigD (by show((nwS c).take i).length≤2000000;rw[J7,xQr];omega) (by show 1≤2000000;omega) (by omega)) ?_
   refine zQd (y:=(nwS c).take (i+1)) ?_ ?_
   ·show(nwS c).take i++[List.replicate B (List.replicate zn 0)]=_
    rw[Q6 (by rw[xQr];exact h),e];rfl
   refine zQd (zX6 (by omega)) ?_
   exact hk _ ⟨i+1,h,rfl⟩ (by show(shS c).length-((i+1:Nat):Int).toNat<(shS c).length-((i:Int)).toNat;omega)
  ·refine zQo (decide_eq_false (by simp only[Z.ofN,Z.len];omega)) ?_
   rw[Qm (by rw[xQr];omega)]
end Go.Proofs.Ytghnechjgchajaa
