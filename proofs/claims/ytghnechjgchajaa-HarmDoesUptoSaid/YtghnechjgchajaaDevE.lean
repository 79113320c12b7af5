/- Devices: new ones, whether two are the same, how great they are. -/
import Derived.Test.YtghnechjgchajaaDevD
namespace Go.Proofs.Ytghnechjgchajaa
open Go.Eng
set_option linter.unusedVariables false
set_option linter.unusedSimpArgs false
theorem wWt{α β:Type} [DecidableEq β] {f:α×α→Option Bool}{g:α→β}(a b:List α)(hf:∀x∈a,∀y,f (x,y)=some (decide (g x=g y)))(z:α)(hl:a.length≤1000000000):
    (bif (Z.ine (Z.ofN (Z.len a)) (Z.ofN (Z.len b)))then some false
 else Z.loop (fun(s1:Int) k2=>
 (bif (Z.ilt s1 (Z.ofN (Z.len a)))then if(Z.Ix s1 (Z.len a))then Z.bnd (Z.get a (Z.toN s1) z) fun(x5:α)=>
 if(Z.Ix s1 (Z.len b))then Z.bnd (Z.get b (Z.toN s1) z) fun(x8:α)=>
 Z.bind (f (x5,x8)) fun(x9:Bool)=>
 (bif (Z.bnot x9)then some false
 else Z.bnd (Z.wrap .i64 (Z.add s1 1)) fun(x10:Int)=>
 k2 x10)
 else none
 else none
 else some true)) 0)=some (decide (a.map g=b.map g)):=by
  by_cases hlen:a.length=b.length
  · refine zQd (by simp[Z.ine,Z.ofN,Z.len,hlen]) ?_
    refine zQn (fun(s:Int)=>∃i:Nat,s=(i:Int)∧i≤a.length∧∀(j:Nat) (h:j<a.length) (h':j<b.length),j<i→g a[j]=g b[j]) (fun s=>a.length-s.toNat) ?_ ⟨0,rfl,Qw _,fun _ _ _ h=>absurd h (Nat.not_lt_zero _)⟩ (zXd _ _ (by omega))
    rintro s k ⟨i,rfl,hi,hq⟩ hk;by_cases h:i<a.length
    · have h':i<b.length:=by omega
      refine zQe (decide_eq_true (by simp only[Z.ofN,Z.len];omega)) ?_
      refine zQa (ixND h) (zQb (zWg a h _) ?_);refine zQa (ixND h') (zQb (zWg b h' _) ?_);refine zQm (hf _ (Qh h) _) ?_;by_cases he:g a[i]=g b[i]
      · rw[decide_eq_true he]
        refine zQd rfl (zQb (zQ1 (by omega)) ?_)
        refine hk _ ⟨i+1,rfl,h,fun j hj hj' hji=>?_⟩ (by show a.length-((i+1:Nat):Int).toNat<a.length-((i:Int)).toNat;omega)
        by_cases e:j=i
        ·subst e;exact he
        ·exact hq j hj hj' (by omega)
      · rw[decide_eq_false he]
        refine zQe rfl ?_;rw[decide_eq_false fun hh=>he ?_]
        have e:(a.map g)[i]?=(b.map g)[i]?:=by rw[hh]
        simpa[h,h']using e
    · refine zQd (decide_eq_false (by simp only[Z.ofN,Z.len];omega)) ?_
      rw[decide_eq_true];apply List.ext_getElem (by simp[hlen])
      intro j h1 h2;simp at h1 h2;simp only[List.getElem_map];exact hq j h1 h2 (by omega)
  · refine zQe (by simp only[Z.ine,Z.ofN,Z.len,bne_iff_ne,ne_eq];omega) ?_
    rw[decide_eq_false fun h=>hlen (by simpa using congrArg List.length h)]
theorem yKz(a b:Byt):yQf (a,b)=some (decide (Z.str a=Z.str b)):=by
 unfold yQf;refine zQb rfl (zQb rfl ?_);congr 1;by_cases h:Z.str a=Z.str b
 ·rw[decide_eq_true h];simp[Z.seq];exact h
 ·rw[decide_eq_false h];simp only[Z.seq];exact beq_eq_false_iff_ne.2 h
def bytL(L:Lev):List (List UInt8):=L.map Z.str
def bytD(d:List Lev):List (List (List UInt8)):=d.map bytL
theorem zJc(a b:Lev)(hl:a.length≤1000000000):zZ6 (a,b)=some (decide (bytL a=bytL b)):=by
 unfold zZ6;exact wWt a b (fun x _ y=>yKz x y) [] hl
theorem yQ2(a b:List Lev)(hl:a.length≤1000000000)(hL:∀L∈a,L.length≤1000000000):zJs ((a,()),(b,()))=some (decide (bytD a=bytD b)):=by
 unfold zJs;exact wWt a b (fun x hx y=>zJc x y (hL x hx)) [] hl
def grtL(L:Lev)(k:Nat):Nat:=((L.take k).map fun b=>min b.length 100000).sum
def grtD(d:List Lev)(k:Nat):Nat:=((d.take k).map fun L=>grtL L 200).sum
def yZ0(d:List Lev):Bool:=decide (∃L∈d.take 10,150<L.length)||(decide (6<d.length)||decide (40000<grtD d 10))
theorem wXu(L:Lev){k:Nat}(h:k<L.length):grtL L (k+1)=grtL L k+min L[k].length 100000:=by
 unfold grtL;rw[Qr h,Qx,List.sum_append];simp
theorem wK6(L:Lev):∀k,grtL L k≤100000*k
 |0=>by simp[grtL]
 | k+1=>by
  have ih:=wK6 L k;by_cases h:k<L.length
  ·rw[wXu L h];omega
  ·have e:grtL L (k+1)=grtL L k:=by unfold grtL;rw[Qf (by omega),Qf (by omega)]
   omega
theorem xZb(d:List Lev){k:Nat}(h:k<d.length):grtD d (k+1)=grtD d k+grtL d[k] 200:=by
 unfold grtD;rw[Qr h,Qx,List.sum_append];simp
theorem vK4(d:List Lev):∀k,grtD d k≤20000000*k
 |0=>by simp[grtD]
 | k+1=>by
  have ih:=vK4 d k;by_cases h:k<d.length
  ·rw[xZb d h];have:=wK6 d[k] 200;omega
  ·have e:grtD d (k+1)=grtD d k:=by unfold grtD;rw[Qf (by omega),Qf (by omega)]
   omega
theorem uK4(b:Byt):Z.imax false (Z.ofN (Z.len b)) 100000=((min b.length 100000:Nat):Int):=by
 simp only[Z.imax,Z.ofN,Z.len,Jm,if_false];split<;>omega
theorem xKd (d:List Lev):yQ3 (d,())=some (yZ0 d):=by
  unfold yQ3;dsimp only;have fin:∀(n:Nat),(¬∃L∈d.take 10,150<L.length)→n=grtD d 10→(bif (Z.igt (Z.ofN (Z.len d)) 6)then some true else some (Z.zQi false true (Z.igt (n:Int) 40000)))=some (yZ0 d):=fun n hno hn=>by
    unfold yZ0;rw[decide_eq_false hno,Bool.false_or];by_cases h6:6<d.length
    · refine zQe (decide_eq_true (by simp only[Z.ofN,Z.len];omega)) ?_
      rw[decide_eq_true h6];rfl
    · refine zQd (decide_eq_false (by simp only[Z.ofN,Z.len];omega)) ?_
      rw[decide_eq_false h6,Bool.false_or,←hn];congr 1;show(if false=true then true else Z.igt (n:Int) 40000)=_
      rw[if_neg (by decide)]
      by_cases hh:40000<n
      ·rw[decide_eq_true hh];exact decide_eq_true (by omega)
      ·rw[decide_eq_false hh];exact decide_eq_false (by omega)
  refine zQn (fun(s:Int×Int)=>∃i:Nat,s=((grtD d i:Int),(i:Int))∧i≤10∧i≤d.length∧¬∃L∈d.take i,150<L.length) (fun s=>10-s.2.toNat) ?_ ⟨0,rfl,by omega,by omega,by simp⟩ (zXd _ _ (by omega))
  rintro s k ⟨i,rfl,hi,hil,hno⟩ hk;dsimp only;by_cases h:i<d.length
  · refine zQe (decide_eq_true (by simp only[Z.ofN,Z.len];omega)) ?_
    by_cases h10:i<10
    · refine zQe (by simp[Z.zQi,Z.ilt];omega) ?_
      have hb:=vK4 d i;have next:∀(n:Nat),n=grtD d (i+1)→(if(Z.Ix (i:Int) (Z.len d))then Z.bnd (Z.get d (Z.toN (i:Int)) ([]:List (List (Int)))) fun(x18:List (List (Int)))=>
 (bif (Z.igt (Z.ofN (Z.len x18)) 150)then some true
 else Z.bnd (Z.wrap .i64 (Z.add (i:Int) 1)) fun(x19:Int)=>
 k ((n:Int),x19))
 else none)=some (yZ0 d):=fun n hn=>by
        subst hn;refine zQa (ixND h) (zQb (zWg d h _) ?_);by_cases hg:150<d[i].length
        · refine zQe (decide_eq_true (by simp only[Z.ofN,Z.len];omega)) ?_
          unfold yZ0;rw[decide_eq_true ⟨d[i],List.mem_take_iff_getElem.2 ⟨i,by omega,rfl⟩,hg⟩]
          rfl
        · refine zQd (decide_eq_false (by simp only[Z.ofN,Z.len];omega)) ?_
          refine zQb (zQ1 (by omega)) ?_
          refine hk _ ⟨i+1,rfl,h10,h, ?_⟩ (by show 10-((i+1:Nat):Int).toNat<10-((i:Int)).toNat;omega)
          rintro⟨L,hL,hgL⟩;rw[Qr h]at hL;rcases Q0.1 hL with hL|hL
          ·exact hno ⟨L,hL,hgL⟩
          ·rw[List.mem_singleton]at hL;subst hL;exact hg hgL
      refine zQn (fun(s:Int×Int)=>∃q:Nat,s=(((grtD d i+grtL d[i] q:Nat):Int),(q:Int))∧q≤200∧q≤d[i].length) (fun s=>200-s.2.toNat) ?_ ⟨0,by simp[grtL],by omega,by omega⟩ (zXd _ _ (by omega))
      rintro s k2 ⟨q,rfl,hq,hql⟩ hk2;dsimp only;have hbl:=wK6 d[i] q;refine zQa (ixND h) (zQb (zWg d h _) ?_);by_cases hlt:q<d[i].length
      · refine zQe (decide_eq_true (by simp only[Z.ofN,Z.len];omega)) ?_
        by_cases h200:q<200
        · refine zQe (by simp[Z.zQi,Z.ilt];omega) ?_
          refine zQa (ixND h) (zQb (zWg d h _) ?_);refine zQa (ixND hlt) (zQb (zWg d[i] hlt _) ?_);rw[uK4];have hmn:min d[i][q].length 100000≤100000:=Nat.min_le_right _ _
          refine zQb (y:=((grtD d i+grtL d[i] (q+1):Nat):Int)) ?_ ?_
          · rw[wXu _ hlt]
            exact(zY1 (by simp only[Z.add];omega)).trans (by simp only[Z.add];omega)
          refine zQb (zQ1 (by omega)) ?_
          exact hk2 _ ⟨q+1,rfl,h200,hlt⟩ (by show 200-((q+1:Nat):Int).toNat<200-((q:Int)).toNat;omega)
        · refine zQd (by simp[Z.zQi,Z.ilt];omega) ?_
          have hq2:q=200:=by omega
          subst hq2;exact next _ (xZb d h).symm
      · refine zQd (decide_eq_false (by simp only[Z.ofN,Z.len];omega)) ?_
        have e:grtL d[i] q=grtL d[i] 200:=by unfold grtL;rw[Qf (by omega),Qf (by omega)]
        rw[e];exact next _ (xZb d h).symm
    · refine zQd (by simp[Z.zQi,Z.ilt];omega) ?_
      have hi2:i=10:=by omega
      subst hi2;exact fin _ hno rfl
  · refine zQd (decide_eq_false (by simp only[Z.ofN,Z.len];omega)) ?_
    have e:d.take i=d.take 10:=by rw[Qf (by omega),Qf (by omega)]
    rw[e]at hno;exact fin _ hno (by unfold grtD;rw[e])
theorem xK1{l:List Nat}{x:Nat}(h:x∈l):x≤l.sum:=by
 induction l with
 |nil=>simp at h
 |cons y l ih=>
  rw[List.sum_cons];rcases Jh.1 h with rfl|h
  ·omega
  ·have:=ih h;omega
theorem vQe{d:List Lev}(h:yZ0 d=false):d.length≤6∧∀L∈d,L.length≤150∧L.flatten.length≤40000:=by
 unfold yZ0 at h;rw[Bool.or_eq_false_iff,Bool.or_eq_false_iff]at h;have h1:=of_decide_eq_false h.1;have h2:=of_decide_eq_false h.2.1;have h3:=of_decide_eq_false h.2.2
 have e10:d.take 10=d:=Qf (by omega)
 rw[e10]at h1;refine⟨by omega,fun L hL=>?_⟩
 have hl:L.length≤150:=by
  by_cases h:150<L.length
  ·exact absurd ⟨L,hL,h⟩ h1
  ·omega
 refine⟨hl, ?_⟩;have hg:grtL L 200≤40000:=by
  have:grtL L 200≤grtD d 10:=by
   unfold grtD;rw[e10];exact xK1 (Ja.2 ⟨L,hL,rfl⟩)
  omega
 unfold grtL at hg;rw[Qf (by omega)]at hg
 rw[List.length_flatten];have:L.map List.length=L.map fun b=>min b.length 100000:=by
  apply Jd;intro b hb;have:=xK1 (Ja.2 ⟨b,hb,rfl⟩:min b.length 100000∈L.map fun b=>min b.length 100000)
  omega
 rw[this];exact hg
theorem uJk{d:List Lev}(h:yZ0 d=false):DevB d:=by
 obtain⟨h1,h2⟩:=vQe h;exact⟨by omega,fun L hL=>by have:=h2 L hL;omega,fun L hL=>by have:=h2 L hL;omega⟩
theorem uQl{n:Int}(h:n=3∨n=7∨n=15∨n=31∨n=63∨n=127):yWb (1,n)=some (0,n):=by
 rcases h with rfl|rfl|rfl|rfl|rfl|rfl<;>rfl
theorem vY8{x z:Int}{N m:Nat}(h1:1≤m)(h:m<N):zQo (List.replicate m x++List.replicate (N-m) z) m (List.replicate (min m (N-m)) x)=List.replicate (m+min m (N-m)) x++List.replicate (N-(m+min m (N-m))) z:=by
 unfold zQo;have l1:(List.replicate m x).length=m:=by simp
 rw[J3 (by omega),Qf (by omega),List.drop_append,List.drop_eq_nil_of_le (by rw[l1,List.length_replicate];omega),l1,Ki,List.length_replicate,List.drop_replicate,Ky]
 congr 2;omega
theorem vYg(x n:Int)(h:n=3∨n=7∨n=15∨n=31∨n=63∨n=127):zXk ([x],n)=some (List.replicate n.toNat x):=by
 unfold zXk;dsimp only;obtain⟨N,rfl,hN3,hN⟩:∃N:Nat,n=(N:Int)∧3≤N∧N≤127:=⟨n.toNat,by omega,by omega,by omega⟩
 refine zQd (decide_eq_false (by omega)) ?_
 refine zQb (y:=1) rfl ?_;refine zQb (y:=(N:Int)) (wrapU (by omega)) ?_
 refine zQm (uQl h) ?_;refine zQd rfl ?_;refine zQd (by simp[Z.zQi,Z.igt];omega) ?_
 refine zQb (y:=(N:Int)) (zY1 (by omega)) ?_
 refine zQa (Z.zKh.2 ⟨by omega,Int.le_refl _,by omega,by omega⟩) ?_
 refine zQa (by show 0+N≤(List.replicate N (0:Int)).length;simp) ?_
 refine zQn (fun(s:Int×List Int)=>∃m:Nat,1≤m∧m≤N∧s=((m:Int),List.replicate m x++List.replicate (N-m) 0)) (fun s=>N-s.1.toNat) ?_ ⟨1,by omega,by omega, ?_⟩ (zXd _ _ (by omega))
 ·rintro s k ⟨m,hm1,hm,rfl⟩ hk
  dsimp only;have bl:(List.replicate m x++List.replicate (N-m) (0:Int)).length=N:=by simp;omega
  have sg:Z.seg (List.replicate m x++List.replicate (N-m) (0:Int)) (Z.addN 0 0) (Z.subN (Z.toN (m:Int)) 0)=List.replicate m x:=by
   show(List.drop (0+0) _).take (m-0)=_;rw[Jc,Jb,J3 (by simp),Qf (by simp)]
  by_cases hlt:m<N
  ·refine zQe (decide_eq_true (by simp only[Z.ofN,Z.toN];omega)) ?_
   have hbd:Z.Bd (m:Int) (Z.toN (N:Int)):=⟨by omega,by show(m:Int)≤((N:Int).toNat:Int);omega⟩
   refine zQa hbd ?_;refine iteP (by show m<N;omega) ?_
   refine zQa hbd ?_;refine iteP (by show 0<N;omega) ?_
   refine zQa (by show 0+0+(m-0)≤_;rw[Z.len,bl];omega) ?_
   refine zQa (by show 0+m+(N-m)≤_;rw[Z.len,bl];omega) ?_
   rw[sg];have hmn:Z.minN (Z.len (List.replicate m x)) (Z.subN (Z.toN (N:Int)) (Z.toN (m:Int)))=min m (N-m):=by
    show min (List.replicate m x).length (N-m)=_;simp
   rw[hmn];refine zQb (y:=((m+min m (N-m):Nat):Int)) ((zY1 (by simp only[Z.add,Z.ofN];omega)).trans (by simp only[Z.add,Z.ofN];omega)) ?_
   have hput:Z.put (List.replicate m x++List.replicate (N-m) (0:Int)) (Z.addN 0 (Z.toN (m:Int))) (Z.take (min m (N-m)) (List.replicate m x))=List.replicate (m+min m (N-m)) x++List.replicate (N-(m+min m (N-m))) 0:=by
    show zQo _ (0+m) (List.take (min m (N-m)) (List.replicate m x))=_;rw[Jc,List.take_replicate,Nat.min_eq_left (by omega:min m (N-m)≤m)]
    exact vY8 hm1 hlt
   rw[hput];exact hk _ ⟨m+min m (N-m),by omega,by omega,rfl⟩ (by show N-(((m+min m (N-m):Nat):Int)).toNat<N-((m:Int)).toNat;omega)
  ·refine zQd (decide_eq_false (by simp only[Z.ofN,Z.toN];omega)) ?_
   have hm2:m=N:=by omega
   subst hm2;rw[Nat.sub_self,List.replicate_zero,Jl]at *;refine zQa (by show 0+m≤(List.replicate m x).length;simp) ?_
   have e:((List.replicate m x).drop 0).take m=List.replicate m x:=by rw[Jb,Qf (by simp)]
   exact congrArg some e
 ·have e1:Z.minN (Z.len [x]) (Z.toN (N:Int))=1:=by show min 1 N=1;omega
  rw[e1];show((1:Int),zQo (List.replicate N 0) 0 [x])=_;have:zQo (List.replicate N (0:Int)) 0 [x]=List.replicate 1 x++List.replicate (N-1) 0:=by
   unfold zQo;show []++[x]++(List.replicate N 0).drop 1=_;rw[List.drop_replicate];rfl
  rw[this];rfl
theorem uQd(L:Lev)(w:Byt)(hw:w=L.flatten)(sz:List Int)(hs:sz=zK6 L)(hl:L.length≤1000)(hf:L.flatten.length≤1000000):yJt (w,sz)=some L:=by
 unfold yJt;dsimp only;have hszl:sz.length=L.length:=by rw[hs];simp[zK6]
 refine zQa (Z.zKh.2 ⟨by simp only[Z.ofN,Z.len];omega,Int.le_refl _,by simp only[Z.ofN,Z.len];omega,by simp only[Z.ofN,Z.len];omega⟩) ?_
 refine zQn (fun(s:Int×(Int×List Byt))=>∃q:Nat,q≤L.length∧s=((offD L q:Int),((q:Int),L.take q++List.replicate (L.length-q) []))) (fun s=>L.length-s.2.1.toNat) ?_ ⟨0,Qw _, ?_⟩ (zXd _ _ (by omega))
 ·rintro s k ⟨q,hq,rfl⟩ hk
  dsimp only;by_cases h:q<L.length
  ·have hq':q<sz.length:=by omega
   refine zQe (decide_eq_true (by simp only[Z.ofN,Z.len];omega)) ?_
   refine zQa (ixND hq') (zQb (zWg sz hq' _) ?_);have hse:sz[q]=(L[q].length:Int):=by subst hs;simp[zK6]
   rw[hse];have o1:=zJ3 L h;have o2:=yYi L (q+1);have hwl:w.length=L.flatten.length:=by rw[hw]
   have hwr:Z.wrap .i64 (Z.add (offD L q:Int) (L[q].length:Int))=((offD L (q+1):Nat):Int):=(zY1 (by simp only[Z.add];omega)).trans (by simp only[Z.add];omega)
   refine zQb hwr (zQb hwr ?_);refine zQa ⟨by omega,by simp only[Z.len];omega⟩ ?_
   refine zQa (by show Z.Bd ((offD L (q+1):Nat):Int) (offD L (q+1));exact⟨by omega,by omega⟩) ?_
   refine zQa (by show Z.Bd ((offD L q:Nat):Int) (offD L (q+1));exact⟨by omega,by omega⟩) ?_
   refine zQb (y:=L[q]) ?_ ?_
   ·show(w.take (offD L (q+1))).drop (offD L q)=_
    have hp:=xZf L h;rw[List.drop_take,hw,o1,Je];exact hp
   refine zQa ⟨by omega,by show(q:Int)<((sz.length:Int).toNat:Int);omega⟩ ?_
   refine zQa (by show 0+q<_;simp;omega) ?_
   refine zQb (y:=L.take (q+1)++List.replicate (L.length-(q+1)) []) ?_ ?_
   ·show List.set _ (0+q) L[q]=_
    rw[Jc];exact wYh L h []
   refine zQb hwr (zQb (zQ1 (by omega)) ?_)
   exact hk _ ⟨q+1,h,rfl⟩ (by show L.length-((q+1:Nat):Int).toNat<L.length-((q:Int)).toNat;omega)
  ·refine zQd (decide_eq_false (by simp only[Z.ofN,Z.len];omega)) ?_
   have hq2:q=L.length:=by omega
   subst hq2;rw[Q2,Nat.sub_self,List.replicate_zero,Jl];refine zQa (by show 0+((sz.length:Int).toNat)≤L.length;omega) ?_
   congr 1;show(L.drop 0).take ((sz.length:Int).toNat)=L;rw[Jb,Qf (by omega)]
 ·show((0:Int),((0:Int),List.replicate ((sz.length:Int).toNat) []))=_
  have:((sz.length:Int).toNat)=L.length:=by omega
  rw[this];rfl
noncomputable def nwS(c:CfgT):List Lev:=(shS c).map fun s=>List.replicate s.1.toNat (List.replicate s.2.1.toNat 0)
theorem yYj(c:CfgT):(nwS c).length=(shS c).length:=by simp[nwS]
theorem sh_six{c:CfgT}(N:Nums c):∀s∈shS c,s.1=3∨s.1=7∨s.1=15∨s.1=31∨s.1=63∨s.1=127:=by
 intro s hs;obtain⟨l,hl,rfl⟩:=Ja.1 hs;obtain⟨h1,_⟩:=wZh N l hl;show 2*2^l.2.2.1.toNat-1=3∨2*2^l.2.2.1.toNat-1=7∨2*2^l.2.2.1.toNat-1=15∨2*2^l.2.2.1.toNat-1=31∨2*2^l.2.2.1.toNat-1=63∨(2:Int)*2^l.2.2.1.toNat-1=127
 rcases yJi h1 with h|h|h|h|h|h<;>rw[h]<;>decide
theorem nw_ok{c:CfgT}(h:mayB c=true):zZs c (nwS c):=by
 obtain⟨N,_⟩:=zJ6 h;refine⟨h,yYj c,fun i hi hi'=>?_⟩
 obtain⟨a1,a2,a3,a4⟩:=uKa N _ (Qh hi');have e:(nwS c)[i]=List.replicate (shS c)[i].1.toNat (List.replicate (shS c)[i].2.1.toNat 0):=by simp[nwS]
 rw[e];refine⟨by rw[List.length_replicate];omega,fun b hb=>?_⟩
 rw[List.eq_of_mem_replicate hb,List.length_replicate];omega
noncomputable def newD(c:CfgT):(List Lev×Unit)×Int:=if mayB c=true then((nwS c,()),0)else(([],()),8)
theorem vQi(n m:Nat)(x:Int):(List.replicate n (List.replicate m x)).flatten=List.replicate (n*m) x:=by
 simp
theorem vW1(c:CfgT):wQ1 c=some (newD c):=by
 unfold wQ1 newD;refine zQm (yXy c) ?_;cases hm:mayB c with
 |false=>exact zQe rfl rfl
 | true=>
  obtain⟨N,_⟩:=zJ6 hm;have hal:=zYw c;have hsl:=yZ6 c;simp only[if_true];refine zQd rfl ?_;refine zQa rfl ?_;refine zQn (fun(s:Int×List Lev)=>∃i:Nat,i≤(shS c).length∧s=((i:Int),(nwS c).take i)) (fun s=>(shS c).length-s.1.toNat) ?_ ⟨0,Qw _,rfl⟩ (zXd _ _ (by omega))
  rintro s k ⟨i,hi,rfl⟩ hk;dsimp only;by_cases h:i<(shS c).length
  ·refine zQe (decide_eq_true (by simp only[Z.ofN,Z.len];omega)) ?_
   refine zQa (ixND h) (zQb (zWg (shS c) h _) ?_);have h6:=sh_six N _ (Qh h);obtain⟨a1,a2,a3,a4⟩:=uKa N _ (Qh h);have e:(nwS c)[i]'(by rw[yYj];exact h)=List.replicate (shS c)[i].1.toNat (List.replicate (shS c)[i].2.1.toNat 0):=by simp[nwS]
   generalize (shS c)[i]=sh at *;obtain⟨b,z,⟨⟩⟩:=sh;dsimp only at h6 a1 a2 a3 a4 e⊢;refine zQa (Qg _) ?_;refine zQm (vYg z b h6) ?_;obtain⟨B,rfl⟩:∃B:Nat,b=(B:Int):=⟨b.toNat,by omega⟩
   obtain⟨zn,rfl⟩:∃zn:Nat,z=(zn:Int):=⟨z.toNat,by omega⟩
   have hBzn:B*zn≤127*232:=Nat.mul_le_mul (by omega) (by omega)
   refine zQb (y:=((B*zn:Nat):Int)) ?_ ?_
   ·have e2:Z.mul (B:Int) (zn:Int)=((B*zn:Nat):Int):=by simp[Z.mul]
    rw[e2,zY1 (by omega)]
   refine zQa (Z.zKh.2 ⟨by omega,Int.le_refl _,by omega,by omega⟩) ?_
   refine zQa (by show 0+(B*zn)≤(List.replicate (B*zn) (0:Int)).length;simp) ?_
   refine zQm (uQd (List.replicate B (List.replicate zn 0)) _ ?_ _ ?_ (by rw[List.length_replicate];omega) (by rw[vQi,List.length_replicate];omega)) ?_
   ·rw[vQi]
    show((List.replicate (B*zn) (0:Int)).drop 0).take (B*zn)=_;rw[Jb,Qf (by simp)]
   ·show List.replicate B (zn:Int)=_
    simp[zK6]
   refine zQa (Qg _) ?_;refine zWa (bigD (by show((nwS c).take i).length≤2000000;rw[J1,yYj];omega) (by show 1≤2000000;omega) (by omega)) ?_
   refine zQb (y:=(nwS c).take (i+1)) ?_ ?_
   ·show(nwS c).take i++[List.replicate B (List.replicate zn 0)]=_
    rw[Qr (by rw[yYj];exact h),e];rfl
   refine zQb (zQ1 (by omega)) ?_
   exact hk _ ⟨i+1,h,rfl⟩ (by show(shS c).length-((i+1:Nat):Int).toNat<(shS c).length-((i:Int)).toNat;omega)
  ·refine zQd (decide_eq_false (by simp only[Z.ofN,Z.len];omega)) ?_
   rw[Qf (by rw[yYj];omega)]
end Go.Proofs.Ytghnechjgchajaa
