/- Devices: new ones, whether two are the same, how great they are. -/
import Derived.Test.YtnbmjkbbppcbcaaDevD
namespace Go.Proofs.Ytnbmjkbbppcbcaa
open Go.Eng
set_option linter.unusedVariables false
set_option linter.unusedSimpArgs false
theorem xYl{α β:Type} [DecidableEq β] {f:α×α→Option Bool}{g:α→β}(a b:List α)(hf:∀x∈a,∀y,f (x,y)=some (decide (g x=g y)))(z:α)(hl:a.length≤1000000000):
    (bif (Z.ine (Z.ofN (Z.len a)) (Z.ofN (Z.len b)))then some false
 else Z.loop (fun(s1:Int) k2=>
 (bif (Z.ilt s1 (Z.ofN (Z.len a)))then if(Z.Ix s1 (Z.len a))then Z.bnd (Z.get a (Z.toN s1) z) fun(x5:α)=>
 if(Z.Ix s1 (Z.len b))then Z.bnd (Z.get b (Z.toN s1) z) fun(x8:α)=>
 Z.bind (f (x5,x8)) fun(x9:Bool)=>
 (bif (Z.bnot x9)then some false
 else Z.bnd (Z.wrap .i64 (Z.add s1 1)) fun(x10:Int)=>
 k2 x10)
 else none
 else none
 else some true)) 0)=some (decide (a.map g=b.map g)):=by
  by_cases hlen:a.length=b.length
  · refine zQm (by simp[Z.ine,Z.ofN,Z.len,hlen]) ?_
    refine zQt (fun(s:Int)=>∃i:Nat,s=(i:Int)∧i≤a.length∧∀(j:Nat) (h:j<a.length) (h':j<b.length),j<i→g a[j]=g b[j]) (fun s=>a.length-s.toNat) ?_ ⟨0,rfl,Q8 _,fun _ _ _ h=>absurd h (Nat.not_lt_zero _)⟩ (zZb _ _ (by omega))
    rintro s k ⟨i,rfl,hi,hq⟩ hk;by_cases h:i<a.length
    · have h':i<b.length:=by omega
      refine zQo (decide_eq_true (by simp only[Z.ofN,Z.len];omega)) ?_
      refine zQa (ixND h) (zQc (zW0 a h _) ?_);refine zQa (ixND h') (zQc (zW0 b h' _) ?_);refine zQw (hf _ (Qr h) _) ?_;by_cases he:g a[i]=g b[i]
      · rw[decide_eq_true he]
        refine zQm rfl (zQc (zW2 (by omega)) ?_)
        refine hk _ ⟨i+1,rfl,h,fun j hj hj' hji=>?_⟩ (by show a.length-((i+1:Nat):Int).toNat<a.length-((i:Int)).toNat;omega)
        by_cases e:j=i
        ·subst e;exact he
        ·exact hq j hj hj' (by omega)
      · rw[decide_eq_false he]
        refine zQo rfl ?_;rw[decide_eq_false fun hh=>he ?_]
        have e:(a.map g)[i]?=(b.map g)[i]?:=by rw[hh]
        simpa[h,h']using e
    · refine zQm (decide_eq_false (by simp only[Z.ofN,Z.len];omega)) ?_
      rw[decide_eq_true];apply List.ext_getElem (by simp[hlen])
      intro j h1 h2;simp at h1 h2;simp only[List.getElem_map];exact hq j h1 h2 (by omega)
  · refine zQo (by simp only[Z.ine,Z.ofN,Z.len,bne_iff_ne,ne_eq];omega) ?_
    rw[decide_eq_false fun h=>hlen (by simpa using congrArg List.length h)]
theorem yZr(a b:Byt):zJ7 (a,b)=some (decide (Z.str a=Z.str b)):=by
 unfold zJ7;refine zQc rfl (zQc rfl ?_);congr 1;by_cases h:Z.str a=Z.str b
 ·rw[decide_eq_true h];simp[Z.seq];exact h
 ·rw[decide_eq_false h];simp only[Z.seq];exact beq_eq_false_iff_ne.2 h
def bytL(L:Lev):List (List UInt8):=L.map Z.str
def bytD(d:List Lev):List (List (List UInt8)):=d.map bytL
theorem zKo(a b:Lev)(hl:a.length≤1000000000):zZa (a,b)=some (decide (bytL a=bytL b)):=by
 unfold zZa;exact xYl a b (fun x _ y=>yZr x y) [] hl
theorem yZm(a b:List Lev)(hl:a.length≤1000000000)(hL:∀L∈a,L.length≤1000000000):zJ5 ((a,()),(b,()))=some (decide (bytD a=bytD b)):=by
 unfold zJ5;exact xYl a b (fun x hx y=>zKo x y (hL x hx)) [] hl
def grtL(L:Lev)(k:Nat):Nat:=((L.take k).map fun b=>min b.length 100000).sum
def grtD(d:List Lev)(k:Nat):Nat:=((d.take k).map fun L=>grtL L 200).sum
def yXn(d:List Lev):Bool:=decide (∃L∈d.take 10,150<L.length)||(decide (6<d.length)||decide (40000<grtD d 10))
theorem wQe(L:Lev){k:Nat}(h:k<L.length):grtL L (k+1)=grtL L k+min L[k].length 100000:=by
 unfold grtL;rw[Qx h,Qv,List.sum_append];simp
theorem wXl(L:Lev):∀k,grtL L k≤100000*k
 |0=>by simp[grtL]
 | k+1=>by
  have ih:=wXl L k;by_cases h:k<L.length
  ·rw[wQe L h];omega
  ·have e:grtL L (k+1)=grtL L k:=by unfold grtL;rw[Qg (by omega),Qg (by omega)]
   omega
theorem xQ9(d:List Lev){k:Nat}(h:k<d.length):grtD d (k+1)=grtD d k+grtL d[k] 200:=by
 unfold grtD;rw[Qx h,Qv,List.sum_append];simp
theorem vW3(d:List Lev):∀k,grtD d k≤20000000*k
 |0=>by simp[grtD]
 | k+1=>by
  have ih:=vW3 d k;by_cases h:k<d.length
  ·rw[xQ9 d h];have:=wXl d[k] 200;omega
  ·have e:grtD d (k+1)=grtD d k:=by unfold grtD;rw[Qg (by omega),Qg (by omega)]
   omega
theorem min_i(b:Byt):Z.imax false (Z.ofN (Z.len b)) 100000=((min b.length 100000:Nat):Int):=by
 simp only[Z.imax,Z.ofN,Z.len,Jf,if_false];split<;>omega
theorem xW5 (d:List Lev):zYo (d,())=some (yXn d):=by
  unfold zYo;dsimp only;have fin:∀(n:Nat),(¬∃L∈d.take 10,150<L.length)→n=grtD d 10→(bif (Z.igt (Z.ofN (Z.len d)) 6)then some true else some (Z.zQ3 false true (Z.igt (n:Int) 40000)))=some (yXn d):=fun n hno hn=>by
    unfold yXn;rw[decide_eq_false hno,Bool.false_or];by_cases h6:6<d.length
    · refine zQo (decide_eq_true (by simp only[Z.ofN,Z.len];omega)) ?_
      rw[decide_eq_true h6];rfl
    · refine zQm (decide_eq_false (by simp only[Z.ofN,Z.len];omega)) ?_
      rw[decide_eq_false h6,Bool.false_or,←hn];congr 1;show(if false=true then true else Z.igt (n:Int) 40000)=_
      rw[if_neg (by decide)]
      by_cases hh:40000<n
      ·rw[decide_eq_true hh];exact decide_eq_true (by omega)
      ·rw[decide_eq_false hh];exact decide_eq_false (by omega)
  refine zQt (fun(s:Int×Int)=>∃i:Nat,s=((grtD d i:Int),(i:Int))∧i≤10∧i≤d.length∧¬∃L∈d.take i,150<L.length) (fun s=>10-s.2.toNat) ?_ ⟨0,rfl,by omega,by omega,by simp⟩ (zZb _ _ (by omega))
  rintro s k ⟨i,rfl,hi,hil,hno⟩ hk;dsimp only;by_cases h:i<d.length
  · refine zQo (decide_eq_true (by simp only[Z.ofN,Z.len];omega)) ?_
    by_cases h10:i<10
    · refine zQo (by simp[Z.zQ3,Z.ilt];omega) ?_
      have hb:=vW3 d i;have next:∀(n:Nat),n=grtD d (i+1)→(if(Z.Ix (i:Int) (Z.len d))then Z.bnd (Z.get d (Z.toN (i:Int)) ([]:List (List (Int)))) fun(x18:List (List (Int)))=>
 (bif (Z.igt (Z.ofN (Z.len x18)) 150)then some true
 else Z.bnd (Z.wrap .i64 (Z.add (i:Int) 1)) fun(x19:Int)=>
 k ((n:Int),x19))
 else none)=some (yXn d):=fun n hn=>by
        subst hn;refine zQa (ixND h) (zQc (zW0 d h _) ?_);by_cases hg:150<d[i].length
        · refine zQo (decide_eq_true (by simp only[Z.ofN,Z.len];omega)) ?_
          unfold yXn;rw[decide_eq_true ⟨d[i],List.mem_take_iff_getElem.2 ⟨i,by omega,rfl⟩,hg⟩]
          rfl
        · refine zQm (decide_eq_false (by simp only[Z.ofN,Z.len];omega)) ?_
          refine zQc (zW2 (by omega)) ?_
          refine hk _ ⟨i+1,rfl,h10,h, ?_⟩ (by show 10-((i+1:Nat):Int).toNat<10-((i:Int)).toNat;omega)
          rintro⟨L,hL,hgL⟩;rw[Qx h]at hL;rcases Q0.1 hL with hL|hL
          ·exact hno ⟨L,hL,hgL⟩
          ·rw[List.mem_singleton]at hL;subst hL;exact hg hgL
      refine zQt (fun(s:Int×Int)=>∃q:Nat,s=(((grtD d i+grtL d[i] q:Nat):Int),(q:Int))∧q≤200∧q≤d[i].length) (fun s=>200-s.2.toNat) ?_ ⟨0,by simp[grtL],by omega,by omega⟩ (zZb _ _ (by omega))
      rintro s k2 ⟨q,rfl,hq,hql⟩ hk2;dsimp only;have hbl:=wXl d[i] q;refine zQa (ixND h) (zQc (zW0 d h _) ?_);by_cases hlt:q<d[i].length
      · refine zQo (decide_eq_true (by simp only[Z.ofN,Z.len];omega)) ?_
        by_cases h200:q<200
        · refine zQo (by simp[Z.zQ3,Z.ilt];omega) ?_
          refine zQa (ixND h) (zQc (zW0 d h _) ?_);refine zQa (ixND hlt) (zQc (zW0 d[i] hlt _) ?_);rw[min_i];have hmn:min d[i][q].length 100000≤100000:=Nat.min_le_right _ _
          refine zQc (y:=((grtD d i+grtL d[i] (q+1):Nat):Int)) ?_ ?_
          · rw[wQe _ hlt]
            exact(yY3 (by simp only[Z.add];omega)).trans (by simp only[Z.add];omega)
          refine zQc (zW2 (by omega)) ?_
          exact hk2 _ ⟨q+1,rfl,h200,hlt⟩ (by show 200-((q+1:Nat):Int).toNat<200-((q:Int)).toNat;omega)
        · refine zQm (by simp[Z.zQ3,Z.ilt];omega) ?_
          have hq2:q=200:=by omega
          subst hq2;exact next _ (xQ9 d h).symm
      · refine zQm (decide_eq_false (by simp only[Z.ofN,Z.len];omega)) ?_
        have e:grtL d[i] q=grtL d[i] 200:=by unfold grtL;rw[Qg (by omega),Qg (by omega)]
        rw[e];exact next _ (xQ9 d h).symm
    · refine zQm (by simp[Z.zQ3,Z.ilt];omega) ?_
      have hi2:i=10:=by omega
      subst hi2;exact fin _ hno rfl
  · refine zQm (decide_eq_false (by simp only[Z.ofN,Z.len];omega)) ?_
    have e:d.take i=d.take 10:=by rw[Qg (by omega),Qg (by omega)]
    rw[e]at hno;exact fin _ hno (by unfold grtD;rw[e])
theorem xXv{l:List Nat}{x:Nat}(h:x∈l):x≤l.sum:=by
 induction l with
 |nil=>simp at h
 |cons y l ih=>
  rw[List.sum_cons];rcases Ji.1 h with rfl|h
  ·omega
  ·have:=ih h;omega
theorem wKp{d:List Lev}(h:yXn d=false):d.length≤6∧∀L∈d,L.length≤150∧L.flatten.length≤40000:=by
 unfold yXn at h;rw[Bool.or_eq_false_iff,Bool.or_eq_false_iff]at h;have h1:=of_decide_eq_false h.1;have h2:=of_decide_eq_false h.2.1;have h3:=of_decide_eq_false h.2.2
 have e10:d.take 10=d:=Qg (by omega)
 rw[e10]at h1;refine⟨by omega,fun L hL=>?_⟩
 have hl:L.length≤150:=by
  by_cases h:150<L.length
  ·exact absurd ⟨L,hL,h⟩ h1
  ·omega
 refine⟨hl, ?_⟩;have hg:grtL L 200≤40000:=by
  have:grtL L 200≤grtD d 10:=by
   unfold grtD;rw[e10];exact xXv (Q9.2 ⟨L,hL,rfl⟩)
  omega
 unfold grtL at hg;rw[Qg (by omega)]at hg
 rw[List.length_flatten];have:L.map List.length=L.map fun b=>min b.length 100000:=by
  apply Jl;intro b hb;have:=xXv (Q9.2 ⟨b,hb,rfl⟩:min b.length 100000∈L.map fun b=>min b.length 100000)
  omega
 rw[this];exact hg
theorem uJc{d:List Lev}(h:yXn d=false):DevB d:=by
 obtain⟨h1,h2⟩:=wKp h;exact⟨by omega,fun L hL=>by have:=h2 L hL;omega,fun L hL=>by have:=h2 L hL;omega⟩
end Go.Proofs.Ytnbmjkbbppcbcaa
