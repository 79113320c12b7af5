/- Devices: what was written is read. -/
import Derived.Test.YtnbmjkbbppcbcaaDevD
namespace Go.Proofs.Ytnbmjkbbppcbcaa
open Go.Eng
set_option linter.unusedVariables false
set_option linter.unusedSimpArgs false
theorem vZs{d d':List Lev}(hd:dims d=dims d'){i k:Nat}(hi:i<d.length)(hk:k<d[i].length)(b:Byt)(hb:b.length=d[i][k].length):dims d=dims (wrB d' (i:Int) ((k+1:Nat):Int) b):=by
 have hn:=zJu hd;have hi':i<d'.length:=by omega
 have hL:=zKh hd hi hi';have hk':k<d'[i].length:=by have:=zY5 hL;omega
 have he:=yW4 hL hk hk';rw[wZg hi'];exact xJr hd hi' hk' b (by omega)
theorem uKu{c:CfgT}{d d':List Lev}(hd:dims d=dims d')(h:zYe c d):zYe c d':=by
 obtain⟨h1,h2,h3⟩:=h;have hn:=zJu hd;refine⟨h1,by omega,fun i hi' hs=>?_⟩
 have hi:i<d.length:=by omega
 have hL:=zKh hd hi hi';have hl:=zY5 hL;obtain⟨a1,a2⟩:=h3 i hi hs;refine⟨by omega,fun b hb=>?_⟩
 obtain⟨k,hk',rfl⟩:=List.getElem_of_mem hb;have hk:k<d[i].length:=by omega
 have:=yW4 hL hk hk';have:=a2 _ (Qr hk);omega
theorem bk_set(d:List Lev)(i k j q:Nat)(hi:i<d.length)(hk:k<(d.getD i []).length)(b:Byt):((d.set i ((d.getD i []).set k b)).getD j []).getD q []=if j=i∧q=k then b else(d.getD j []).getD q []:=by
 by_cases hj:j=i
 ·subst hj
  have e:(d.set j ((d.getD j []).set k b)).getD j []=(d.getD j []).set k b:=by
   simp[List.getD,hi]
  rw[e];by_cases hq:q=k
  ·subst hq
   rw[if_pos ⟨rfl,rfl⟩];simp only[List.getD_eq_getElem?_getD];rw[Qi (by simpa using hk)];rfl
  ·rw[if_neg fun h=>hq h.2]
   simp only[List.getD_eq_getElem?_getD];rw[Qe (Ne.symm hq)]
 ·rw[if_neg fun h=>hj h.1]
  simp only[List.getD_eq_getElem?_getD];rw[Qe (Ne.symm hj)]
theorem uJ1{d:List Lev}{i k:Nat}(hi:i<d.length)(hk:k<d[i].length)(b:Byt){m n:Int}(hm:0≤m)(hn:1≤n):bkt (wrB d (i:Int) ((k+1:Nat):Int) b) m n=if m=(i:Int)∧n=((k+1:Nat):Int)then b else bkt d m n:=by
 unfold bkt wrB;have e1:(((k+1:Nat):Int)-1).toNat=k:=by omega
 have e2:(i:Int).toNat=i:=rfl;have e3:d.getD i []=d[i]:=by simp[List.getD,hi]
 rw[e1,e2,bk_set d i k m.toNat (n-1).toNat hi (by rw[e3];exact hk) b]
 by_cases h:m=(i:Int)∧n=((k+1:Nat):Int)
 ·rw[if_pos h,if_pos ⟨by omega,by omega⟩]
 ·rw[if_neg h,if_neg fun hh=>h ⟨by omega,by omega⟩]
theorem wZf{c:CfgT}{d:List Lev}{level:Int}{at_:List Int}{all:List Byt}(hok:zYe c d)(hw:wrOk d level at_ all):∀q:Nat,q≤at_.length→dims d=dims (wrs d level (at_.take q) (all.take q))∧
  ∀(h:q<at_.length) (h':q<all.length) (m n:Int),0≤m→1≤n→bkt (wrs d level (at_.take (q+1)) (all.take (q+1))) m n=if m=level∧n=at_[q]then all[q]else bkt (wrs d level (at_.take q) (all.take q)) m n:=by
 obtain⟨hp,hlen,hlq⟩:=hw;obtain⟨i,hi,rfl,hat⟩:=zYr hp;have key:∀q:Nat,q≤at_.length→dims d=dims (wrs d (i:Int) (at_.take q) (all.take q)):=by
  intro q;induction q with
  |zero=>intro _;rfl
  |succ q ih=>
   intro hq;have h1:q<at_.length:=hq;have h2:q<all.length:=by omega
   rw[yYp d (i:Int) h1 h2];obtain⟨x,hx,hxe⟩:=hat q h1;rw[hxe];have hl:=hlq q h1 h2;rw[hxe,yYe hi hx]at hl;exact vZs (ih (by omega)) hi hx _ hl
 intro q hq;refine⟨key q hq,fun h h' m n hm hn=>?_⟩
 have hd:=key q hq;rw[yYp d (i:Int) h h'];obtain⟨x,hx,hxe⟩:=hat q h;rw[hxe];have hn':=zJu hd;have hi':i<(wrs d (i:Int) (at_.take q) (all.take q)).length:=by omega
 have hL:=zKh hd hi hi';have hk':x<(wrs d (i:Int) (at_.take q) (all.take q))[i].length:=by have:=zY5 hL;omega
 exact uJ1 hi' hk' _ hm hn
theorem vZq{c:CfgT}{d:List Lev}{level:Int}{at_:List Int}{all:List Byt}(hok:zYe c d)(hw:wrOk d level at_ all):dims d=dims (wrs d level at_ all):=by
 have h:=(wZf hok hw at_.length (Qf _)).1;rw[Jd,←hw.2.1,Jd]at h;exact h
theorem xYj(k level:Int)(at_:List Int)(all:List Byt)(h:all.length=at_.length):(zZ9 k level at_ all).length=at_.length:=by
 simp[zZ9,h]
theorem vKu(l:List Byt):∃g,zYz l=some g∧(g=false→l.length≤20∧∀b∈l,b.length≤1000):=by
 refine⟨decide (∃b∈l.take 20,1000<b.length)||decide (20<l.length), ?_,fun h=>by
  rw[Bool.or_eq_false_iff]at h;have h2:=of_decide_eq_false h.2;have h1:=of_decide_eq_false h.1;exact⟨by omega,fun b hb=>Nat.not_lt.1 fun hlt=>h1 ⟨b,by rw[Qg (by omega)];exact hb,hlt⟩⟩⟩
 unfold zYz;have fin:(¬∃b∈l.take 20,1000<b.length)→some (Z.igt (Z.ofN (Z.len l)) 20)=some (decide (∃b∈l.take 20,1000<b.length)||decide (20<l.length)):=fun h=>by
  rw[decide_eq_false h,Bool.false_or];congr 1;simp only[Z.igt,Z.ofN,Z.len];exact decide_eq_decide.2 (by omega)
 refine zQt (fun(s:Int)=>∃i:Nat,s=(i:Int)∧i≤l.length∧i≤20∧∀(j:Nat) (h:j<l.length),j<i→l[j].length≤1000) (fun s=>20-s.toNat) ?_ ⟨0,rfl,Q8 _,by omega,fun _ _ h=>absurd h (Nat.not_lt_zero _)⟩ (zZb 20 _ (by omega))
 rintro s k ⟨i,rfl,hi,hi20,hq⟩ hk;by_cases h:i<l.length
 ·refine zQo (decide_eq_true (by simp only[Z.ofN,Z.len];omega)) ?_
  by_cases h20:i<20
  ·refine zQo (by simp[Z.zQ3,Z.ilt];omega) ?_
   refine zQa (ixND h) (zQc (zW0 l h _) ?_);by_cases hb:1000<l[i].length
   ·refine zQo (by simp only[Z.igt,Z.ofN,Z.len];exact decide_eq_true (by omega)) ?_
    rw[decide_eq_true ⟨l[i],List.mem_iff_getElem.2 ⟨i,by rw[Jn];omega,by simp⟩,hb⟩];rfl
   ·refine zQm (by simp only[Z.igt,Z.ofN,Z.len];exact decide_eq_false (by omega)) ?_
    refine zQc (zW2 (by omega)) ?_
    refine hk _ ⟨i+1,rfl,h,h20,fun j hj hji=>?_⟩ (by show 20-((i+1:Nat):Int).toNat<20-((i:Int)).toNat;omega)
    by_cases e:j=i
    ·subst e;omega
    ·exact hq j hj (by omega)
  ·refine zQm (by simp[Z.zQ3,Z.ilt];omega) ?_
   refine fin fun⟨b,hb,hbl⟩=>?_
   obtain⟨j,hj,rfl⟩:=List.getElem_of_mem hb;rw[Jn]at hj;rw[List.getElem_take]at hbl;have:=hq j (by omega) (by omega)
   omega
 ·refine zQm (decide_eq_false (by simp only[Z.ofN,Z.len];omega)) ?_
  refine fin fun⟨b,hb,hbl⟩=>?_
  obtain⟨j,hj,rfl⟩:=List.getElem_of_mem hb;rw[Jn]at hj;rw[List.getElem_take]at hbl;have:=hq j (by omega) (by omega)
  omega
end Go.Proofs.Ytnbmjkbbppcbcaa
