/- Devices: what was written is read. -/
import Derived.Test.YtghnechjgchajaaDevD
namespace Go.Proofs.Ytghnechjgchajaa
open Go.Eng
set_option linter.unusedVariables false
set_option linter.unusedSimpArgs false
theorem yZj{d d':List Lev}(hd:dims d=dims d'){i k:Nat}(hi:i<d.length)(hk:k<d[i].length)(b:Byt)(hb:b.length=d[i][k].length):dims d=dims (wrB d' (i:Int) ((k+1:Nat):Int) b):=by
 have hn:=zJg hd;have hi':i<d'.length:=by omega
 have hL:=zKc hd hi hi';have hk':k<d'[i].length:=by have:=yWn hL;omega
 have he:=yKd hL hk hk';rw[wXm hi'];exact yYr hd hi' hk' b (by omega)
theorem vQ7(d:List Lev)(i:Nat):(d.getD i []).length=((dims d).getD i []).length:=by
 by_cases h:i<d.length
 ·simp[dims,dimL,List.getD,h]
 ·have h2:¬i<(dims d).length:=by simpa[dims]using h
  simp[List.getD,h,h2]
theorem vJ0(d:List Lev):d.length=(dims d).length:=by simp[dims]
theorem uW0{d d':List Lev}(hd:dims d=dims d')(level:Int)(at_:List Int):plD d level at_↔plD d' level at_:=by
 unfold plD;rw[vQ7 d,vQ7 d',vJ0 d,vJ0 d',hd]
theorem uXb{c:CfgT}{d d':List Lev}(hd:dims d=dims d')(h:zK0 c d):zK0 c d':=by
 obtain⟨h1,h2,h3⟩:=h;have hn:=zJg hd;refine⟨h1,by omega,fun i hi' hs=>?_⟩
 have hi:i<d.length:=by omega
 have hL:=zKc hd hi hi';have hl:=yWn hL;obtain⟨a1,a2⟩:=h3 i hi hs;refine⟨by omega,fun b hb=>?_⟩
 obtain⟨k,hk',rfl⟩:=List.getElem_of_mem hb;have hk:k<d[i].length:=by omega
 have:=yKd hL hk hk';have:=a2 _ (Qt hk);omega
theorem bk_set(d:List Lev)(i k j q:Nat)(hi:i<d.length)(hk:k<(d.getD i []).length)(b:Byt):((d.set i ((d.getD i []).set k b)).getD j []).getD q []=if j=i∧q=k then b else(d.getD j []).getD q []:=by
 by_cases hj:j=i
 ·subst hj
  have e:(d.set j ((d.getD j []).set k b)).getD j []=(d.getD j []).set k b:=by
   simp[List.getD,hi]
  rw[e];by_cases hq:q=k
  ·subst hq
   rw[if_pos ⟨rfl,rfl⟩];simp only[List.getD_eq_getElem?_getD];rw[Qh (by simpa using hk)];rfl
  ·rw[if_neg fun h=>hq h.2]
   simp only[List.getD_eq_getElem?_getD];rw[Qe (Ne.symm hq)]
 ·rw[if_neg fun h=>hj h.1]
  simp only[List.getD_eq_getElem?_getD];rw[Qe (Ne.symm hj)]
theorem uZk{d:List Lev}{i k:Nat}(hi:i<d.length)(hk:k<d[i].length)(b:Byt){m n:Int}(hm:0≤m)(hn:1≤n):bkt (wrB d (i:Int) ((k+1:Nat):Int) b) m n=if m=(i:Int)∧n=((k+1:Nat):Int)then b else bkt d m n:=by
 unfold bkt wrB;have e1:(((k+1:Nat):Int)-1).toNat=k:=by omega
 have e2:(i:Int).toNat=i:=rfl;have e3:d.getD i []=d[i]:=by simp[List.getD,hi]
 rw[e1,e2,bk_set d i k m.toNat (n-1).toNat hi (by rw[e3];exact hk) b]
 by_cases h:m=(i:Int)∧n=((k+1:Nat):Int)
 ·rw[if_pos h,if_pos ⟨by omega,by omega⟩]
 ·rw[if_neg h,if_neg fun hh=>h ⟨by omega,by omega⟩]
theorem vZc{c:CfgT}{d:List Lev}{level:Int}{at_:List Int}{all:List Byt}(hok:zK0 c d)(hw:wrOk d level at_ all):∀q:Nat,q≤at_.length→dims d=dims (wrs d level (at_.take q) (all.take q))∧
  ∀(h:q<at_.length) (h':q<all.length) (m n:Int),0≤m→1≤n→bkt (wrs d level (at_.take (q+1)) (all.take (q+1))) m n=if m=level∧n=at_[q]then all[q]else bkt (wrs d level (at_.take q) (all.take q)) m n:=by
 obtain⟨hp,hlen,hlq⟩:=hw;obtain⟨i,hi,rfl,hat⟩:=yW6 hp;have key:∀q:Nat,q≤at_.length→dims d=dims (wrs d (i:Int) (at_.take q) (all.take q)):=by
  intro q;induction q with
  |zero=>intro _;rfl
  |succ q ih=>
   intro hq;have h1:q<at_.length:=hq;have h2:q<all.length:=by omega
   rw[xZq d (i:Int) h1 h2];obtain⟨x,hx,hxe⟩:=hat q h1;rw[hxe];have hl:=hlq q h1 h2;rw[hxe,yWw hi hx]at hl;exact yZj (ih (by omega)) hi hx _ hl
 intro q hq;refine⟨key q hq,fun h h' m n hm hn=>?_⟩
 have hd:=key q hq;rw[xZq d (i:Int) h h'];obtain⟨x,hx,hxe⟩:=hat q h;rw[hxe];have hn':=zJg hd;have hi':i<(wrs d (i:Int) (at_.take q) (all.take q)).length:=by omega
 have hL:=zKc hd hi hi';have hk':x<(wrs d (i:Int) (at_.take q) (all.take q))[i].length:=by have:=yWn hL;omega
 exact uZk hi' hk' _ hm hn
theorem vZd{c:CfgT}{d:List Lev}{level:Int}{at_:List Int}{all:List Byt}(hok:zK0 c d)(hw:wrOk d level at_ all):dims d=dims (wrs d level at_ all):=by
 have h:=(vZc hok hw at_.length (Qf _)).1;rw[Ja,←hw.2.1,Ja]at h;exact h
end Go.Proofs.Ytghnechjgchajaa
