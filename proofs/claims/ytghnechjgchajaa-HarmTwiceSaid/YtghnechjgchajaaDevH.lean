/- Devices: what was written is read. -/
import Derived.Test.YtghnechjgchajaaDevD
namespace Go.Proofs.Ytghnechjgchajaa
open Go.Eng
set_option linter.unusedVariables false
set_option linter.unusedSimpArgs false
theorem yW8{d d':List Lev}(hd:dims d=dims d'){i k:Nat}(hi:i<d.length)(hk:k<d[i].length)(b:Byt)(hb:b.length=d[i][k].length):dims d=dims (wrB d' (i:Int) ((k+1:Nat):Int) b):=by
 have hn:=zZe hd;have hi':i<d'.length:=by omega
 have hL:=zXx hd hi hi';have hk':k<d'[i].length:=by have:=zKs hL;omega
 have he:=yKm hL hk hk';rw[yZo hi'];exact yY0 hd hi' hk' b (by omega)
theorem vWz(d:List Lev)(i:Nat):(d.getD i []).length=((dims d).getD i []).length:=by
 by_cases h:i<d.length
 ·simp[dims,dimL,List.getD,h]
 ·have h2:¬i<(dims d).length:=by simpa[dims]using h
  simp[List.getD,h,h2]
theorem vYz(d:List Lev):d.length=(dims d).length:=by simp[dims]
theorem wWw{d d':List Lev}(hd:dims d=dims d')(level:Int)(at_:List Int):plD d level at_↔plD d' level at_:=by
 unfold plD;rw[vWz d,vWz d',vYz d,vYz d',hd]
theorem vWh{c:CfgT}{d d':List Lev}(hd:dims d=dims d')(h:zZu c d):zZu c d':=by
 obtain⟨h1,h2,h3⟩:=h;have hn:=zZe hd;refine⟨h1,by omega,fun i hi' hs=>?_⟩
 have hi:i<d.length:=by omega
 have hL:=zXx hd hi hi';have hl:=zKs hL;obtain⟨a1,a2⟩:=h3 i hi hs;refine⟨by omega,fun b hb=>?_⟩
 obtain⟨k,hk',rfl⟩:=List.getElem_of_mem hb;have hk:k<d[i].length:=by omega
 have:=yKm hL hk hk';have:=a2 _ (Qn hk);omega
theorem bk_set(d:List Lev)(i k j q:Nat)(hi:i<d.length)(hk:k<(d.getD i []).length)(b:Byt):((d.set i ((d.getD i []).set k b)).getD j []).getD q []=if j=i∧q=k then b else(d.getD j []).getD q []:=by
 by_cases hj:j=i
 ·subst hj
  have e:(d.set j ((d.getD j []).set k b)).getD j []=(d.getD j []).set k b:=by
   simp[List.getD,hi]
  rw[e];by_cases hq:q=k
  ·subst hq
   rw[if_pos ⟨rfl,rfl⟩];simp only[List.getD_eq_getElem?_getD];rw[Qh (by simpa using hk)];rfl
  ·rw[if_neg fun h=>hq h.2]
   simp only[List.getD_eq_getElem?_getD];rw[Qe (Ne.symm hq)]
 ·rw[if_neg fun h=>hj h.1]
  simp only[List.getD_eq_getElem?_getD];rw[Qe (Ne.symm hj)]
theorem xW4{d:List Lev}{i k:Nat}(hi:i<d.length)(hk:k<d[i].length)(b:Byt){m n:Int}(hm:0≤m)(hn:1≤n):bkt (wrB d (i:Int) ((k+1:Nat):Int) b) m n=if m=(i:Int)∧n=((k+1:Nat):Int)then b else bkt d m n:=by
 unfold bkt wrB;have e1:(((k+1:Nat):Int)-1).toNat=k:=by omega
 have e2:(i:Int).toNat=i:=rfl;have e3:d.getD i []=d[i]:=by simp[List.getD,hi]
 rw[e1,e2,bk_set d i k m.toNat (n-1).toNat hi (by rw[e3];exact hk) b]
 by_cases h:m=(i:Int)∧n=((k+1:Nat):Int)
 ·rw[if_pos h,if_pos ⟨by omega,by omega⟩]
 ·rw[if_neg h,if_neg fun hh=>h ⟨by omega,by omega⟩]
theorem vZ8{c:CfgT}{d:List Lev}{level:Int}{at_:List Int}{all:List Byt}(hok:zZu c d)(hw:wrOk d level at_ all):∀q:Nat,q≤at_.length→dims d=dims (wrs d level (at_.take q) (all.take q))∧
  ∀(h:q<at_.length) (h':q<all.length) (m n:Int),0≤m→1≤n→bkt (wrs d level (at_.take (q+1)) (all.take (q+1))) m n=if m=level∧n=at_[q]then all[q]else bkt (wrs d level (at_.take q) (all.take q)) m n:=by
 obtain⟨hp,hlen,hlq⟩:=hw;obtain⟨i,hi,rfl,hat⟩:=yXd hp;have key:∀q:Nat,q≤at_.length→dims d=dims (wrs d (i:Int) (at_.take q) (all.take q)):=by
  intro q;induction q with
  |zero=>intro _;rfl
  |succ q ih=>
   intro hq;have h1:q<at_.length:=hq;have h2:q<all.length:=by omega
   rw[xKb d (i:Int) h1 h2];obtain⟨x,hx,hxe⟩:=hat q h1;rw[hxe];have hl:=hlq q h1 h2;rw[hxe,zKm hi hx]at hl;exact yW8 (ih (by omega)) hi hx _ hl
 intro q hq;refine⟨key q hq,fun h h' m n hm hn=>?_⟩
 have hd:=key q hq;rw[xKb d (i:Int) h h'];obtain⟨x,hx,hxe⟩:=hat q h;rw[hxe];have hn':=zZe hd;have hi':i<(wrs d (i:Int) (at_.take q) (all.take q)).length:=by omega
 have hL:=zXx hd hi hi';have hk':x<(wrs d (i:Int) (at_.take q) (all.take q))[i].length:=by have:=zKs hL;omega
 exact xW4 hi' hk' _ hm hn
theorem vZ9{c:CfgT}{d:List Lev}{level:Int}{at_:List Int}{all:List Byt}(hok:zZu c d)(hw:wrOk d level at_ all):dims d=dims (wrs d level at_ all):=by
 have h:=(vZ8 hok hw at_.length (Qf _)).1;rw[Jb,←hw.2.1,Jb]at h;exact h
end Go.Proofs.Ytghnechjgchajaa
