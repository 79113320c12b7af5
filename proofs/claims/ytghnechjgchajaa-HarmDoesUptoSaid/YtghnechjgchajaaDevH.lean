/- Devices: what was written is read. -/
import Derived.Test.YtghnechjgchajaaDevD
namespace Go.Proofs.Ytghnechjgchajaa
open Go.Eng
set_option linter.unusedVariables false
set_option linter.unusedSimpArgs false
theorem xQy{d d':List Lev}(hd:dims d=dims d'){i k:Nat}(hi:i<d.length)(hk:k<d[i].length)(b:Byt)(hb:b.length=d[i][k].length):dims d=dims (wrB d' (i:Int) ((k+1:Nat):Int) b):=by
 have hn:=zYu hd;have hi':i<d'.length:=by omega
 have hL:=zKd hd hi hi';have hk':k<d'[i].length:=by have:=yXx hL;omega
 have he:=yJs hL hk hk';rw[xWm hi'];exact xWg hd hi' hk' b (by omega)
theorem vKp(d:List Lev)(i:Nat):(d.getD i []).length=((dims d).getD i []).length:=by
 by_cases h:i<d.length
 ·simp[dims,dimL,List.getD,h]
 ·have h2:¬i<(dims d).length:=by simpa[dims]using h
  simp[List.getD,h,h2]
theorem uXo(d:List Lev):d.length=(dims d).length:=by simp[dims]
theorem uKp{d d':List Lev}(hd:dims d=dims d')(level:Int)(at_:List Int):plD d level at_↔plD d' level at_:=by
 unfold plD;rw[vKp d,vKp d',uXo d,uXo d',hd]
theorem uKz{c:CfgT}{d d':List Lev}(hd:dims d=dims d')(h:zZs c d):zZs c d':=by
 obtain⟨h1,h2,h3⟩:=h;have hn:=zYu hd;refine⟨h1,by omega,fun i hi' hs=>?_⟩
 have hi:i<d.length:=by omega
 have hL:=zKd hd hi hi';have hl:=yXx hL;obtain⟨a1,a2⟩:=h3 i hi hs;refine⟨by omega,fun b hb=>?_⟩
 obtain⟨k,hk',rfl⟩:=List.getElem_of_mem hb;have hk:k<d[i].length:=by omega
 have:=yJs hL hk hk';have:=a2 _ (Qh hk);omega
end Go.Proofs.Ytghnechjgchajaa
