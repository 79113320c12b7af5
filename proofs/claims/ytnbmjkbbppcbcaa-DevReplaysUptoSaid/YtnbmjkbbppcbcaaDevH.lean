/- Devices: what was written is read. -/
import Derived.Test.YtnbmjkbbppcbcaaDevD
namespace Go.Proofs.Ytnbmjkbbppcbcaa
open Go.Eng
set_option linter.unusedVariables false
set_option linter.unusedSimpArgs false
theorem vX2 {d d' : List Lev} (hd : dims d=dims d') {i k : Nat} (hi : i < d.length) (hk : k < d[i].length) (b : Byt) (hb : b.length=d[i][k].length) : dims d=dims (wrB d' (i : Int) ((k+1 : Nat) : Int) b):=by
 have hn:=zY0 hd
 have hi' : i < d'.length:=by omega
 have hL:=zK0 hd hi hi'
 have hk' : k < d'[i].length:=by have:=yXz hL; omega
 have he:=yZ2 hL hk hk'
 rw [wXt hi']
 exact xK8 hd hi' hk' b (by omega)
theorem uKb {c : CfgT} {d d' : List Lev} (hd : dims d=dims d') (h : yW3 c d) : yW3 c d':=by
 obtain ⟨h1,h2,h3⟩:=h
 have hn:=zY0 hd
 refine ⟨h1,by omega,fun i hi' hs=>?_⟩
 have hi : i < d.length:=by omega
 have hL:=zK0 hd hi hi'
 have hl:=yXz hL
 obtain ⟨a1,a2⟩:=h3 i hi hs
 refine ⟨by omega,fun b hb=>?_⟩
 obtain ⟨k,hk',rfl⟩:=List.getElem_of_mem hb
 have hk : k < d[i].length:=by omega
 have:=yZ2 hL hk hk'
 have:=a2 _ (Qt hk)
 omega
end Go.Proofs.Ytnbmjkbbppcbcaa
