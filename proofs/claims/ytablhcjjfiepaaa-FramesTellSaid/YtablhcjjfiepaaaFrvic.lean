/- Frames: what the clock takes. -/
import Derived.Test.YtablhcjjfiepaaaFrclk
import Derived.Test.YtablhcjjfiepaaaFrtwin
namespace Go.Proofs.Ytablhcjjfiepaaa
open Go.Eng
set_option linter.unusedVariables false
set_option linter.unusedSimpArgs false
def vicS (l : List FrT) (h : Int) : (List FrT×(Int×Unit))×(Int×Int) :=
 match clk l.length h.toNat (2 * l.length) 0 l with
 | (L,some p)=>((L,(((p+1) % l.length : Nat) : Int),()),(p : Int),0)
 | (_,none)=>(([],0,()),0,250)
theorem yY6 (L : List FrT) {p : Nat} (h : p < L.length) : L.getD p noF=L[p]:=by simp [List.getD,h]
end Go.Proofs.Ytablhcjjfiepaaa
