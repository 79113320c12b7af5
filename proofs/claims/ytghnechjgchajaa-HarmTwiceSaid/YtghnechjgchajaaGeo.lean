/- Package geo, and the document's answer: heights, leaves, numbers. -/
import Derived.Test.YtghnechjgchajaaM6
import Derived.Test.YtghnechjgchajaaFns
namespace Go.Proofs.Ytghnechjgchajaa
open Go.Eng
set_option linter.unusedVariables false
set_option linter.unusedSimpArgs false
def may(h:Int):Bool:=decide (1≤h)&&decide (h≤6)
theorem xK3{h:Int}:may h=true↔1≤h∧h≤6:=by simp[may]
theorem yKa{h:Int}(m:may h=true):h=1∨h=2∨h=3∨h=4∨h=5∨h=6:=by rw[xK3]at m;omega
theorem yXy(h:Int):yWr h=some (if may h then 0 else 2):=by
 unfold yWr;by_cases h1:h<1
 ·have:may h=false:=by simp[may];omega
  simp[Z.ilt,h1,this]
 ·by_cases h2:h>6
  ·have:may h=false:=by simp[may];omega
   simp[Z.ilt,Z.igt,h1,h2,this]
  ·have:may h=true:=by rw[xK3];omega
   simp[Z.ilt,Z.igt,h1,h2,this]
theorem xWj(h:Int):yXk h=some (if may h then(2^h.toNat,0)else(0,2)):=by
 unfold yXk;rw[yXy,Z.bind_some];cases hm:may h with
 |false=>simp[Z.ine]
 |true=>rcases yKa hm with rfl|rfl|rfl|rfl|rfl|rfl<;>rfl
theorem yYl(h:Int):yQo h=some (if may h then(2*2^h.toNat-1,0)else(0,2)):=by
 unfold yQo;rw[yXy,Z.bind_some];cases hm:may h with
 |false=>simp[Z.ine]
 |true=>rcases yKa hm with rfl|rfl|rfl|rfl|rfl|rfl<;>rfl
end Go.Proofs.Ytghnechjgchajaa
