/- Package geo, and the document's answer: heights, leaves, numbers. -/
import Derived.Test.YtghnechjgchajaaM6
import Derived.Test.YtghnechjgchajaaFns
namespace Go.Proofs.Ytghnechjgchajaa
open Go.Eng
set_option linter.unusedVariables false
set_option linter.unusedSimpArgs false
def may(h:Int):Bool:=decide (1≤h)&&decide (h≤6)
theorem xKj{h:Int}:may h=true↔1≤h∧h≤6:=by simp[may]
theorem yZ2{h:Int}(m:may h=true):h=1∨h=2∨h=3∨h=4∨h=5∨h=6:=by rw[xKj]at m;omega
theorem yXs(h:Int):yWg h=some (if may h then 0 else 2):=by
 unfold yWg;by_cases h1:h<1
 ·have:may h=false:=by simp[may];omega
  simp[Z.ilt,h1,this]
 ·by_cases h2:h>6
  ·have:may h=false:=by simp[may];omega
   simp[Z.ilt,Z.igt,h1,h2,this]
  ·have:may h=true:=by rw[xKj];omega
   simp[Z.ilt,Z.igt,h1,h2,this]
theorem xQ6(h:Int):yXe h=some (if may h then(2^h.toNat,0)else(0,2)):=by
 unfold yXe;rw[yXs,Z.bind_some];cases hm:may h with
 |false=>simp[Z.ine]
 |true=>rcases yZ2 hm with rfl|rfl|rfl|rfl|rfl|rfl<;>rfl
theorem yYc(h:Int):yQe h=some (if may h then(2*2^h.toNat-1,0)else(0,2)):=by
 unfold yQe;rw[yXs,Z.bind_some];cases hm:may h with
 |false=>simp[Z.ine]
 |true=>rcases yZ2 hm with rfl|rfl|rfl|rfl|rfl|rfl<;>rfl
end Go.Proofs.Ytghnechjgchajaa
