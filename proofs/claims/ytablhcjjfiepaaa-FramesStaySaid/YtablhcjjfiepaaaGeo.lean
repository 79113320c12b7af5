/- Package geo, and the document's answer: heights, leaves, numbers. -/
import Derived.Test.YtablhcjjfiepaaaM6
import Derived.Test.YtablhcjjfiepaaaFns
namespace Go.Proofs.Ytablhcjjfiepaaa
open Go.Eng
set_option linter.unusedVariables false
set_option linter.unusedSimpArgs false
def may (h : Int) : Bool:=decide (1≤h)&&decide (h≤6)
theorem may_iff {h : Int} : may h=true↔1≤h∧h≤6:=by simp [may]
theorem may_cases {h : Int} (m : may h=true) : h=1∨h=2∨h=3∨h=4∨h=5∨h=6:=by rw [may_iff] at m; omega
theorem geo_Check_spec (h : Int) : geo_Check h = some (if may h then 0 else 2) := by
 unfold geo_Check
 by_cases h1 : h < 1
 ·have : may h = false := by simp [may]; omega
  simp [Dat.ilt,h1,this]
 ·by_cases h2 : h > 6
  ·have : may h = false := by simp [may]; omega
   simp [Dat.ilt,Dat.igt,h1,h2,this]
  ·have : may h = true := by rw [may_iff]; omega
   simp [Dat.ilt,Dat.igt,h1,h2,this]
theorem geo_Leaves_spec (h : Int) : geo_Leaves h = some (if may h then (2 ^ h.toNat, 0) else (0, 2)) := by
 unfold geo_Leaves
 rw [geo_Check_spec,Dat.bind_some]
 cases hm : may h with
 | false=>simp [Dat.ine]
 | true=>rcases may_cases hm with rfl | rfl | rfl | rfl | rfl | rfl<;>rfl
end Go.Proofs.Ytablhcjjfiepaaa
