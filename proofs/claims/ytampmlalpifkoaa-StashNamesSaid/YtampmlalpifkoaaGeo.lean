/- Package geo, and the document's answer: heights, leaves, numbers. -/
import Derived.Test.YtampmlalpifkoaaM6
import Derived.Test.YtampmlalpifkoaaFns
namespace Go.Proofs.Ytampmlalpifkoaa
open Go.Eng
set_option linter.unusedVariables false
set_option linter.unusedSimpArgs false
def may (h : Int) : Bool:=decide (1≤h)&&decide (h≤6)
theorem wXr {h : Int} : may h=true↔1≤h∧h≤6:=by simp [may]
theorem wXs {h : Int} (m : may h=true) : h=1∨h=2∨h=3∨h=4∨h=5∨h=6:=by rw [wXr] at m; omega
theorem yYf (h : Int) : yW1 h=some (if may h then 0 else 2):=by
 unfold yW1
 by_cases h1 : h < 1
 ·have : may h = false := by simp [may]; omega
  simp [Z.ilt,h1,this]
 ·by_cases h2 : h > 6
  ·have : may h = false := by simp [may]; omega
   simp [Z.ilt,Z.igt,h1,h2,this]
  ·have : may h = true := by rw [wXr]; omega
   simp [Z.ilt,Z.igt,h1,h2,this]
theorem zY6 (h : Int) : zJs h=some (if may h then (2 ^ h.toNat,0) else (0,2)):=by
 unfold zJs
 rw [yYf,Z.bind_some]
 cases hm : may h with
 | false=>simp [Z.ine]
 | true=>rcases wXs hm with rfl | rfl | rfl | rfl | rfl | rfl<;>rfl
end Go.Proofs.Ytampmlalpifkoaa
