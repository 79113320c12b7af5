/- Package geo, and the document's answer: heights, leaves, numbers. -/
import Derived.Test.YtnbmjkbbppcbcaaM6
import Derived.Test.YtnbmjkbbppcbcaaFns
namespace Go.Proofs.Ytnbmjkbbppcbcaa
open Go.Eng
set_option linter.unusedVariables false
set_option linter.unusedSimpArgs false
def may (h : Int) : Bool:=decide (1≤h)&&decide (h≤6)
theorem xZx {h : Int} : may h=true↔1≤h∧h≤6:=by simp [may]
theorem yZd {h : Int} (m : may h=true) : h=1∨h=2∨h=3∨h=4∨h=5∨h=6:=by rw [xZx] at m; omega
theorem yW4 (h : Int) : yQz h=some (if may h then 0 else 2):=by
 unfold yQz
 by_cases h1 : h < 1
 ·have : may h = false := by simp [may]; omega
  simp [Z.ilt,h1,this]
 ·by_cases h2 : h > 6
  ·have : may h = false := by simp [may]; omega
   simp [Z.ilt,Z.igt,h1,h2,this]
  ·have : may h = true := by rw [xZx]; omega
   simp [Z.ilt,Z.igt,h1,h2,this]
theorem xQe (h : Int) : yWn h=some (if may h then (2 ^ h.toNat,0) else (0,2)):=by
 unfold yWn
 rw [yW4,Z.bind_some]
 cases hm : may h with
 | false=>simp [Z.ine]
 | true=>rcases yZd hm with rfl | rfl | rfl | rfl | rfl | rfl<;>rfl
theorem yJr (h : Int) : zYw h=some (if may h then (2 * 2 ^ h.toNat - 1,0) else (0,2)):=by
 unfold zYw
 rw [yW4,Z.bind_some]
 cases hm : may h with
 | false=>simp [Z.ine]
 | true=>rcases yZd hm with rfl | rfl | rfl | rfl | rfl | rfl<;>rfl
end Go.Proofs.Ytnbmjkbbppcbcaa
