/- Package geo, and the document's answer: heights, leaves, numbers. -/
import Derived.Test.YtnbmjkbbppcbcaaM6
import Derived.Test.YtnbmjkbbppcbcaaFns
namespace Go.Proofs.Ytnbmjkbbppcbcaa
open Go.Eng
set_option linter.unusedVariables false
set_option linter.unusedSimpArgs false
def may (h : Int) : Bool:=decide (1≤h)&&decide (h≤6)
theorem xZj {h : Int} : may h=true↔1≤h∧h≤6:=by simp [may]
theorem yX6 {h : Int} (m : may h=true) : h=1∨h=2∨h=3∨h=4∨h=5∨h=6:=by rw [xZj] at m; omega
theorem yWz (h : Int) : yQt h=some (if may h then 0 else 2):=by
 unfold yQt
 by_cases h1 : h < 1
 ·have : may h = false := by simp [may]; omega
  simp [Z.ilt,h1,this]
 ·by_cases h2 : h > 6
  ·have : may h = false := by simp [may]; omega
   simp [Z.ilt,Z.igt,h1,h2,this]
  ·have : may h = true := by rw [xZj]; omega
   simp [Z.ilt,Z.igt,h1,h2,this]
theorem yY0 (h : Int) : yWh h=some (if may h then (2 ^ h.toNat,0) else (0,2)):=by
 unfold yWh
 rw [yWz,Z.bind_some]
 cases hm : may h with
 | false=>simp [Z.ine]
 | true=>rcases yX6 hm with rfl | rfl | rfl | rfl | rfl | rfl<;>rfl
theorem yJf (h : Int) : zYp h=some (if may h then (2 * 2 ^ h.toNat - 1,0) else (0,2)):=by
 unfold zYp
 rw [yWz,Z.bind_some]
 cases hm : may h with
 | false=>simp [Z.ine]
 | true=>rcases yX6 hm with rfl | rfl | rfl | rfl | rfl | rfl<;>rfl
end Go.Proofs.Ytnbmjkbbppcbcaa
