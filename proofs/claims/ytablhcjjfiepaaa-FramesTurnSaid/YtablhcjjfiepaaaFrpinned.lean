/- Frames with a pin more, and less. -/
import Derived.Test.YtablhcjjfiepaaaFrspoil
import Derived.Test.YtablhcjjfiepaaaFrref2
namespace Go.Proofs.Ytablhcjjfiepaaa
open Go.Eng
set_option linter.unusedVariables false
set_option linter.unusedSimpArgs false
theorem yYc (c : CfgT) (l : List FrT) (h a cl : Int) (hs : zWo l) : zYm (c,((l,(h,())),((l,(h,())),(a,cl))))=some true:=by
 unfold zYm
 dsimp only
 refine zQj (yYh c l h a cl hs) ?_
 refine zQj (xX9 c l h a cl hs) ?_
 refine zQj (yZ4 c l h a cl hs) ?_
 refine zQj (xQg c l h a cl hs) ?_
 have a1:=zJw (vJk c l h a cl hs)
 have a2:=zJw (wYx c l h a cl hs)
 obtain ⟨d1,s1⟩:=yXp (uQ1 c l h a cl)
 obtain ⟨d2,s2⟩:=yXp (vWl c l h a cl)
 generalize pinR c l h a cl=X1 at *
 generalize pinA c l h a cl=A1 at *
 generalize wKj c l h a cl=X2 at *
 generalize wQb c l h a cl=A2 at *
 refine wJi (fun j=>j=true) (r:=some true) ?_ ?_
 ·rintro j rfl
  refine zJt s1 a1 (fun s=>?_) rfl
  exact zJt s2 a2 (fun s=>rfl) rfl
 ·intro k hk
  refine xKa s1 a1 (fun e h1 h2=>zQa h1 (zQc rfl (zQa h2 (zQc rfl rfl)))) ?_
  refine zQe rfl (zQe (xKz s1) ?_)
  refine xKa s2 a2 (fun e h1 h2=>zQa h1 (zQc rfl (zQa h2 (zQc rfl rfl)))) ?_
  refine zQe rfl ?_
  exact hk _ (xKz s2)
end Go.Proofs.Ytablhcjjfiepaaa
