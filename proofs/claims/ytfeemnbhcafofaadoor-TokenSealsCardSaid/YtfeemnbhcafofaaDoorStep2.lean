/- Joins, and loops some of whose state stays. -/
import Derived.Test.YtfeemnbhcafofaaDoorStep
namespace Go.Proofs.YtfeemnbhcafofaaDoor
open Go.Eng
set_option linter.unusedVariables false
theorem joinTo {σ β : Type} (P : σ→Prop) {f : (σ→Option β)→Option β} {g : σ→Option β} {r : Option β} (hg : ∀ j,P j→g j=r) (hf : ∀ k,(∀ j,P j→k j=r)→f k=r) : Z.join f g=r:=hf g hg
end Go.Proofs.YtfeemnbhcafofaaDoor
