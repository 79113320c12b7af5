/- ChachaBlocks answers true. -/
import Derived.Test.YtjfiojmfcpeaoaaBlocks
namespace Go.Proofs.Ytjfiojmfcpeaoaa
open Go.Eng
set_option linter.unusedVariables false
set_option linter.unusedSimpArgs false

theorem chachaBlocks_any (k n : List Int) (c : Int) : law03_ChachaBlocks (k, c, n) = some true := by
  unfold law03_ChachaBlocks
  simp only [if_pos (norm_EqN _ _), chacha_Words, ref03_Words, chacha_Block_spec, ref03_Block_spec, Dat.bind_some, lq_self, cond_true, Dat.pick_tf]

theorem law03_ChachaBlocks_true (d : Els p_law03_ChachaBlocks.args) (hf : Fits p_law03_ChachaBlocks.args d) : law03_ChachaBlocks d = some true := chachaBlocks_any d.1 d.2.2 d.2.1
end Go.Proofs.Ytjfiojmfcpeaoaa
