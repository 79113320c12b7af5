/- ChachaTurns answers true. -/
import Derived.Test.YtjfiojmfcpeaoaaChacha
namespace Go.Proofs.Ytjfiojmfcpeaoaa
open Go.Eng
set_option linter.unusedVariables false
set_option linter.unusedSimpArgs false

theorem chachaTurns_any (q w : List Int) : law03_ChachaTurns (q, w) = some true := by
  unfold law03_ChachaTurns
  simp only [if_pos (norm_EqN _ _), chacha_Quarter, ref03_Quarter, chacha_Undo, ref03_Undo, chacha_Double, ref03_Double, Dat.bind_some, lq_self, cond_true, Dat.pick_tf]

theorem law03_ChachaTurns_true (d : Els p_law03_ChachaTurns.args) (hf : Fits p_law03_ChachaTurns.args d) : law03_ChachaTurns d = some true := chachaTurns_any d.1 d.2
end Go.Proofs.Ytjfiojmfcpeaoaa
