/- 'HarmNames' answers true, for every input; each argument reads afterwards as it read before. -/
import Derived.Test.YtghnechjgchajaaRows
import Derived.Test.YtghnechjgchajaaHarmNames
namespace Go.Proofs.Ytghnechjgchajaa.harmNames
open Go.ChangeShapes Go.WideShapes Go.ChangeAt Go.RowKit
set_option linter.unusedVariables false

theorem own:ownKnob Try.prog.godebug=none:=by kernel_rfl

set_option maxRecDepth 100000 in
theorem lifted(os:Os)(started:os.Started)(H:Type)(enc:TypeId×Value→H):
    ReturnsInHanded {} Try.checked os 3 .any (Rows.harmNamesSpec.pre6 enc Try.prog Try.f3 Rows.harmNamesRow.domain false) (Rows.harmNamesSpec.post enc Try.prog Try.f3 false true false false):=by
  refine returnsInHanded_of_change (C:=Try.checked) own started (by kernel_rfl) Try.func3
    (ChangeSpec.witness6 (enc:=enc) (C:=Try.checked) false ⟨#[], #[],[]⟩ 12 (by kernel_rfl) (by kernel_rfl) (by kernel_rfl) (by kernel_rfl)) ?_
  intro W base args ds gs before hval0 hW hcnd _;refine Eng.xYu (P:=Try.prog) (c:=cfg) (fn:=Try.f3) (s:=Rows.harmNamesSpec) (p:=zZb) zX9.ty (by kernel_rfl) rfl Try.underlying4 rfl ?_ (by kernel_rfl) (by kernel_rfl) (by kernel_rfl) rfl yZq rfl ?_ W base args ds gs before hval0 hW
  · intro ds hd
    match ds,hd with
    |[],_=>rfl
  · intro d hf
    exact⟨true,yXm d hf,rfl⟩

theorem said:Rows.HarmNamesSaid:=
  OpenClaim.holds_of_wide 3 Try.f3 rfl rfl rfl rfl rfl rfl rfl ⟨rfl,rfl,rfl,rfl,rfl⟩ rfl rfl rfl rfl rfl (by kernel_rfl) Try.func3 (by kernel_rfl)
    (of_decide_eq_true (by kernel_rfl)) (by unfold Func.isWrapper;first|(rw[if_pos (by decide+kernel)];kernel_rfl)|(rw[if_neg (by decide+kernel)];exact⟨rfl,rfl⟩))
    (fun os started H enc _=>lifted os started H enc)
end Go.Proofs.Ytghnechjgchajaa.harmNames
