/- 'HarmCrashes' answers true, for every input; each argument reads afterwards as it read before. -/
import Derived.Test.YtghnechjgchajaaRows
import Derived.Test.YtghnechjgchajaaHarmCrashes
namespace Go.Proofs.Ytghnechjgchajaa.harmCrashes
open Go.ChangeShapes Go.WideShapes Go.ChangeAt Go.RowKit
set_option linter.unusedVariables false

theorem own:ownKnob Try.prog.godebug=none:=by kernel_rfl

set_option maxRecDepth 100000 in
theorem lifted(os:Os)(started:os.Started)(H:Type)(enc:TypeId×Value→H):
    ReturnsInHanded {} Try.checked os 6 .any (Rows.harmCrashesSpec.pre6 enc Try.prog Try.f6 Rows.harmCrashesRow.domain false) (Rows.harmCrashesSpec.post enc Try.prog Try.f6 false true false false):=by
  refine returnsInHanded_of_change (C:=Try.checked) own started (by kernel_rfl) Try.func6
    (ChangeSpec.witness6 (enc:=enc) (C:=Try.checked) false ⟨#[], #[.agg #[.int .i64 0, .int .i64 0, .int .i64 0, .int .i64 0, .int .i64 0, .int .i64 0, .int .i64 0, .int .i64 0, .int .i64 0], .agg #[.slice none 0 0], .slice none 0 0, .int .i64 0],[]⟩ 12 (by kernel_rfl) (by kernel_rfl) (by kernel_rfl) (by kernel_rfl)) ?_
  intro W base args ds gs before hval0 hW hcnd _;refine Eng.wQm (P:=Try.prog) (c:=cfg) (fn:=Try.f6) (s:=Rows.harmCrashesSpec) (p:=zXv) zXs.ty (by kernel_rfl) rfl Try.underlying4 rfl ?_ (by kernel_rfl) (by kernel_rfl) (by kernel_rfl) rfl yXw rfl ?_ W base args ds gs before hval0 hW
  · intro ds hd
    match ds,hd with
    |[d1,d2,d3,d4],_=>rfl
  · intro d hf
    exact⟨true,yQ6 d hf,rfl⟩

theorem said:Rows.HarmCrashesSaid:=
  OpenClaim.holds_of_wide 6 Try.f6 rfl rfl rfl rfl rfl rfl rfl ⟨rfl,rfl,rfl,rfl,rfl⟩ rfl rfl rfl rfl rfl (by kernel_rfl) Try.func6 (by kernel_rfl)
    (of_decide_eq_true (by kernel_rfl)) (by unfold Func.isWrapper;first|(rw[if_pos (by decide+kernel)];kernel_rfl)|(rw[if_neg (by decide+kernel)];exact⟨rfl,rfl⟩))
    (fun os started H enc _=>lifted os started H enc)
end Go.Proofs.Ytghnechjgchajaa.harmCrashes
