/- The functions of the program, as functions on plain data. -/
import Derived.Test.YtablhcjjfiepaaaCfg
import Derived.Test.YtablhcjjfiepaaaM6
import Derived.ProofKit
namespace Go.Proofs.Ytablhcjjfiepaaa
open Go.Eng
set_option linter.unusedVariables false
set_option maxRecDepth 100000
def sp0 (f : Nat) : List LSpec × List Nat := ([], [])

/-- slices.Clone(()byte,byte) -/
noncomputable def slices_Clone_byte_byte (d0 : List (Int)) : Option (List (Int)) :=
 if (Dat.Le (Dat.addN 0 0) (Dat.len ([] : List (Int)))) then if (Dat.Big (Dat.len (Dat.seg ([] : List (Int)) 0 0)) (Dat.len d0) 1) then none
 else Dat.bnd (Dat.app (Dat.seg ([] : List (Int)) 0 0) d0) fun (x5 : List (Int)) =>
 some x5
 else none
noncomputable def p_slices_Clone_byte_byte : PFn := { args := [(.list (.int .u8))], res := [(.list (.int .u8))], fn := slices_Clone_byte_byte }
noncomputable def cx48 : CloneX Try.prog cfg 48 5 (.int .u8) := clx xf48 5 (xf48.body.cOps.getD 0 ⟨none, .move (.tmp 0), 0, "", #[], none⟩) (xf48.body.cOps.getD 1 ⟨none, .move (.tmp 0), 0, "", #[], none⟩) (by kernel_rfl) (by kernel_rfl) (by kernel_rfl) (by kernel_rfl) (by kernel_rfl) (by kernel_rfl) (by kernel_rfl) (by kernel_rfl) (by kernel_rfl)
theorem pd_slices_Clone_byte_byte : PureD Try.prog cfg 48 p_slices_Clone_byte_byte := cloneD sp0 cfgOk cfgGlob cx48 (of_decide_eq_true (by kernel_rfl)) (by kernel_rfl) (by kernel_rfl) (by kernel_rfl) (fun d => by kernel_rfl) (fun d => by kernel_rfl) (by kernel_rfl) (fun d r h => by
  unfold slices_Clone_byte_byte at h
  split at h
  · split at h
    · cases h
    · have h1 : some d = some r := h
      exact (Option.some.inj h1).symm
  · cases h)

/-- slices.Clone(()thimblerig/api.Frame,thimblerig/api.Frame) -/
noncomputable def slices_Clone_api_Frame_api_Frame (d0 : List ((Int) × ((Int) × ((List (Int)) × ((List (Int)) × ((Bool) × ((Bool) × (Unit)))))))) : Option (List ((Int) × ((Int) × ((List (Int)) × ((List (Int)) × ((Bool) × ((Bool) × (Unit)))))))) :=
 if (Dat.Le (Dat.addN 0 0) (Dat.len ([] : List ((Int) × ((Int) × ((List (Int)) × ((List (Int)) × ((Bool) × ((Bool) × (Unit)))))))))) then if (Dat.Big (Dat.len (Dat.seg ([] : List ((Int) × ((Int) × ((List (Int)) × ((List (Int)) × ((Bool) × ((Bool) × (Unit)))))))) 0 0)) (Dat.len d0) 72) then none
 else Dat.bnd (Dat.app (Dat.seg ([] : List ((Int) × ((Int) × ((List (Int)) × ((List (Int)) × ((Bool) × ((Bool) × (Unit)))))))) 0 0) d0) fun (x5 : List ((Int) × ((Int) × ((List (Int)) × ((List (Int)) × ((Bool) × ((Bool) × (Unit)))))))) =>
 some x5
 else none
noncomputable def p_slices_Clone_api_Frame_api_Frame : PFn := { args := [(.list (.pair (.int .u8) (.pair (.int .i64) (.pair (.list (.int .u8)) (.pair (.list (.int .i64)) (.pair .bool (.pair .bool .unit)))))))], res := [(.list (.pair (.int .u8) (.pair (.int .i64) (.pair (.list (.int .u8)) (.pair (.list (.int .i64)) (.pair .bool (.pair .bool .unit)))))))], fn := slices_Clone_api_Frame_api_Frame }
noncomputable def cx63 : CloneX Try.prog cfg 63 39 (.pair (.int .u8) (.pair (.int .i64) (.pair (.list (.int .u8)) (.pair (.list (.int .i64)) (.pair .bool (.pair .bool .unit)))))) := clx xf63 39 (xf63.body.cOps.getD 0 ⟨none, .move (.tmp 0), 0, "", #[], none⟩) (xf63.body.cOps.getD 1 ⟨none, .move (.tmp 0), 0, "", #[], none⟩) (by kernel_rfl) (by kernel_rfl) (by kernel_rfl) (by kernel_rfl) (by kernel_rfl) (by kernel_rfl) (by kernel_rfl) (by kernel_rfl) (by kernel_rfl)
theorem pd_slices_Clone_api_Frame_api_Frame : PureD Try.prog cfg 63 p_slices_Clone_api_Frame_api_Frame := cloneD sp0 cfgOk cfgGlob cx63 (of_decide_eq_true (by kernel_rfl)) (by kernel_rfl) (by kernel_rfl) (by kernel_rfl) (fun d => by kernel_rfl) (fun d => by kernel_rfl) (by kernel_rfl) (fun d r h => by
  unfold slices_Clone_api_Frame_api_Frame at h
  split at h
  · split at h
    · cases h
    · have h1 : some d = some r := h
      exact (Option.some.inj h1).symm
  · cases h)

/-- slices.Clone(()int,int) -/
noncomputable def slices_Clone_int_int (d0 : List (Int)) : Option (List (Int)) :=
 if (Dat.Le (Dat.addN 0 0) (Dat.len ([] : List (Int)))) then if (Dat.Big (Dat.len (Dat.seg ([] : List (Int)) 0 0)) (Dat.len d0) 8) then none
 else Dat.bnd (Dat.app (Dat.seg ([] : List (Int)) 0 0) d0) fun (x5 : List (Int)) =>
 some x5
 else none
noncomputable def p_slices_Clone_int_int : PFn := { args := [(.list (.int .i64))], res := [(.list (.int .i64))], fn := slices_Clone_int_int }
noncomputable def cx64 : CloneX Try.prog cfg 64 3 (.int .i64) := clx xf64 3 (xf64.body.cOps.getD 0 ⟨none, .move (.tmp 0), 0, "", #[], none⟩) (xf64.body.cOps.getD 1 ⟨none, .move (.tmp 0), 0, "", #[], none⟩) (by kernel_rfl) (by kernel_rfl) (by kernel_rfl) (by kernel_rfl) (by kernel_rfl) (by kernel_rfl) (by kernel_rfl) (by kernel_rfl) (by kernel_rfl)
theorem pd_slices_Clone_int_int : PureD Try.prog cfg 64 p_slices_Clone_int_int := cloneD sp0 cfgOk cfgGlob cx64 (of_decide_eq_true (by kernel_rfl)) (by kernel_rfl) (by kernel_rfl) (by kernel_rfl) (fun d => by kernel_rfl) (fun d => by kernel_rfl) (by kernel_rfl) (fun d r h => by
  unfold slices_Clone_int_int at h
  split at h
  · split at h
    · cases h
    · have h1 : some d = some r := h
      exact (Option.some.inj h1).symm
  · cases h)
end Go.Proofs.Ytablhcjjfiepaaa
