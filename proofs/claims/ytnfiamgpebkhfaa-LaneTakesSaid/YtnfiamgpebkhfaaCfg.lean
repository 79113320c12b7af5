/- The tables of the program for the clean evaluation. -/
import Derived.Test.YtnfiamgpebkhfaaChecked
import Derived.Test.YtnfiamgpebkhfaaM5
import Derived.ProofKit
namespace Go.Proofs.Ytnfiamgpebkhfaa
open Go.Eng
noncomputable def ti1 : TI := { desc := Try.t1.desc, agg := false, size := 1, bytes := 8, zero := [.nilfunc], comparable := false, held := false, eqg := false }
noncomputable def ti2 : TI := { desc := .int .i64, agg := false, size := 1, bytes := 8, zero := [.int .i64 0], comparable := true, held := false, eqg := false }
noncomputable def ti3 : TI := { desc := .int .i64, agg := false, size := 1, bytes := 8, zero := [.int .i64 0], comparable := true, held := false, eqg := false }
noncomputable def ti4 : TI := { desc := .bool, agg := false, size := 1, bytes := 1, zero := [.bool false], comparable := true, held := false, eqg := false }
noncomputable def ti5 : TI := { desc := .int .u8, agg := false, size := 1, bytes := 1, zero := [.int .u8 0], comparable := true, held := false, eqg := false }
noncomputable def ti6 : TI := { desc := .int .u8, agg := false, size := 1, bytes := 1, zero := [.int .u8 0], comparable := true, held := false, eqg := false }
noncomputable def ti7 : TI := { desc := Try.t7.desc, agg := true, size := 4, bytes := 24, zero := [.int .i64 0, .int .i64 0, .bool false, .int .u8 0], comparable := true, held := false, eqg := false }
noncomputable def ti8 : TI := { desc := Try.t7.desc, agg := true, size := 4, bytes := 24, zero := [.int .i64 0, .int .i64 0, .bool false, .int .u8 0], comparable := true, held := false, eqg := false }
noncomputable def ti9 : TI := { desc := .string, agg := false, size := 1, bytes := 16, zero := [.str []], comparable := true, held := false, eqg := false }
noncomputable def ti10 : TI := { desc := .string, agg := false, size := 1, bytes := 16, zero := [.str []], comparable := true, held := false, eqg := false }
noncomputable def ti11 : TI := { desc := .string, agg := false, size := 1, bytes := 16, zero := [.str []], comparable := true, held := false, eqg := false }
noncomputable def ti12 : TI := { desc := .int .u64, agg := false, size := 1, bytes := 8, zero := [.int .u64 0], comparable := true, held := false, eqg := false }
noncomputable def ti13 : TI := { desc := Try.t13.desc, agg := true, size := 2, bytes := 24, zero := [.str [], .int .u64 0], comparable := true, held := true, eqg := false }
noncomputable def ti14 : TI := { desc := Try.t13.desc, agg := true, size := 2, bytes := 24, zero := [.str [], .int .u64 0], comparable := true, held := true, eqg := false }
noncomputable def ti15 : TI := { desc := .pointer 43, agg := false, size := 1, bytes := 8, zero := [.nilptr], comparable := true, held := false, eqg := false }
noncomputable def ti16 : TI := { desc := .pointer 46, agg := false, size := 1, bytes := 8, zero := [.nilptr], comparable := true, held := false, eqg := false }
noncomputable def ti17 : TI := { desc := .pointer 55, agg := false, size := 1, bytes := 8, zero := [.nilptr], comparable := true, held := false, eqg := false }
noncomputable def ti18 : TI := { desc := Try.t18.desc, agg := true, size := 1, bytes := 8, zero := [.nilptr], comparable := true, held := true, eqg := false }
noncomputable def ti19 : TI := { desc := Try.t18.desc, agg := true, size := 1, bytes := 8, zero := [.nilptr], comparable := true, held := true, eqg := false }
noncomputable def ti20 : TI := { desc := Try.t20.desc, agg := false, size := 1, bytes := 16, zero := [.niliface], comparable := true, held := false, eqg := false }
noncomputable def ti21 : TI := { desc := .int .i32, agg := false, size := 1, bytes := 4, zero := [.int .i32 0], comparable := true, held := false, eqg := false }
noncomputable def ti22 : TI := { desc := .slice 26, agg := false, size := 1, bytes := 24, zero := [.slice 0 [] none true], comparable := false, held := false, eqg := false }
noncomputable def ti23 : TI := { desc := Try.t23.desc, agg := true, size := 2, bytes := 32, zero := [.slice 0 [] none true, .int .i64 0], comparable := false, held := false, eqg := false }
noncomputable def ti24 : TI := { desc := Try.t23.desc, agg := true, size := 2, bytes := 32, zero := [.slice 0 [] none true, .int .i64 0], comparable := false, held := false, eqg := false }
noncomputable def ti25 : TI := { desc := Try.t25.desc, agg := false, size := 1, bytes := 8, zero := [.nilfunc], comparable := false, held := false, eqg := false }
noncomputable def ti26 : TI := { desc := .int .u32, agg := false, size := 1, bytes := 4, zero := [.int .u32 0], comparable := true, held := false, eqg := false }
noncomputable def ti27 : TI := { desc := .int .i64, agg := false, size := 1, bytes := 8, zero := [.int .i64 0], comparable := true, held := false, eqg := false }
noncomputable def ti29 : TI := { desc := Try.t29.desc, agg := false, size := 1, bytes := 8, zero := [.nilfunc], comparable := false, held := false, eqg := false }
noncomputable def ti31 : TI := { desc := Try.t31.desc, agg := false, size := 1, bytes := 8, zero := [.nilfunc], comparable := false, held := false, eqg := false }
noncomputable def ti32 : TI := { desc := Try.t32.desc, agg := false, size := 1, bytes := 8, zero := [.nilfunc], comparable := false, held := false, eqg := false }
noncomputable def ti33 : TI := { desc := Try.t33.desc, agg := false, size := 1, bytes := 8, zero := [.nilfunc], comparable := false, held := false, eqg := false }
noncomputable def ti34 : TI := { desc := Try.t34.desc, agg := false, size := 1, bytes := 8, zero := [.nilfunc], comparable := false, held := false, eqg := false }
noncomputable def ti35 : TI := { desc := Try.t35.desc, agg := false, size := 1, bytes := 8, zero := [.nilfunc], comparable := false, held := false, eqg := false }
noncomputable def ti36 : TI := { desc := Try.t36.desc, agg := false, size := 1, bytes := 8, zero := [.nilfunc], comparable := false, held := false, eqg := false }
noncomputable def ti37 : TI := { desc := Try.t37.desc, agg := true, size := 2, bytes := 32, zero := [.slice 0 [] none true, .int .i64 0], comparable := false, held := false, eqg := false }
noncomputable def ti38 : TI := { desc := Try.t37.desc, agg := true, size := 2, bytes := 32, zero := [.slice 0 [] none true, .int .i64 0], comparable := false, held := false, eqg := false }
noncomputable def ti39 : TI := { desc := Try.t39.desc, agg := false, size := 1, bytes := 8, zero := [.nilfunc], comparable := false, held := false, eqg := false }
noncomputable def ti40 : TI := { desc := .pointer 38, agg := false, size := 1, bytes := 8, zero := [.nilptr], comparable := true, held := false, eqg := false }
noncomputable def ti41 : TI := { desc := Try.t41.desc, agg := false, size := 1, bytes := 8, zero := [.nilfunc], comparable := false, held := false, eqg := false }
noncomputable def ti42 : TI := { desc := Try.t42.desc, agg := true, size := 4, bytes := 40, zero := [.nilptr, .nilptr, .nilptr, .str []], comparable := true, held := true, eqg := false }
noncomputable def ti43 : TI := { desc := Try.t42.desc, agg := true, size := 4, bytes := 40, zero := [.nilptr, .nilptr, .nilptr, .str []], comparable := true, held := true, eqg := false }
noncomputable def ti44 : TI := { desc := .array 0 16, agg := true, size := 0, bytes := 0, zero := [], comparable := true, held := false, eqg := false }
noncomputable def ti45 : TI := { desc := Try.t45.desc, agg := true, size := 0, bytes := 0, zero := [], comparable := true, held := true, eqg := false }
noncomputable def ti46 : TI := { desc := Try.t45.desc, agg := true, size := 0, bytes := 0, zero := [], comparable := true, held := true, eqg := false }
noncomputable def ti47 : TI := { desc := Try.t47.desc, agg := false, size := 1, bytes := 8, zero := [.nilfunc], comparable := false, held := false, eqg := false }
noncomputable def ti48 : TI := { desc := .int .u8, agg := false, size := 1, bytes := 1, zero := [.int .u8 0], comparable := true, held := false, eqg := false }
noncomputable def ti49 : TI := { desc := .int .u8, agg := false, size := 1, bytes := 1, zero := [.int .u8 0], comparable := true, held := false, eqg := false }
noncomputable def ti50 : TI := { desc := Try.t50.desc, agg := false, size := 1, bytes := 8, zero := [.nilfunc], comparable := false, held := false, eqg := false }
noncomputable def ti51 : TI := { desc := .pointer 5, agg := false, size := 1, bytes := 8, zero := [.nilptr], comparable := true, held := false, eqg := false }
noncomputable def ti52 : TI := { desc := .int .i32, agg := false, size := 1, bytes := 4, zero := [.int .i32 0], comparable := true, held := false, eqg := false }
noncomputable def ti53 : TI := { desc := .int .i32, agg := false, size := 1, bytes := 4, zero := [.int .i32 0], comparable := true, held := false, eqg := false }
noncomputable def ti54 : TI := { desc := Try.t54.desc, agg := true, size := 11, bytes := 48, zero := [.int .u64 0, .int .u64 0, .int .u32 0, .int .u8 0, .int .u8 0, .int .u8 0, .int .u8 0, .nilfunc, .nilptr, .int .i32 0, .int .i32 0], comparable := false, held := true, eqg := false }
noncomputable def ti55 : TI := { desc := Try.t54.desc, agg := true, size := 11, bytes := 48, zero := [.int .u64 0, .int .u64 0, .int .u32 0, .int .u8 0, .int .u8 0, .int .u8 0, .int .u8 0, .nilfunc, .nilptr, .int .i32 0, .int .i32 0], comparable := false, held := true, eqg := false }
noncomputable def ti56 : TI := { desc := .unsafePointer, agg := false, size := 1, bytes := 8, zero := [.nilptr], comparable := true, held := false, eqg := false }
noncomputable def tys : Tab TI := (.node (.node (.node (.node (.node (.node .leaf (some ti31) .leaf) (some ti15) (.node .leaf (some ti47) .leaf)) (some ti7) (.node (.node .leaf (some ti39) .leaf) (some ti23) (.node .leaf (some ti55) .leaf))) (some ti3) (.node (.node (.node .leaf (some ti35) .leaf) (some ti19) (.node .leaf (some ti51) .leaf)) (some ti11) (.node (.node .leaf (some ti43) .leaf) (some ti27) .leaf))) (some ti1) (.node (.node (.node (.node .leaf (some ti33) .leaf) (some ti17) (.node .leaf (some ti49) .leaf)) (some ti9) (.node (.node .leaf (some ti41) .leaf) (some ti25) .leaf)) (some ti5) (.node (.node (.node .leaf (some ti37) .leaf) (some ti21) (.node .leaf (some ti53) .leaf)) (some ti13) (.node (.node .leaf (some ti45) .leaf) (some ti29) .leaf)))) none (.node (.node (.node (.node (.node .leaf (some ti32) .leaf) (some ti16) (.node .leaf (some ti48) .leaf)) (some ti8) (.node (.node .leaf (some ti40) .leaf) (some ti24) (.node .leaf (some ti56) .leaf))) (some ti4) (.node (.node (.node .leaf (some ti36) .leaf) (some ti20) (.node .leaf (some ti52) .leaf)) (some ti12) (.node (.node .leaf (some ti44) .leaf) none .leaf))) (some ti2) (.node (.node (.node (.node .leaf (some ti34) .leaf) (some ti18) (.node .leaf (some ti50) .leaf)) (some ti10) (.node (.node .leaf (some ti42) .leaf) (some ti26) .leaf)) (some ti6) (.node (.node (.node .leaf (some ti38) .leaf) (some ti22) (.node .leaf (some ti54) .leaf)) (some ti14) (.node (.node .leaf (some ti46) .leaf) none .leaf)))))
def plans (l : List (Nat × List (Nat × List Nat))) : Plans := fun i => match l.find? (fun p => p.1 == i) with
  | some p => p.2
  | none => []
def pl2 : Plans := plans []
noncomputable def xf2 : XFunc := xOf Try.f2 pl2
theorem ff2 : FnFits Try.prog 2 xf2 := fnFits Try.func2 (by kernel_rfl)
def pl3 : Plans := plans [(6, [(0, []), (1, []), (2, []), (3, []), (4, []), (5, []), (6, []), (7, []), (8, []), (9, []), (10, []), (11, []), (12, []), (13, []), (14, []), (15, []), (16, []), (17, []), (18, []), (19, []), (21, []), (20, [21]), (22, []), (23, []), (24, []), (25, []), (26, []), (28, []), (27, [28]), (29, []), (30, []), (31, []), (32, [])]), (10, [(0, []), (1, []), (2, []), (3, []), (4, []), (5, []), (6, []), (7, []), (8, []), (9, []), (10, [])])]
noncomputable def xf3 : XFunc := xOf Try.f3 pl3
theorem ff3 : FnFits Try.prog 3 xf3 := fnFits Try.func3 (by kernel_rfl)
def pl4 : Plans := plans [(1, [(0, []), (1, []), (2, []), (4, []), (5, []), (3, [5, 4]), (6, []), (7, [])])]
noncomputable def xf4 : XFunc := xOf Try.f4 pl4
theorem ff4 : FnFits Try.prog 4 xf4 := fnFits Try.func4 (by kernel_rfl)
def pl5 : Plans := plans [(6, [(0, []), (1, []), (3, []), (4, []), (7, []), (2, [4, 3]), (5, []), (6, []), (8, [])])]
noncomputable def xf5 : XFunc := xOf Try.f5 pl5
theorem ff5 : FnFits Try.prog 5 xf5 := fnFits Try.func5 (by kernel_rfl)
def pl6 : Plans := plans [(7, [(0, []), (1, []), (2, []), (3, []), (4, []), (5, []), (6, []), (7, []), (8, []), (9, []), (10, []), (11, []), (12, []), (13, []), (14, [13, 12, 11, 10, 9, 8, 7, 6, 5, 4, 3, 2, 1]), (15, []), (16, []), (17, [])])]
noncomputable def xf6 : XFunc := xOf Try.f6 pl6
theorem ff6 : FnFits Try.prog 6 xf6 := fnFits Try.func6 (by kernel_rfl)
def pl7 : Plans := plans [(6, [(0, []), (1, []), (2, []), (3, []), (4, []), (5, []), (6, []), (7, []), (8, []), (9, []), (10, [])])]
noncomputable def xf7 : XFunc := xOf Try.f7 pl7
theorem ff7 : FnFits Try.prog 7 xf7 := fnFits Try.func7 (by kernel_rfl)
def pl8 : Plans := plans []
noncomputable def xf8 : XFunc := xOf Try.f8 pl8
theorem ff8 : FnFits Try.prog 8 xf8 := fnFits Try.func8 (by kernel_rfl)
def pl9 : Plans := plans []
noncomputable def xf9 : XFunc := xOf Try.f9 pl9
theorem ff9 : FnFits Try.prog 9 xf9 := fnFits Try.func9 (by kernel_rfl)
def pl10 : Plans := plans []
noncomputable def xf10 : XFunc := xOf Try.f10 pl10
theorem ff10 : FnFits Try.prog 10 xf10 := fnFits Try.func10 (by kernel_rfl)
def pl11 : Plans := plans []
noncomputable def xf11 : XFunc := xOf Try.f11 pl11
theorem ff11 : FnFits Try.prog 11 xf11 := fnFits Try.func11 (by kernel_rfl)
def pl12 : Plans := plans []
noncomputable def xf12 : XFunc := xOf Try.f12 pl12
theorem ff12 : FnFits Try.prog 12 xf12 := fnFits Try.func12 (by kernel_rfl)
def pl13 : Plans := plans [(1, [(0, []), (1, []), (2, []), (3, []), (4, []), (5, []), (6, []), (7, []), (8, []), (9, []), (10, []), (11, []), (12, [])])]
noncomputable def xf13 : XFunc := xOf Try.f13 pl13
theorem ff13 : FnFits Try.prog 13 xf13 := fnFits Try.func13 (by kernel_rfl)
def pl14 : Plans := plans []
noncomputable def xf14 : XFunc := xOf Try.f14 pl14
theorem ff14 : FnFits Try.prog 14 xf14 := fnFits Try.func14 (by kernel_rfl)
noncomputable def fns : Tab XFunc := (.node (.node (.node (.node .leaf (some xf7) .leaf) (some xf3) (.node .leaf (some xf11) .leaf)) none (.node (.node .leaf (some xf9) .leaf) (some xf5) (.node .leaf (some xf13) .leaf))) none (.node (.node (.node .leaf (some xf8) .leaf) (some xf4) (.node .leaf (some xf12) .leaf)) (some xf2) (.node (.node .leaf (some xf10) .leaf) (some xf6) (.node .leaf (some xf14) .leaf))))
theorem und : Tab.All (fun t i => Try.prog.underlying t = some i.desc) tys id := by unfold tys; exact (.none _ (.some _ _ (by kernel_rfl) (.some _ _ (by kernel_rfl) (.some _ _ (by kernel_rfl) (.some _ _ (by kernel_rfl) (.some _ _ (by kernel_rfl) (.leaf _) (.leaf _)) (.some _ _ (by kernel_rfl) (.leaf _) (.leaf _))) (.some _ _ (by kernel_rfl) (.some _ _ (by kernel_rfl) (.leaf _) (.leaf _)) (.some _ _ (by kernel_rfl) (.leaf _) (.leaf _)))) (.some _ _ (by kernel_rfl) (.some _ _ (by kernel_rfl) (.some _ _ (by kernel_rfl) (.leaf _) (.leaf _)) (.some _ _ (by kernel_rfl) (.leaf _) (.leaf _))) (.some _ _ (by kernel_rfl) (.some _ _ (by kernel_rfl) (.leaf _) (.leaf _)) (.leaf _)))) (.some _ _ (by kernel_rfl) (.some _ _ (by kernel_rfl) (.some _ _ (by kernel_rfl) (.some _ _ (by kernel_rfl) (.leaf _) (.leaf _)) (.some _ _ (by kernel_rfl) (.leaf _) (.leaf _))) (.some _ _ (by kernel_rfl) (.some _ _ (by kernel_rfl) (.leaf _) (.leaf _)) (.leaf _))) (.some _ _ (by kernel_rfl) (.some _ _ (by kernel_rfl) (.some _ _ (by kernel_rfl) (.leaf _) (.leaf _)) (.some _ _ (by kernel_rfl) (.leaf _) (.leaf _))) (.some _ _ (by kernel_rfl) (.some _ _ (by kernel_rfl) (.leaf _) (.leaf _)) (.leaf _))))) (.some _ _ (by kernel_rfl) (.some _ _ (by kernel_rfl) (.some _ _ (by kernel_rfl) (.some _ _ (by kernel_rfl) (.some _ _ (by kernel_rfl) (.leaf _) (.leaf _)) (.some _ _ (by kernel_rfl) (.leaf _) (.leaf _))) (.some _ _ (by kernel_rfl) (.some _ _ (by kernel_rfl) (.leaf _) (.leaf _)) (.some _ _ (by kernel_rfl) (.leaf _) (.leaf _)))) (.some _ _ (by kernel_rfl) (.some _ _ (by kernel_rfl) (.some _ _ (by kernel_rfl) (.leaf _) (.leaf _)) (.some _ _ (by kernel_rfl) (.leaf _) (.leaf _))) (.none _ (.some _ _ (by kernel_rfl) (.leaf _) (.leaf _)) (.leaf _)))) (.some _ _ (by kernel_rfl) (.some _ _ (by kernel_rfl) (.some _ _ (by kernel_rfl) (.some _ _ (by kernel_rfl) (.leaf _) (.leaf _)) (.some _ _ (by kernel_rfl) (.leaf _) (.leaf _))) (.some _ _ (by kernel_rfl) (.some _ _ (by kernel_rfl) (.leaf _) (.leaf _)) (.leaf _))) (.some _ _ (by kernel_rfl) (.some _ _ (by kernel_rfl) (.some _ _ (by kernel_rfl) (.leaf _) (.leaf _)) (.some _ _ (by kernel_rfl) (.leaf _) (.leaf _))) (.none _ (.some _ _ (by kernel_rfl) (.leaf _) (.leaf _)) (.leaf _))))))
theorem fits : tys.allB (fitB Try.prog) id = true := by kernel_rfl
theorem fnsAll : Tab.All (FnFits Try.prog) fns id := by unfold fns; exact (.none _ (.none _ (.some _ _ ff3 (.some _ _ ff7 (.leaf _) (.leaf _)) (.some _ _ ff11 (.leaf _) (.leaf _))) (.some _ _ ff5 (.some _ _ ff9 (.leaf _) (.leaf _)) (.some _ _ ff13 (.leaf _) (.leaf _)))) (.some _ _ ff2 (.some _ _ ff4 (.some _ _ ff8 (.leaf _) (.leaf _)) (.some _ _ ff12 (.leaf _) (.leaf _))) (.some _ _ ff6 (.some _ _ ff10 (.leaf _) (.leaf _)) (.some _ _ ff14 (.leaf _) (.leaf _)))))
noncomputable def cfg : Cfg := { ty := tys.get, code := fns.get, glob := fun _ => none, lit := fun _ => false, sum := fun _ => none }
theorem cfgOk : Cfg.Ok Try.prog cfg := plainOk (tysOk und fits) fnsAll (by kernel_rfl)
end Go.Proofs.Ytnfiamgpebkhfaa
