/- The tables of the program for the clean evaluation. -/
import Derived.Test.YtecoonecmmbggaaDoorChecked
import Derived.Test.YtecoonecmmbggaaDoorM6
import Derived.ProofKit
namespace Go.Proofs.YtecoonecmmbggaaDoor
open Go.Eng
noncomputable def ti1 : TI := { desc := Tryd.t1.desc, agg := false, size := 1, bytes := 8, zero := [.nilfunc], comparable := false, held := false, eqg := false }
noncomputable def ti2 : TI := { desc := .int .i64, agg := false, size := 1, bytes := 8, zero := [.int .i64 0], comparable := true, held := false, eqg := false }
noncomputable def ti3 : TI := { desc := .int .i64, agg := false, size := 1, bytes := 8, zero := [.int .i64 0], comparable := true, held := false, eqg := false }
noncomputable def ti4 : TI := { desc := .bool, agg := false, size := 1, bytes := 1, zero := [.bool false], comparable := true, held := false, eqg := false }
noncomputable def ti5 : TI := { desc := .int .u8, agg := false, size := 1, bytes := 1, zero := [.int .u8 0], comparable := true, held := false, eqg := false }
noncomputable def ti6 : TI := { desc := .int .u8, agg := false, size := 1, bytes := 1, zero := [.int .u8 0], comparable := true, held := false, eqg := false }
noncomputable def ti7 : TI := { desc := Tryd.t7.desc, agg := true, size := 4, bytes := 24, zero := [.int .i64 0, .int .i64 0, .bool false, .int .u8 0], comparable := true, held := false, eqg := false }
noncomputable def ti8 : TI := { desc := Tryd.t7.desc, agg := true, size := 4, bytes := 24, zero := [.int .i64 0, .int .i64 0, .bool false, .int .u8 0], comparable := true, held := false, eqg := false }
noncomputable def ti9 : TI := { desc := .string, agg := false, size := 1, bytes := 16, zero := [.str []], comparable := true, held := false, eqg := false }
noncomputable def ti10 : TI := { desc := .string, agg := false, size := 1, bytes := 16, zero := [.str []], comparable := true, held := false, eqg := false }
noncomputable def ti11 : TI := { desc := .string, agg := false, size := 1, bytes := 16, zero := [.str []], comparable := true, held := false, eqg := false }
noncomputable def ti12 : TI := { desc := .int .u64, agg := false, size := 1, bytes := 8, zero := [.int .u64 0], comparable := true, held := false, eqg := false }
noncomputable def ti13 : TI := { desc := Tryd.t13.desc, agg := true, size := 2, bytes := 24, zero := [.str [], .int .u64 0], comparable := true, held := true, eqg := false }
noncomputable def ti14 : TI := { desc := Tryd.t13.desc, agg := true, size := 2, bytes := 24, zero := [.str [], .int .u64 0], comparable := true, held := true, eqg := false }
noncomputable def ti15 : TI := { desc := .pointer 85, agg := false, size := 1, bytes := 8, zero := [.nilptr], comparable := true, held := false, eqg := false }
noncomputable def ti16 : TI := { desc := .pointer 88, agg := false, size := 1, bytes := 8, zero := [.nilptr], comparable := true, held := false, eqg := false }
noncomputable def ti17 : TI := { desc := .pointer 97, agg := false, size := 1, bytes := 8, zero := [.nilptr], comparable := true, held := false, eqg := false }
noncomputable def ti18 : TI := { desc := Tryd.t18.desc, agg := true, size := 1, bytes := 8, zero := [.nilptr], comparable := true, held := true, eqg := false }
noncomputable def ti19 : TI := { desc := Tryd.t18.desc, agg := true, size := 1, bytes := 8, zero := [.nilptr], comparable := true, held := true, eqg := false }
noncomputable def ti20 : TI := { desc := Tryd.t20.desc, agg := false, size := 1, bytes := 16, zero := [.niliface], comparable := true, held := false, eqg := false }
noncomputable def ti21 : TI := { desc := .int .i32, agg := false, size := 1, bytes := 4, zero := [.int .i32 0], comparable := true, held := false, eqg := false }
noncomputable def ti22 : TI := { desc := .slice 5, agg := false, size := 1, bytes := 24, zero := [.slice 0 [] none true], comparable := false, held := false, eqg := false }
noncomputable def ti23 : TI := { desc := .int .i64, agg := false, size := 1, bytes := 8, zero := [.int .i64 0], comparable := true, held := false, eqg := false }
noncomputable def ti25 : TI := { desc := Tryd.t25.desc, agg := false, size := 1, bytes := 8, zero := [.nilfunc], comparable := false, held := false, eqg := false }
noncomputable def ti27 : TI := { desc := Tryd.t27.desc, agg := false, size := 1, bytes := 8, zero := [.nilfunc], comparable := false, held := false, eqg := false }
noncomputable def ti28 : TI := { desc := .array 32 5, agg := true, size := 32, bytes := 32, zero := [.int .u8 0, .int .u8 0, .int .u8 0, .int .u8 0, .int .u8 0, .int .u8 0, .int .u8 0, .int .u8 0, .int .u8 0, .int .u8 0, .int .u8 0, .int .u8 0, .int .u8 0, .int .u8 0, .int .u8 0, .int .u8 0, .int .u8 0, .int .u8 0, .int .u8 0, .int .u8 0, .int .u8 0, .int .u8 0, .int .u8 0, .int .u8 0, .int .u8 0, .int .u8 0, .int .u8 0, .int .u8 0, .int .u8 0, .int .u8 0, .int .u8 0, .int .u8 0], comparable := true, held := false, eqg := false }
noncomputable def ti29 : TI := { desc := .array 32 5, agg := true, size := 32, bytes := 32, zero := [.int .u8 0, .int .u8 0, .int .u8 0, .int .u8 0, .int .u8 0, .int .u8 0, .int .u8 0, .int .u8 0, .int .u8 0, .int .u8 0, .int .u8 0, .int .u8 0, .int .u8 0, .int .u8 0, .int .u8 0, .int .u8 0, .int .u8 0, .int .u8 0, .int .u8 0, .int .u8 0, .int .u8 0, .int .u8 0, .int .u8 0, .int .u8 0, .int .u8 0, .int .u8 0, .int .u8 0, .int .u8 0, .int .u8 0, .int .u8 0, .int .u8 0, .int .u8 0], comparable := true, held := false, eqg := false }
noncomputable def ti31 : TI := { desc := Tryd.t31.desc, agg := false, size := 1, bytes := 8, zero := [.nilfunc], comparable := false, held := false, eqg := false }
noncomputable def ti33 : TI := { desc := Tryd.t33.desc, agg := false, size := 1, bytes := 8, zero := [.nilfunc], comparable := false, held := false, eqg := false }
noncomputable def ti34 : TI := { desc := Tryd.t34.desc, agg := false, size := 1, bytes := 8, zero := [.nilfunc], comparable := false, held := false, eqg := false }
noncomputable def ti35 : TI := { desc := Tryd.t35.desc, agg := false, size := 1, bytes := 8, zero := [.nilfunc], comparable := false, held := false, eqg := false }
noncomputable def ti36 : TI := { desc := Tryd.t36.desc, agg := false, size := 1, bytes := 8, zero := [.nilfunc], comparable := false, held := false, eqg := false }
noncomputable def ti37 : TI := { desc := .int .u64, agg := false, size := 1, bytes := 8, zero := [.int .u64 0], comparable := true, held := false, eqg := false }
noncomputable def ti38 : TI := { desc := .slice 37, agg := false, size := 1, bytes := 24, zero := [.slice 0 [] none true], comparable := false, held := false, eqg := false }
noncomputable def ti39 : TI := { desc := .slice 3, agg := false, size := 1, bytes := 24, zero := [.slice 0 [] none true], comparable := false, held := false, eqg := false }
noncomputable def ti40 : TI := { desc := Tryd.t40.desc, agg := false, size := 1, bytes := 8, zero := [.nilfunc], comparable := false, held := false, eqg := false }
noncomputable def ti41 : TI := { desc := Tryd.t41.desc, agg := false, size := 1, bytes := 8, zero := [.nilfunc], comparable := false, held := false, eqg := false }
noncomputable def ti42 : TI := { desc := Tryd.t42.desc, agg := false, size := 1, bytes := 8, zero := [.nilfunc], comparable := false, held := false, eqg := false }
noncomputable def ti43 : TI := { desc := Tryd.t43.desc, agg := false, size := 1, bytes := 8, zero := [.nilfunc], comparable := false, held := false, eqg := false }
noncomputable def ti44 : TI := { desc := Tryd.t44.desc, agg := false, size := 1, bytes := 8, zero := [.nilfunc], comparable := false, held := false, eqg := false }
noncomputable def ti46 : TI := { desc := Tryd.t46.desc, agg := false, size := 1, bytes := 8, zero := [.nilfunc], comparable := false, held := false, eqg := false }
noncomputable def ti47 : TI := { desc := Tryd.t47.desc, agg := false, size := 1, bytes := 8, zero := [.nilfunc], comparable := false, held := false, eqg := false }
noncomputable def ti48 : TI := { desc := Tryd.t48.desc, agg := false, size := 1, bytes := 8, zero := [.nilfunc], comparable := false, held := false, eqg := false }
noncomputable def ti49 : TI := { desc := .slice 22, agg := false, size := 1, bytes := 24, zero := [.slice 0 [] none true], comparable := false, held := false, eqg := false }
noncomputable def ti51 : TI := { desc := Tryd.t51.desc, agg := false, size := 1, bytes := 8, zero := [.nilfunc], comparable := false, held := false, eqg := false }
noncomputable def ti52 : TI := { desc := .int .u32, agg := false, size := 1, bytes := 4, zero := [.int .u32 0], comparable := true, held := false, eqg := false }
noncomputable def ti53 : TI := { desc := .array 8 52, agg := true, size := 8, bytes := 32, zero := [.int .u32 0, .int .u32 0, .int .u32 0, .int .u32 0, .int .u32 0, .int .u32 0, .int .u32 0, .int .u32 0], comparable := true, held := false, eqg := false }
noncomputable def ti54 : TI := { desc := Tryd.t54.desc, agg := true, size := 10, bytes := 64, zero := [.int .u32 0, .int .u32 0, .int .u32 0, .int .u32 0, .int .u32 0, .int .u32 0, .int .u32 0, .int .u32 0, .slice 0 [] none true, .int .u64 0], comparable := false, held := false, eqg := false }
noncomputable def ti55 : TI := { desc := Tryd.t54.desc, agg := true, size := 10, bytes := 64, zero := [.int .u32 0, .int .u32 0, .int .u32 0, .int .u32 0, .int .u32 0, .int .u32 0, .int .u32 0, .int .u32 0, .slice 0 [] none true, .int .u64 0], comparable := false, held := false, eqg := false }
noncomputable def ti56 : TI := { desc := Tryd.t56.desc, agg := false, size := 1, bytes := 8, zero := [.nilfunc], comparable := false, held := false, eqg := false }
noncomputable def ti58 : TI := { desc := Tryd.t58.desc, agg := false, size := 1, bytes := 8, zero := [.nilfunc], comparable := false, held := false, eqg := false }
noncomputable def ti59 : TI := { desc := Tryd.t59.desc, agg := false, size := 1, bytes := 8, zero := [.nilfunc], comparable := false, held := false, eqg := false }
noncomputable def ti60 : TI := { desc := Tryd.t60.desc, agg := false, size := 1, bytes := 8, zero := [.nilfunc], comparable := false, held := false, eqg := false }
noncomputable def ti61 : TI := { desc := Tryd.t61.desc, agg := false, size := 1, bytes := 8, zero := [.nilfunc], comparable := false, held := false, eqg := false }
noncomputable def ti62 : TI := { desc := Tryd.t62.desc, agg := false, size := 1, bytes := 8, zero := [.nilfunc], comparable := false, held := false, eqg := false }
noncomputable def ti63 : TI := { desc := Tryd.t63.desc, agg := false, size := 1, bytes := 8, zero := [.nilfunc], comparable := false, held := false, eqg := false }
noncomputable def ti64 : TI := { desc := .array 64 5, agg := true, size := 64, bytes := 64, zero := [.int .u8 0, .int .u8 0, .int .u8 0, .int .u8 0, .int .u8 0, .int .u8 0, .int .u8 0, .int .u8 0, .int .u8 0, .int .u8 0, .int .u8 0, .int .u8 0, .int .u8 0, .int .u8 0, .int .u8 0, .int .u8 0, .int .u8 0, .int .u8 0, .int .u8 0, .int .u8 0, .int .u8 0, .int .u8 0, .int .u8 0, .int .u8 0, .int .u8 0, .int .u8 0, .int .u8 0, .int .u8 0, .int .u8 0, .int .u8 0, .int .u8 0, .int .u8 0, .int .u8 0, .int .u8 0, .int .u8 0, .int .u8 0, .int .u8 0, .int .u8 0, .int .u8 0, .int .u8 0, .int .u8 0, .int .u8 0, .int .u8 0, .int .u8 0, .int .u8 0, .int .u8 0, .int .u8 0, .int .u8 0, .int .u8 0, .int .u8 0, .int .u8 0, .int .u8 0, .int .u8 0, .int .u8 0, .int .u8 0, .int .u8 0, .int .u8 0, .int .u8 0, .int .u8 0, .int .u8 0, .int .u8 0, .int .u8 0, .int .u8 0, .int .u8 0], comparable := true, held := false, eqg := false }
noncomputable def ti65 : TI := { desc := Tryd.t65.desc, agg := false, size := 1, bytes := 8, zero := [.nilfunc], comparable := false, held := false, eqg := false }
noncomputable def ti66 : TI := { desc := Tryd.t66.desc, agg := false, size := 1, bytes := 8, zero := [.nilfunc], comparable := false, held := false, eqg := false }
noncomputable def ti67 : TI := { desc := Tryd.t67.desc, agg := false, size := 1, bytes := 8, zero := [.nilfunc], comparable := false, held := false, eqg := false }
noncomputable def ti68 : TI := { desc := Tryd.t68.desc, agg := false, size := 1, bytes := 8, zero := [.nilfunc], comparable := false, held := false, eqg := false }
noncomputable def ti69 : TI := { desc := Tryd.t69.desc, agg := false, size := 1, bytes := 8, zero := [.nilfunc], comparable := false, held := false, eqg := false }
noncomputable def ti70 : TI := { desc := .array 64 52, agg := true, size := 64, bytes := 256, zero := [.int .u32 0, .int .u32 0, .int .u32 0, .int .u32 0, .int .u32 0, .int .u32 0, .int .u32 0, .int .u32 0, .int .u32 0, .int .u32 0, .int .u32 0, .int .u32 0, .int .u32 0, .int .u32 0, .int .u32 0, .int .u32 0, .int .u32 0, .int .u32 0, .int .u32 0, .int .u32 0, .int .u32 0, .int .u32 0, .int .u32 0, .int .u32 0, .int .u32 0, .int .u32 0, .int .u32 0, .int .u32 0, .int .u32 0, .int .u32 0, .int .u32 0, .int .u32 0, .int .u32 0, .int .u32 0, .int .u32 0, .int .u32 0, .int .u32 0, .int .u32 0, .int .u32 0, .int .u32 0, .int .u32 0, .int .u32 0, .int .u32 0, .int .u32 0, .int .u32 0, .int .u32 0, .int .u32 0, .int .u32 0, .int .u32 0, .int .u32 0, .int .u32 0, .int .u32 0, .int .u32 0, .int .u32 0, .int .u32 0, .int .u32 0, .int .u32 0, .int .u32 0, .int .u32 0, .int .u32 0, .int .u32 0, .int .u32 0, .int .u32 0, .int .u32 0], comparable := true, held := false, eqg := false }
noncomputable def ti71 : TI := { desc := Tryd.t71.desc, agg := false, size := 1, bytes := 8, zero := [.nilfunc], comparable := false, held := false, eqg := false }
noncomputable def ti72 : TI := { desc := Tryd.t72.desc, agg := false, size := 1, bytes := 8, zero := [.nilfunc], comparable := false, held := false, eqg := false }
noncomputable def ti73 : TI := { desc := .int .u64, agg := false, size := 1, bytes := 8, zero := [.int .u64 0], comparable := true, held := false, eqg := false }
noncomputable def ti74 : TI := { desc := Tryd.t74.desc, agg := false, size := 1, bytes := 8, zero := [.nilfunc], comparable := false, held := false, eqg := false }
noncomputable def ti75 : TI := { desc := .array 3 3, agg := true, size := 3, bytes := 24, zero := [.int .i64 0, .int .i64 0, .int .i64 0], comparable := true, held := false, eqg := false }
noncomputable def ti76 : TI := { desc := Tryd.t76.desc, agg := true, size := 4, bytes := 32, zero := [.int .i64 0, .int .i64 0, .int .i64 0, .bool false], comparable := true, held := false, eqg := false }
noncomputable def ti77 : TI := { desc := Tryd.t76.desc, agg := true, size := 4, bytes := 32, zero := [.int .i64 0, .int .i64 0, .int .i64 0, .bool false], comparable := true, held := false, eqg := false }
noncomputable def ti78 : TI := { desc := Tryd.t78.desc, agg := false, size := 1, bytes := 8, zero := [.nilfunc], comparable := false, held := false, eqg := false }
noncomputable def ti79 : TI := { desc := Tryd.t79.desc, agg := false, size := 1, bytes := 8, zero := [.nilfunc], comparable := false, held := false, eqg := false }
noncomputable def ti80 : TI := { desc := Tryd.t80.desc, agg := false, size := 1, bytes := 8, zero := [.nilfunc], comparable := false, held := false, eqg := false }
noncomputable def ti81 : TI := { desc := Tryd.t81.desc, agg := false, size := 1, bytes := 8, zero := [.nilfunc], comparable := false, held := false, eqg := false }
noncomputable def ti82 : TI := { desc := Tryd.t82.desc, agg := false, size := 1, bytes := 8, zero := [.nilfunc], comparable := false, held := false, eqg := false }
noncomputable def ti83 : TI := { desc := Tryd.t83.desc, agg := false, size := 1, bytes := 8, zero := [.nilfunc], comparable := false, held := false, eqg := false }
noncomputable def ti84 : TI := { desc := Tryd.t84.desc, agg := true, size := 4, bytes := 40, zero := [.nilptr, .nilptr, .nilptr, .str []], comparable := true, held := true, eqg := false }
noncomputable def ti85 : TI := { desc := Tryd.t84.desc, agg := true, size := 4, bytes := 40, zero := [.nilptr, .nilptr, .nilptr, .str []], comparable := true, held := true, eqg := false }
noncomputable def ti86 : TI := { desc := .array 0 16, agg := true, size := 0, bytes := 0, zero := [], comparable := true, held := false, eqg := false }
noncomputable def ti87 : TI := { desc := Tryd.t87.desc, agg := true, size := 0, bytes := 0, zero := [], comparable := true, held := true, eqg := false }
noncomputable def ti88 : TI := { desc := Tryd.t87.desc, agg := true, size := 0, bytes := 0, zero := [], comparable := true, held := true, eqg := false }
noncomputable def ti89 : TI := { desc := Tryd.t89.desc, agg := false, size := 1, bytes := 8, zero := [.nilfunc], comparable := false, held := false, eqg := false }
noncomputable def ti90 : TI := { desc := .int .u8, agg := false, size := 1, bytes := 1, zero := [.int .u8 0], comparable := true, held := false, eqg := false }
noncomputable def ti91 : TI := { desc := .int .u8, agg := false, size := 1, bytes := 1, zero := [.int .u8 0], comparable := true, held := false, eqg := false }
noncomputable def ti92 : TI := { desc := Tryd.t92.desc, agg := false, size := 1, bytes := 8, zero := [.nilfunc], comparable := false, held := false, eqg := false }
noncomputable def ti93 : TI := { desc := .pointer 5, agg := false, size := 1, bytes := 8, zero := [.nilptr], comparable := true, held := false, eqg := false }
noncomputable def ti94 : TI := { desc := .int .i32, agg := false, size := 1, bytes := 4, zero := [.int .i32 0], comparable := true, held := false, eqg := false }
noncomputable def ti95 : TI := { desc := .int .i32, agg := false, size := 1, bytes := 4, zero := [.int .i32 0], comparable := true, held := false, eqg := false }
noncomputable def ti96 : TI := { desc := Tryd.t96.desc, agg := true, size := 11, bytes := 48, zero := [.int .u64 0, .int .u64 0, .int .u32 0, .int .u8 0, .int .u8 0, .int .u8 0, .int .u8 0, .nilfunc, .nilptr, .int .i32 0, .int .i32 0], comparable := false, held := true, eqg := false }
noncomputable def ti97 : TI := { desc := Tryd.t96.desc, agg := true, size := 11, bytes := 48, zero := [.int .u64 0, .int .u64 0, .int .u32 0, .int .u8 0, .int .u8 0, .int .u8 0, .int .u8 0, .nilfunc, .nilptr, .int .i32 0, .int .i32 0], comparable := false, held := true, eqg := false }
noncomputable def ti98 : TI := { desc := .unsafePointer, agg := false, size := 1, bytes := 8, zero := [.nilptr], comparable := true, held := false, eqg := false }
noncomputable def tys : Tab TI := (.node (.node (.node (.node (.node (.node (.node .leaf (some ti63) .leaf) (some ti31) (.node .leaf (some ti95) .leaf)) (some ti15) (.node (.node .leaf (some ti79) .leaf) (some ti47) .leaf)) (some ti7) (.node (.node (.node .leaf (some ti71) .leaf) (some ti39) .leaf) (some ti23) (.node (.node .leaf (some ti87) .leaf) (some ti55) .leaf))) (some ti3) (.node (.node (.node (.node .leaf (some ti67) .leaf) (some ti35) .leaf) (some ti19) (.node (.node .leaf (some ti83) .leaf) (some ti51) .leaf)) (some ti11) (.node (.node (.node .leaf (some ti75) .leaf) (some ti43) .leaf) (some ti27) (.node (.node .leaf (some ti91) .leaf) (some ti59) .leaf)))) (some ti1) (.node (.node (.node (.node (.node .leaf (some ti65) .leaf) (some ti33) (.node .leaf (some ti97) .leaf)) (some ti17) (.node (.node .leaf (some ti81) .leaf) (some ti49) .leaf)) (some ti9) (.node (.node (.node .leaf (some ti73) .leaf) (some ti41) .leaf) (some ti25) (.node (.node .leaf (some ti89) .leaf) none .leaf))) (some ti5) (.node (.node (.node (.node .leaf (some ti69) .leaf) (some ti37) .leaf) (some ti21) (.node (.node .leaf (some ti85) .leaf) (some ti53) .leaf)) (some ti13) (.node (.node (.node .leaf (some ti77) .leaf) none .leaf) (some ti29) (.node (.node .leaf (some ti93) .leaf) (some ti61) .leaf))))) none (.node (.node (.node (.node (.node (.node .leaf (some ti64) .leaf) none (.node .leaf (some ti96) .leaf)) (some ti16) (.node (.node .leaf (some ti80) .leaf) (some ti48) .leaf)) (some ti8) (.node (.node (.node .leaf (some ti72) .leaf) (some ti40) .leaf) none (.node (.node .leaf (some ti88) .leaf) (some ti56) .leaf))) (some ti4) (.node (.node (.node (.node .leaf (some ti68) .leaf) (some ti36) .leaf) (some ti20) (.node (.node .leaf (some ti84) .leaf) (some ti52) .leaf)) (some ti12) (.node (.node (.node .leaf (some ti76) .leaf) (some ti44) .leaf) (some ti28) (.node (.node .leaf (some ti92) .leaf) (some ti60) .leaf)))) (some ti2) (.node (.node (.node (.node (.node .leaf (some ti66) .leaf) (some ti34) (.node .leaf (some ti98) .leaf)) (some ti18) (.node (.node .leaf (some ti82) .leaf) none .leaf)) (some ti10) (.node (.node (.node .leaf (some ti74) .leaf) (some ti42) .leaf) none (.node (.node .leaf (some ti90) .leaf) (some ti58) .leaf))) (some ti6) (.node (.node (.node (.node .leaf (some ti70) .leaf) (some ti38) .leaf) (some ti22) (.node (.node .leaf (some ti86) .leaf) (some ti54) .leaf)) (some ti14) (.node (.node (.node .leaf (some ti78) .leaf) (some ti46) .leaf) none (.node (.node .leaf (some ti94) .leaf) (some ti62) .leaf))))))
def plans (l : List (Nat × List (Nat × List Nat))) : Plans := fun i => match l.find? (fun p => p.1 == i) with
  | some p => p.2
  | none => []
def pl2 : Plans := plans []
noncomputable def xf2 : XFunc := xOf Tryd.f2 pl2
theorem ff2 : FnFits Tryd.prog 2 xf2 := fnFits Tryd.func2 (by kernel_rfl)
def pl3 : Plans := plans []
noncomputable def xf3 : XFunc := xOf Tryd.f3 pl3
theorem ff3 : FnFits Tryd.prog 3 xf3 := fnFits Tryd.func3 (by kernel_rfl)
def pl4 : Plans := plans []
noncomputable def xf4 : XFunc := xOf Tryd.f4 pl4
theorem ff4 : FnFits Tryd.prog 4 xf4 := fnFits Tryd.func4 (by kernel_rfl)
def pl5 : Plans := plans []
noncomputable def xf5 : XFunc := xOf Tryd.f5 pl5
theorem ff5 : FnFits Tryd.prog 5 xf5 := fnFits Tryd.func5 (by kernel_rfl)
def pl6 : Plans := plans []
noncomputable def xf6 : XFunc := xOf Tryd.f6 pl6
theorem ff6 : FnFits Tryd.prog 6 xf6 := fnFits Tryd.func6 (by kernel_rfl)
def pl7 : Plans := plans []
noncomputable def xf7 : XFunc := xOf Tryd.f7 pl7
theorem ff7 : FnFits Tryd.prog 7 xf7 := fnFits Tryd.func7 (by kernel_rfl)
def pl8 : Plans := plans []
noncomputable def xf8 : XFunc := xOf Tryd.f8 pl8
theorem ff8 : FnFits Tryd.prog 8 xf8 := fnFits Tryd.func8 (by kernel_rfl)
def pl9 : Plans := plans []
noncomputable def xf9 : XFunc := xOf Tryd.f9 pl9
theorem ff9 : FnFits Tryd.prog 9 xf9 := fnFits Tryd.func9 (by kernel_rfl)
def pl10 : Plans := plans []
noncomputable def xf10 : XFunc := xOf Tryd.f10 pl10
theorem ff10 : FnFits Tryd.prog 10 xf10 := fnFits Tryd.func10 (by kernel_rfl)
def pl11 : Plans := plans []
noncomputable def xf11 : XFunc := xOf Tryd.f11 pl11
theorem ff11 : FnFits Tryd.prog 11 xf11 := fnFits Tryd.func11 (by kernel_rfl)
def pl12 : Plans := plans []
noncomputable def xf12 : XFunc := xOf Tryd.f12 pl12
theorem ff12 : FnFits Tryd.prog 12 xf12 := fnFits Tryd.func12 (by kernel_rfl)
def pl13 : Plans := plans []
noncomputable def xf13 : XFunc := xOf Tryd.f13 pl13
theorem ff13 : FnFits Tryd.prog 13 xf13 := fnFits Tryd.func13 (by kernel_rfl)
def pl14 : Plans := plans []
noncomputable def xf14 : XFunc := xOf Tryd.f14 pl14
theorem ff14 : FnFits Tryd.prog 14 xf14 := fnFits Tryd.func14 (by kernel_rfl)
def pl15 : Plans := plans []
noncomputable def xf15 : XFunc := xOf Tryd.f15 pl15
theorem ff15 : FnFits Tryd.prog 15 xf15 := fnFits Tryd.func15 (by kernel_rfl)
def pl16 : Plans := plans []
noncomputable def xf16 : XFunc := xOf Tryd.f16 pl16
theorem ff16 : FnFits Tryd.prog 16 xf16 := fnFits Tryd.func16 (by kernel_rfl)
def pl17 : Plans := plans []
noncomputable def xf17 : XFunc := xOf Tryd.f17 pl17
theorem ff17 : FnFits Tryd.prog 17 xf17 := fnFits Tryd.func17 (by kernel_rfl)
def pl18 : Plans := plans []
noncomputable def xf18 : XFunc := xOf Tryd.f18 pl18
theorem ff18 : FnFits Tryd.prog 18 xf18 := fnFits Tryd.func18 (by kernel_rfl)
def pl19 : Plans := plans []
noncomputable def xf19 : XFunc := xOf Tryd.f19 pl19
theorem ff19 : FnFits Tryd.prog 19 xf19 := fnFits Tryd.func19 (by kernel_rfl)
def pl20 : Plans := plans []
noncomputable def xf20 : XFunc := xOf Tryd.f20 pl20
theorem ff20 : FnFits Tryd.prog 20 xf20 := fnFits Tryd.func20 (by kernel_rfl)
def pl21 : Plans := plans [(8, [(0, []), (1, []), (2, []), (3, []), (4, [])])]
noncomputable def xf21 : XFunc := xOf Tryd.f21 pl21
theorem ff21 : FnFits Tryd.prog 21 xf21 := fnFits Tryd.func21 (by kernel_rfl)
def pl22 : Plans := plans [(6, [(0, []), (1, []), (2, []), (3, []), (4, [])])]
noncomputable def xf22 : XFunc := xOf Tryd.f22 pl22
theorem ff22 : FnFits Tryd.prog 22 xf22 := fnFits Tryd.func22 (by kernel_rfl)
def pl23 : Plans := plans []
noncomputable def xf23 : XFunc := xOf Tryd.f23 pl23
theorem ff23 : FnFits Tryd.prog 23 xf23 := fnFits Tryd.func23 (by kernel_rfl)
def pl24 : Plans := plans []
noncomputable def xf24 : XFunc := xOf Tryd.f24 pl24
theorem ff24 : FnFits Tryd.prog 24 xf24 := fnFits Tryd.func24 (by kernel_rfl)
def pl25 : Plans := plans []
noncomputable def xf25 : XFunc := xOf Tryd.f25 pl25
theorem ff25 : FnFits Tryd.prog 25 xf25 := fnFits Tryd.func25 (by kernel_rfl)
def pl26 : Plans := plans []
noncomputable def xf26 : XFunc := xOf Tryd.f26 pl26
theorem ff26 : FnFits Tryd.prog 26 xf26 := fnFits Tryd.func26 (by kernel_rfl)
def pl27 : Plans := plans [(6, [(0, []), (1, []), (2, []), (3, []), (4, []), (5, []), (6, []), (7, []), (8, []), (9, [])]), (11, [(0, []), (1, []), (2, []), (3, []), (4, []), (5, []), (6, []), (7, []), (8, [])])]
noncomputable def xf27 : XFunc := xOf Tryd.f27 pl27
theorem ff27 : FnFits Tryd.prog 27 xf27 := fnFits Tryd.func27 (by kernel_rfl)
def pl28 : Plans := plans []
noncomputable def xf28 : XFunc := xOf Tryd.f28 pl28
theorem ff28 : FnFits Tryd.prog 28 xf28 := fnFits Tryd.func28 (by kernel_rfl)
def pl29 : Plans := plans []
noncomputable def xf29 : XFunc := xOf Tryd.f29 pl29
theorem ff29 : FnFits Tryd.prog 29 xf29 := fnFits Tryd.func29 (by kernel_rfl)
def pl30 : Plans := plans [(11, [(0, []), (1, []), (2, []), (3, []), (4, [])])]
noncomputable def xf30 : XFunc := xOf Tryd.f30 pl30
theorem ff30 : FnFits Tryd.prog 30 xf30 := fnFits Tryd.func30 (by kernel_rfl)
def pl31 : Plans := plans [(3, [(0, []), (1, []), (2, []), (3, []), (4, []), (5, []), (6, [])])]
noncomputable def xf31 : XFunc := xOf Tryd.f31 pl31
theorem ff31 : FnFits Tryd.prog 31 xf31 := fnFits Tryd.func31 (by kernel_rfl)
def pl32 : Plans := plans []
noncomputable def xf32 : XFunc := xOf Tryd.f32 pl32
theorem ff32 : FnFits Tryd.prog 32 xf32 := fnFits Tryd.func32 (by kernel_rfl)
def pl33 : Plans := plans [(8, [(0, []), (1, []), (2, []), (3, []), (4, []), (5, []), (6, []), (7, []), (8, []), (9, []), (10, []), (11, []), (12, []), (13, []), (14, []), (15, []), (16, []), (17, []), (18, []), (19, []), (20, []), (21, []), (22, []), (23, []), (24, []), (25, []), (26, []), (27, []), (28, []), (29, []), (30, []), (31, [])]), (9, [(0, []), (1, []), (2, []), (3, []), (4, []), (5, []), (6, []), (7, []), (8, []), (9, []), (10, []), (11, []), (12, []), (13, []), (14, []), (17, []), (18, []), (19, []), (20, []), (21, []), (15, [21, 20, 19, 17, 9, 8, 7, 6, 4, 3, 2]), (16, []), (22, [16, 9, 8, 7, 6, 4, 3, 2]), (23, []), (24, []), (25, [])])]
noncomputable def xf33 : XFunc := xOf Tryd.f33 pl33
theorem ff33 : FnFits Tryd.prog 33 xf33 := fnFits Tryd.func33 (by kernel_rfl)
def pl34 : Plans := plans [(1, [(0, []), (1, []), (2, []), (3, []), (4, []), (5, []), (6, []), (7, []), (8, []), (9, []), (10, []), (11, []), (12, []), (13, []), (14, []), (15, []), (16, []), (17, []), (18, []), (19, []), (20, []), (21, []), (22, []), (23, [])])]
noncomputable def xf34 : XFunc := xOf Tryd.f34 pl34
theorem ff34 : FnFits Tryd.prog 34 xf34 := fnFits Tryd.func34 (by kernel_rfl)
def pl35 : Plans := plans [(9, [(0, []), (1, []), (2, []), (4, []), (7, []), (11, []), (13, []), (14, []), (15, []), (17, []), (18, []), (19, []), (3, [19, 18, 15, 14, 1, 0]), (5, [19, 18, 15, 14, 1, 0]), (6, []), (8, [6, 19, 18, 15, 14, 1, 0]), (9, []), (10, []), (12, []), (16, []), (20, []), (21, [])]), (17, [(0, []), (1, []), (2, []), (3, []), (4, []), (5, []), (6, []), (7, []), (8, []), (9, [])])]
noncomputable def xf35 : XFunc := xOf Tryd.f35 pl35
theorem ff35 : FnFits Tryd.prog 35 xf35 := fnFits Tryd.func35 (by kernel_rfl)
def pl36 : Plans := plans [(4, [(0, []), (1, []), (2, []), (3, []), (4, []), (6, []), (7, []), (8, []), (9, []), (10, []), (13, []), (5, [9, 8, 7]), (11, []), (12, []), (14, []), (15, [])])]
noncomputable def xf36 : XFunc := xOf Tryd.f36 pl36
theorem ff36 : FnFits Tryd.prog 36 xf36 := fnFits Tryd.func36 (by kernel_rfl)
def pl37 : Plans := plans []
noncomputable def xf37 : XFunc := xOf Tryd.f37 pl37
theorem ff37 : FnFits Tryd.prog 37 xf37 := fnFits Tryd.func37 (by kernel_rfl)
def pl38 : Plans := plans [(5, [(0, []), (1, []), (2, []), (3, []), (4, []), (5, []), (6, []), (7, []), (8, []), (9, []), (10, []), (11, []), (12, []), (13, []), (14, []), (15, []), (16, []), (17, []), (18, []), (19, []), (20, []), (21, []), (22, []), (23, []), (24, []), (25, []), (26, []), (27, []), (28, []), (29, []), (30, []), (31, []), (32, []), (33, []), (34, []), (35, [])]), (13, [(0, []), (1, []), (2, []), (3, []), (4, []), (5, []), (6, []), (7, []), (8, []), (9, []), (10, []), (11, []), (12, []), (13, []), (14, []), (15, [])])]
noncomputable def xf38 : XFunc := xOf Tryd.f38 pl38
theorem ff38 : FnFits Tryd.prog 38 xf38 := fnFits Tryd.func38 (by kernel_rfl)
def pl39 : Plans := plans []
noncomputable def xf39 : XFunc := xOf Tryd.f39 pl39
theorem ff39 : FnFits Tryd.prog 39 xf39 := fnFits Tryd.func39 (by kernel_rfl)
def pl40 : Plans := plans []
noncomputable def xf40 : XFunc := xOf Tryd.f40 pl40
theorem ff40 : FnFits Tryd.prog 40 xf40 := fnFits Tryd.func40 (by kernel_rfl)
def pl61 : Plans := plans []
noncomputable def xf61 : XFunc := xOf Tryd.f61 pl61
theorem ff61 : FnFits Tryd.prog 61 xf61 := fnFits Tryd.func61 (by kernel_rfl)
noncomputable def fns : Tab XFunc := (.node (.node (.node (.node (.node (.node .leaf (some xf31) .leaf) (some xf15) .leaf) (some xf7) (.node (.node .leaf (some xf39) .leaf) (some xf23) .leaf)) (some xf3) (.node (.node (.node .leaf (some xf35) .leaf) (some xf19) .leaf) (some xf11) (.node .leaf (some xf27) .leaf))) none (.node (.node (.node (.node .leaf (some xf33) .leaf) (some xf17) .leaf) (some xf9) (.node .leaf (some xf25) .leaf)) (some xf5) (.node (.node (.node .leaf (some xf37) .leaf) (some xf21) .leaf) (some xf13) (.node .leaf (some xf29) (.node .leaf (some xf61) .leaf))))) none (.node (.node (.node (.node (.node .leaf (some xf32) .leaf) (some xf16) .leaf) (some xf8) (.node (.node .leaf (some xf40) .leaf) (some xf24) .leaf)) (some xf4) (.node (.node (.node .leaf (some xf36) .leaf) (some xf20) .leaf) (some xf12) (.node .leaf (some xf28) .leaf))) (some xf2) (.node (.node (.node (.node .leaf (some xf34) .leaf) (some xf18) .leaf) (some xf10) (.node .leaf (some xf26) .leaf)) (some xf6) (.node (.node (.node .leaf (some xf38) .leaf) (some xf22) .leaf) (some xf14) (.node .leaf (some xf30) .leaf)))))
theorem und : Tab.All (fun t i => Tryd.prog.underlying t = some i.desc) tys id := by unfold tys; exact (.none _ (.some _ _ (by kernel_rfl) (.some _ _ (by kernel_rfl) (.some _ _ (by kernel_rfl) (.some _ _ (by kernel_rfl) (.some _ _ (by kernel_rfl) (.some _ _ (by kernel_rfl) (.leaf _) (.leaf _)) (.some _ _ (by kernel_rfl) (.leaf _) (.leaf _))) (.some _ _ (by kernel_rfl) (.some _ _ (by kernel_rfl) (.leaf _) (.leaf _)) (.leaf _))) (.some _ _ (by kernel_rfl) (.some _ _ (by kernel_rfl) (.some _ _ (by kernel_rfl) (.leaf _) (.leaf _)) (.leaf _)) (.some _ _ (by kernel_rfl) (.some _ _ (by kernel_rfl) (.leaf _) (.leaf _)) (.leaf _)))) (.some _ _ (by kernel_rfl) (.some _ _ (by kernel_rfl) (.some _ _ (by kernel_rfl) (.some _ _ (by kernel_rfl) (.leaf _) (.leaf _)) (.leaf _)) (.some _ _ (by kernel_rfl) (.some _ _ (by kernel_rfl) (.leaf _) (.leaf _)) (.leaf _))) (.some _ _ (by kernel_rfl) (.some _ _ (by kernel_rfl) (.some _ _ (by kernel_rfl) (.leaf _) (.leaf _)) (.leaf _)) (.some _ _ (by kernel_rfl) (.some _ _ (by kernel_rfl) (.leaf _) (.leaf _)) (.leaf _))))) (.some _ _ (by kernel_rfl) (.some _ _ (by kernel_rfl) (.some _ _ (by kernel_rfl) (.some _ _ (by kernel_rfl) (.some _ _ (by kernel_rfl) (.leaf _) (.leaf _)) (.some _ _ (by kernel_rfl) (.leaf _) (.leaf _))) (.some _ _ (by kernel_rfl) (.some _ _ (by kernel_rfl) (.leaf _) (.leaf _)) (.leaf _))) (.some _ _ (by kernel_rfl) (.some _ _ (by kernel_rfl) (.some _ _ (by kernel_rfl) (.leaf _) (.leaf _)) (.leaf _)) (.none _ (.some _ _ (by kernel_rfl) (.leaf _) (.leaf _)) (.leaf _)))) (.some _ _ (by kernel_rfl) (.some _ _ (by kernel_rfl) (.some _ _ (by kernel_rfl) (.some _ _ (by kernel_rfl) (.leaf _) (.leaf _)) (.leaf _)) (.some _ _ (by kernel_rfl) (.some _ _ (by kernel_rfl) (.leaf _) (.leaf _)) (.leaf _))) (.some _ _ (by kernel_rfl) (.none _ (.some _ _ (by kernel_rfl) (.leaf _) (.leaf _)) (.leaf _)) (.some _ _ (by kernel_rfl) (.some _ _ (by kernel_rfl) (.leaf _) (.leaf _)) (.leaf _)))))) (.some _ _ (by kernel_rfl) (.some _ _ (by kernel_rfl) (.some _ _ (by kernel_rfl) (.some _ _ (by kernel_rfl) (.none _ (.some _ _ (by kernel_rfl) (.leaf _) (.leaf _)) (.some _ _ (by kernel_rfl) (.leaf _) (.leaf _))) (.some _ _ (by kernel_rfl) (.some _ _ (by kernel_rfl) (.leaf _) (.leaf _)) (.leaf _))) (.none _ (.some _ _ (by kernel_rfl) (.some _ _ (by kernel_rfl) (.leaf _) (.leaf _)) (.leaf _)) (.some _ _ (by kernel_rfl) (.some _ _ (by kernel_rfl) (.leaf _) (.leaf _)) (.leaf _)))) (.some _ _ (by kernel_rfl) (.some _ _ (by kernel_rfl) (.some _ _ (by kernel_rfl) (.some _ _ (by kernel_rfl) (.leaf _) (.leaf _)) (.leaf _)) (.some _ _ (by kernel_rfl) (.some _ _ (by kernel_rfl) (.leaf _) (.leaf _)) (.leaf _))) (.some _ _ (by kernel_rfl) (.some _ _ (by kernel_rfl) (.some _ _ (by kernel_rfl) (.leaf _) (.leaf _)) (.leaf _)) (.some _ _ (by kernel_rfl) (.some _ _ (by kernel_rfl) (.leaf _) (.leaf _)) (.leaf _))))) (.some _ _ (by kernel_rfl) (.some _ _ (by kernel_rfl) (.some _ _ (by kernel_rfl) (.some _ _ (by kernel_rfl) (.some _ _ (by kernel_rfl) (.leaf _) (.leaf _)) (.some _ _ (by kernel_rfl) (.leaf _) (.leaf _))) (.none _ (.some _ _ (by kernel_rfl) (.leaf _) (.leaf _)) (.leaf _))) (.none _ (.some _ _ (by kernel_rfl) (.some _ _ (by kernel_rfl) (.leaf _) (.leaf _)) (.leaf _)) (.some _ _ (by kernel_rfl) (.some _ _ (by kernel_rfl) (.leaf _) (.leaf _)) (.leaf _)))) (.some _ _ (by kernel_rfl) (.some _ _ (by kernel_rfl) (.some _ _ (by kernel_rfl) (.some _ _ (by kernel_rfl) (.leaf _) (.leaf _)) (.leaf _)) (.some _ _ (by kernel_rfl) (.some _ _ (by kernel_rfl) (.leaf _) (.leaf _)) (.leaf _))) (.none _ (.some _ _ (by kernel_rfl) (.some _ _ (by kernel_rfl) (.leaf _) (.leaf _)) (.leaf _)) (.some _ _ (by kernel_rfl) (.some _ _ (by kernel_rfl) (.leaf _) (.leaf _)) (.leaf _)))))))
theorem fits : tys.allB (fitB Tryd.prog) id = true := by kernel_rfl
theorem fnsAll : Tab.All (FnFits Tryd.prog) fns id := by unfold fns; exact (.none _ (.none _ (.some _ _ ff3 (.some _ _ ff7 (.some _ _ ff15 (.some _ _ ff31 (.leaf _) (.leaf _)) (.leaf _)) (.some _ _ ff23 (.some _ _ ff39 (.leaf _) (.leaf _)) (.leaf _))) (.some _ _ ff11 (.some _ _ ff19 (.some _ _ ff35 (.leaf _) (.leaf _)) (.leaf _)) (.some _ _ ff27 (.leaf _) (.leaf _)))) (.some _ _ ff5 (.some _ _ ff9 (.some _ _ ff17 (.some _ _ ff33 (.leaf _) (.leaf _)) (.leaf _)) (.some _ _ ff25 (.leaf _) (.leaf _))) (.some _ _ ff13 (.some _ _ ff21 (.some _ _ ff37 (.leaf _) (.leaf _)) (.leaf _)) (.some _ _ ff29 (.leaf _) (.some _ _ ff61 (.leaf _) (.leaf _)))))) (.some _ _ ff2 (.some _ _ ff4 (.some _ _ ff8 (.some _ _ ff16 (.some _ _ ff32 (.leaf _) (.leaf _)) (.leaf _)) (.some _ _ ff24 (.some _ _ ff40 (.leaf _) (.leaf _)) (.leaf _))) (.some _ _ ff12 (.some _ _ ff20 (.some _ _ ff36 (.leaf _) (.leaf _)) (.leaf _)) (.some _ _ ff28 (.leaf _) (.leaf _)))) (.some _ _ ff6 (.some _ _ ff10 (.some _ _ ff18 (.some _ _ ff34 (.leaf _) (.leaf _)) (.leaf _)) (.some _ _ ff26 (.leaf _) (.leaf _))) (.some _ _ ff14 (.some _ _ ff22 (.some _ _ ff38 (.leaf _) (.leaf _)) (.leaf _)) (.some _ _ ff30 (.leaf _) (.leaf _))))))
def gl0 : List Int := [1116352408, 1899447441, 3049323471, 3921009573, 961987163, 1508970993, 2453635748, 2870763221, 3624381080, 310598401, 607225278, 1426881987, 1925078388, 2162078206, 2614888103, 3248222580, 3835390401, 4022224774, 264347078, 604807628, 770255983, 1249150122, 1555081692, 1996064986, 2554220882, 2821834349, 2952996808, 3210313671, 3336571891, 3584528711, 113926993, 338241895, 666307205, 773529912, 1294757372, 1396182291, 1695183700, 1986661051, 2177026350, 2456956037, 2730485921, 2820302411, 3259730800, 3345764771, 3516065817, 3600352804, 4094571909, 275423344, 430227734, 506948616, 659060556, 883997877, 958139571, 1322822218, 1537002063, 1747873779, 1955562222, 2024104815, 2227730452, 2361852424, 2428436474, 2756734187, 3204031479, 3329325298]
def vglob : Nat → Option VV := glob1 0 64 (.int .u32) gl0
noncomputable def cfg : Cfg := { ty := tys.get, code := fns.get, glob := fun i => (vglob i).map VV.cv, lit := fun _ => false, sum := fun _ => none }
theorem cfgGlob : GlobT cfg vglob := globT_one rfl
theorem cfgOk : Cfg.Ok Tryd.prog cfg := globOk (lit := fun _ => false) (pures := fun _ => none) (tysOk und fits) fnsAll (by kernel_rfl) cfgGlob.pure
end Go.Proofs.YtecoonecmmbggaaDoor
