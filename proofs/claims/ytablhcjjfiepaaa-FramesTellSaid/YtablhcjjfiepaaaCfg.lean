/- The tables of the program for the clean evaluation. -/
import Derived.Test.YtablhcjjfiepaaaChecked
import Derived.Test.YtablhcjjfiepaaaM6
import Derived.ProofKit
namespace Go.Proofs.Ytablhcjjfiepaaa
open Go.Eng
noncomputable def ti1 : TI := { desc := Try.t1.desc, agg := false, size := 1, bytes := 8, zero := [.nilfunc], comparable := false, held := false, eqg := false }
noncomputable def ti2 : TI := { desc := .int .i64, agg := false, size := 1, bytes := 8, zero := [.int .i64 0], comparable := true, held := false, eqg := false }
noncomputable def ti3 : TI := { desc := .int .i64, agg := false, size := 1, bytes := 8, zero := [.int .i64 0], comparable := true, held := false, eqg := false }
noncomputable def ti4 : TI := { desc := .bool, agg := false, size := 1, bytes := 1, zero := [.bool false], comparable := true, held := false, eqg := false }
noncomputable def ti5 : TI := { desc := .int .u8, agg := false, size := 1, bytes := 1, zero := [.int .u8 0], comparable := true, held := false, eqg := false }
noncomputable def ti6 : TI := { desc := .int .u8, agg := false, size := 1, bytes := 1, zero := [.int .u8 0], comparable := true, held := false, eqg := false }
noncomputable def ti7 : TI := { desc := Try.t7.desc, agg := true, size := 4, bytes := 24, zero := [.int .i64 0, .int .i64 0, .bool false, .int .u8 0], comparable := true, held := false, eqg := false }
noncomputable def ti8 : TI := { desc := Try.t7.desc, agg := true, size := 4, bytes := 24, zero := [.int .i64 0, .int .i64 0, .bool false, .int .u8 0], comparable := true, held := false, eqg := false }
noncomputable def ti9 : TI := { desc := .string, agg := false, size := 1, bytes := 16, zero := [.str []], comparable := true, held := false, eqg := false }
noncomputable def ti10 : TI := { desc := .string, agg := false, size := 1, bytes := 16, zero := [.str []], comparable := true, held := false, eqg := false }
noncomputable def ti11 : TI := { desc := .string, agg := false, size := 1, bytes := 16, zero := [.str []], comparable := true, held := false, eqg := false }
noncomputable def ti12 : TI := { desc := .int .u64, agg := false, size := 1, bytes := 8, zero := [.int .u64 0], comparable := true, held := false, eqg := false }
noncomputable def ti13 : TI := { desc := Try.t13.desc, agg := true, size := 2, bytes := 24, zero := [.str [], .int .u64 0], comparable := true, held := true, eqg := false }
noncomputable def ti14 : TI := { desc := Try.t13.desc, agg := true, size := 2, bytes := 24, zero := [.str [], .int .u64 0], comparable := true, held := true, eqg := false }
noncomputable def ti15 : TI := { desc := .pointer 118, agg := false, size := 1, bytes := 8, zero := [.nilptr], comparable := true, held := false, eqg := false }
noncomputable def ti16 : TI := { desc := .pointer 121, agg := false, size := 1, bytes := 8, zero := [.nilptr], comparable := true, held := false, eqg := false }
noncomputable def ti17 : TI := { desc := .pointer 131, agg := false, size := 1, bytes := 8, zero := [.nilptr], comparable := true, held := false, eqg := false }
noncomputable def ti18 : TI := { desc := Try.t18.desc, agg := true, size := 1, bytes := 8, zero := [.nilptr], comparable := true, held := true, eqg := false }
noncomputable def ti19 : TI := { desc := Try.t18.desc, agg := true, size := 1, bytes := 8, zero := [.nilptr], comparable := true, held := true, eqg := false }
noncomputable def ti20 : TI := { desc := Try.t20.desc, agg := false, size := 1, bytes := 16, zero := [.niliface], comparable := true, held := false, eqg := false }
noncomputable def ti21 : TI := { desc := .int .i32, agg := false, size := 1, bytes := 4, zero := [.int .i32 0], comparable := true, held := false, eqg := false }
noncomputable def ti22 : TI := { desc := .slice 39, agg := false, size := 1, bytes := 24, zero := [.slice 0 [] none true], comparable := false, held := false, eqg := false }
noncomputable def ti23 : TI := { desc := Try.t23.desc, agg := true, size := 2, bytes := 32, zero := [.slice 0 [] none true, .int .i64 0], comparable := false, held := false, eqg := false }
noncomputable def ti24 : TI := { desc := Try.t23.desc, agg := true, size := 2, bytes := 32, zero := [.slice 0 [] none true, .int .i64 0], comparable := false, held := false, eqg := false }
noncomputable def ti25 : TI := { desc := .int .i64, agg := false, size := 1, bytes := 8, zero := [.int .i64 0], comparable := true, held := false, eqg := false }
noncomputable def ti27 : TI := { desc := Try.t27.desc, agg := false, size := 1, bytes := 8, zero := [.nilfunc], comparable := false, held := false, eqg := false }
noncomputable def ti28 : TI := { desc := Try.t28.desc, agg := true, size := 9, bytes := 72, zero := [.int .i64 0, .int .i64 0, .int .i64 0, .int .i64 0, .int .i64 0, .int .i64 0, .int .i64 0, .int .i64 0, .int .i64 0], comparable := true, held := false, eqg := false }
noncomputable def ti29 : TI := { desc := Try.t28.desc, agg := true, size := 9, bytes := 72, zero := [.int .i64 0, .int .i64 0, .int .i64 0, .int .i64 0, .int .i64 0, .int .i64 0, .int .i64 0, .int .i64 0, .int .i64 0], comparable := true, held := false, eqg := false }
noncomputable def ti30 : TI := { desc := Try.t30.desc, agg := false, size := 1, bytes := 8, zero := [.nilfunc], comparable := false, held := false, eqg := false }
noncomputable def ti31 : TI := { desc := Try.t31.desc, agg := false, size := 1, bytes := 8, zero := [.nilfunc], comparable := false, held := false, eqg := false }
noncomputable def ti32 : TI := { desc := Try.t32.desc, agg := false, size := 1, bytes := 8, zero := [.nilfunc], comparable := false, held := false, eqg := false }
noncomputable def ti33 : TI := { desc := .slice 5, agg := false, size := 1, bytes := 24, zero := [.slice 0 [] none true], comparable := false, held := false, eqg := false }
noncomputable def ti35 : TI := { desc := Try.t35.desc, agg := false, size := 1, bytes := 8, zero := [.nilfunc], comparable := false, held := false, eqg := false }
noncomputable def ti36 : TI := { desc := Try.t36.desc, agg := false, size := 1, bytes := 8, zero := [.nilfunc], comparable := false, held := false, eqg := false }
noncomputable def ti37 : TI := { desc := .slice 3, agg := false, size := 1, bytes := 24, zero := [.slice 0 [] none true], comparable := false, held := false, eqg := false }
noncomputable def ti38 : TI := { desc := Try.t38.desc, agg := true, size := 6, bytes := 72, zero := [.int .u8 0, .int .i64 0, .slice 0 [] none true, .slice 0 [] none true, .bool false, .bool false], comparable := false, held := false, eqg := false }
noncomputable def ti39 : TI := { desc := Try.t38.desc, agg := true, size := 6, bytes := 72, zero := [.int .u8 0, .int .i64 0, .slice 0 [] none true, .slice 0 [] none true, .bool false, .bool false], comparable := false, held := false, eqg := false }
noncomputable def ti40 : TI := { desc := Try.t40.desc, agg := false, size := 1, bytes := 8, zero := [.nilfunc], comparable := false, held := false, eqg := false }
noncomputable def ti41 : TI := { desc := Try.t41.desc, agg := false, size := 1, bytes := 8, zero := [.nilfunc], comparable := false, held := false, eqg := false }
noncomputable def ti42 : TI := { desc := Try.t42.desc, agg := false, size := 1, bytes := 8, zero := [.nilfunc], comparable := false, held := false, eqg := false }
noncomputable def ti43 : TI := { desc := Try.t43.desc, agg := false, size := 1, bytes := 8, zero := [.nilfunc], comparable := false, held := false, eqg := false }
noncomputable def ti44 : TI := { desc := Try.t44.desc, agg := false, size := 1, bytes := 8, zero := [.nilfunc], comparable := false, held := false, eqg := false }
noncomputable def ti45 : TI := { desc := Try.t45.desc, agg := false, size := 1, bytes := 8, zero := [.nilfunc], comparable := false, held := false, eqg := false }
noncomputable def ti46 : TI := { desc := Try.t46.desc, agg := false, size := 1, bytes := 8, zero := [.nilfunc], comparable := false, held := false, eqg := false }
noncomputable def ti48 : TI := { desc := Try.t48.desc, agg := false, size := 1, bytes := 8, zero := [.nilfunc], comparable := false, held := false, eqg := false }
noncomputable def ti50 : TI := { desc := Try.t50.desc, agg := false, size := 1, bytes := 8, zero := [.nilfunc], comparable := false, held := false, eqg := false }
noncomputable def ti52 : TI := { desc := Try.t52.desc, agg := false, size := 1, bytes := 8, zero := [.nilfunc], comparable := false, held := false, eqg := false }
noncomputable def ti53 : TI := { desc := Try.t53.desc, agg := false, size := 1, bytes := 8, zero := [.nilfunc], comparable := false, held := false, eqg := false }
noncomputable def ti54 : TI := { desc := Try.t54.desc, agg := false, size := 1, bytes := 8, zero := [.nilfunc], comparable := false, held := false, eqg := false }
noncomputable def ti55 : TI := { desc := Try.t55.desc, agg := false, size := 1, bytes := 8, zero := [.nilfunc], comparable := false, held := false, eqg := false }
noncomputable def ti56 : TI := { desc := Try.t56.desc, agg := false, size := 1, bytes := 8, zero := [.nilfunc], comparable := false, held := false, eqg := false }
noncomputable def ti57 : TI := { desc := Try.t57.desc, agg := false, size := 1, bytes := 8, zero := [.nilfunc], comparable := false, held := false, eqg := false }
noncomputable def ti58 : TI := { desc := Try.t58.desc, agg := false, size := 1, bytes := 8, zero := [.nilfunc], comparable := false, held := false, eqg := false }
noncomputable def ti59 : TI := { desc := Try.t59.desc, agg := false, size := 1, bytes := 8, zero := [.nilfunc], comparable := false, held := false, eqg := false }
noncomputable def ti60 : TI := { desc := Try.t60.desc, agg := false, size := 1, bytes := 8, zero := [.nilfunc], comparable := false, held := false, eqg := false }
noncomputable def ti61 : TI := { desc := Try.t61.desc, agg := false, size := 1, bytes := 8, zero := [.nilfunc], comparable := false, held := false, eqg := false }
noncomputable def ti62 : TI := { desc := Try.t62.desc, agg := false, size := 1, bytes := 8, zero := [.nilfunc], comparable := false, held := false, eqg := false }
noncomputable def ti63 : TI := { desc := Try.t63.desc, agg := false, size := 1, bytes := 8, zero := [.nilfunc], comparable := false, held := false, eqg := false }
noncomputable def ti64 : TI := { desc := Try.t64.desc, agg := false, size := 1, bytes := 8, zero := [.nilfunc], comparable := false, held := false, eqg := false }
noncomputable def ti65 : TI := { desc := Try.t65.desc, agg := false, size := 1, bytes := 8, zero := [.nilfunc], comparable := false, held := false, eqg := false }
noncomputable def ti66 : TI := { desc := .slice 24, agg := false, size := 1, bytes := 24, zero := [.slice 0 [] none true], comparable := false, held := false, eqg := false }
noncomputable def ti67 : TI := { desc := .slice 25, agg := false, size := 1, bytes := 24, zero := [.slice 0 [] none true], comparable := false, held := false, eqg := false }
noncomputable def ti68 : TI := { desc := Try.t68.desc, agg := false, size := 1, bytes := 8, zero := [.nilfunc], comparable := false, held := false, eqg := false }
noncomputable def ti69 : TI := { desc := Try.t69.desc, agg := false, size := 1, bytes := 8, zero := [.nilfunc], comparable := false, held := false, eqg := false }
noncomputable def ti70 : TI := { desc := Try.t70.desc, agg := false, size := 1, bytes := 8, zero := [.nilfunc], comparable := false, held := false, eqg := false }
noncomputable def ti71 : TI := { desc := Try.t71.desc, agg := false, size := 1, bytes := 8, zero := [.nilfunc], comparable := false, held := false, eqg := false }
noncomputable def ti72 : TI := { desc := Try.t72.desc, agg := false, size := 1, bytes := 8, zero := [.nilfunc], comparable := false, held := false, eqg := false }
noncomputable def ti73 : TI := { desc := Try.t73.desc, agg := false, size := 1, bytes := 8, zero := [.nilfunc], comparable := false, held := false, eqg := false }
noncomputable def ti74 : TI := { desc := Try.t74.desc, agg := false, size := 1, bytes := 8, zero := [.nilfunc], comparable := false, held := false, eqg := false }
noncomputable def ti75 : TI := { desc := Try.t75.desc, agg := false, size := 1, bytes := 8, zero := [.nilfunc], comparable := false, held := false, eqg := false }
noncomputable def ti76 : TI := { desc := Try.t76.desc, agg := false, size := 1, bytes := 8, zero := [.nilfunc], comparable := false, held := false, eqg := false }
noncomputable def ti77 : TI := { desc := Try.t77.desc, agg := false, size := 1, bytes := 8, zero := [.nilfunc], comparable := false, held := false, eqg := false }
noncomputable def ti78 : TI := { desc := Try.t78.desc, agg := false, size := 1, bytes := 8, zero := [.nilfunc], comparable := false, held := false, eqg := false }
noncomputable def ti79 : TI := { desc := Try.t79.desc, agg := false, size := 1, bytes := 8, zero := [.nilfunc], comparable := false, held := false, eqg := false }
noncomputable def ti80 : TI := { desc := Try.t80.desc, agg := false, size := 1, bytes := 8, zero := [.nilfunc], comparable := false, held := false, eqg := false }
noncomputable def ti81 : TI := { desc := Try.t81.desc, agg := false, size := 1, bytes := 8, zero := [.nilfunc], comparable := false, held := false, eqg := false }
noncomputable def ti82 : TI := { desc := Try.t82.desc, agg := false, size := 1, bytes := 8, zero := [.nilfunc], comparable := false, held := false, eqg := false }
noncomputable def ti83 : TI := { desc := Try.t83.desc, agg := false, size := 1, bytes := 8, zero := [.nilfunc], comparable := false, held := false, eqg := false }
noncomputable def ti84 : TI := { desc := .map 3 3, agg := false, size := 1, bytes := 8, zero := [.nilmap], comparable := false, held := false, eqg := false }
noncomputable def ti85 : TI := { desc := Try.t85.desc, agg := false, size := 1, bytes := 8, zero := [.nilfunc], comparable := false, held := false, eqg := false }
noncomputable def ti86 : TI := { desc := Try.t86.desc, agg := false, size := 1, bytes := 8, zero := [.nilfunc], comparable := false, held := false, eqg := false }
noncomputable def ti87 : TI := { desc := Try.t87.desc, agg := false, size := 1, bytes := 8, zero := [.nilfunc], comparable := false, held := false, eqg := false }
noncomputable def ti88 : TI := { desc := Try.t88.desc, agg := false, size := 1, bytes := 8, zero := [.nilfunc], comparable := false, held := false, eqg := false }
noncomputable def ti89 : TI := { desc := Try.t89.desc, agg := false, size := 1, bytes := 8, zero := [.nilfunc], comparable := false, held := false, eqg := false }
noncomputable def ti90 : TI := { desc := Try.t90.desc, agg := false, size := 1, bytes := 8, zero := [.nilfunc], comparable := false, held := false, eqg := false }
noncomputable def ti91 : TI := { desc := Try.t91.desc, agg := false, size := 1, bytes := 8, zero := [.nilfunc], comparable := false, held := false, eqg := false }
noncomputable def ti92 : TI := { desc := Try.t92.desc, agg := false, size := 1, bytes := 8, zero := [.nilfunc], comparable := false, held := false, eqg := false }
noncomputable def ti93 : TI := { desc := Try.t93.desc, agg := true, size := 3, bytes := 24, zero := [.int .i64 0, .int .i64 0, .int .i64 0], comparable := true, held := false, eqg := false }
noncomputable def ti94 : TI := { desc := Try.t93.desc, agg := true, size := 3, bytes := 24, zero := [.int .i64 0, .int .i64 0, .int .i64 0], comparable := true, held := false, eqg := false }
noncomputable def ti95 : TI := { desc := .array 9 94, agg := true, size := 27, bytes := 216, zero := [.int .i64 0, .int .i64 0, .int .i64 0, .int .i64 0, .int .i64 0, .int .i64 0, .int .i64 0, .int .i64 0, .int .i64 0, .int .i64 0, .int .i64 0, .int .i64 0, .int .i64 0, .int .i64 0, .int .i64 0, .int .i64 0, .int .i64 0, .int .i64 0, .int .i64 0, .int .i64 0, .int .i64 0, .int .i64 0, .int .i64 0, .int .i64 0, .int .i64 0, .int .i64 0, .int .i64 0], comparable := true, held := false, eqg := false }
noncomputable def ti96 : TI := { desc := Try.t96.desc, agg := false, size := 1, bytes := 8, zero := [.nilfunc], comparable := false, held := false, eqg := false }
noncomputable def ti97 : TI := { desc := Try.t97.desc, agg := false, size := 1, bytes := 8, zero := [.nilfunc], comparable := false, held := false, eqg := false }
noncomputable def ti98 : TI := { desc := Try.t98.desc, agg := false, size := 1, bytes := 8, zero := [.nilfunc], comparable := false, held := false, eqg := false }
noncomputable def ti99 : TI := { desc := Try.t99.desc, agg := false, size := 1, bytes := 8, zero := [.nilfunc], comparable := false, held := false, eqg := false }
noncomputable def ti100 : TI := { desc := Try.t100.desc, agg := false, size := 1, bytes := 8, zero := [.nilfunc], comparable := false, held := false, eqg := false }
noncomputable def ti101 : TI := { desc := .slice 107, agg := false, size := 1, bytes := 24, zero := [.slice 0 [] none true], comparable := false, held := false, eqg := false }
noncomputable def ti102 : TI := { desc := Try.t102.desc, agg := false, size := 1, bytes := 8, zero := [.nilfunc], comparable := false, held := false, eqg := false }
noncomputable def ti103 : TI := { desc := Try.t103.desc, agg := false, size := 1, bytes := 8, zero := [.nilfunc], comparable := false, held := false, eqg := false }
noncomputable def ti104 : TI := { desc := Try.t104.desc, agg := false, size := 1, bytes := 8, zero := [.nilfunc], comparable := false, held := false, eqg := false }
noncomputable def ti105 : TI := { desc := Try.t105.desc, agg := false, size := 1, bytes := 8, zero := [.nilfunc], comparable := false, held := false, eqg := false }
noncomputable def ti106 : TI := { desc := Try.t106.desc, agg := true, size := 4, bytes := 32, zero := [.int .i64 0, .int .i64 0, .int .i64 0, .int .i64 0], comparable := true, held := false, eqg := false }
noncomputable def ti107 : TI := { desc := Try.t106.desc, agg := true, size := 4, bytes := 32, zero := [.int .i64 0, .int .i64 0, .int .i64 0, .int .i64 0], comparable := true, held := false, eqg := false }
noncomputable def ti108 : TI := { desc := Try.t108.desc, agg := false, size := 1, bytes := 8, zero := [.nilfunc], comparable := false, held := false, eqg := false }
noncomputable def ti109 : TI := { desc := Try.t109.desc, agg := false, size := 1, bytes := 8, zero := [.nilfunc], comparable := false, held := false, eqg := false }
noncomputable def ti110 : TI := { desc := Try.t110.desc, agg := false, size := 1, bytes := 8, zero := [.nilfunc], comparable := false, held := false, eqg := false }
noncomputable def ti111 : TI := { desc := Try.t111.desc, agg := false, size := 1, bytes := 8, zero := [.nilfunc], comparable := false, held := false, eqg := false }
noncomputable def ti112 : TI := { desc := Try.t112.desc, agg := false, size := 1, bytes := 8, zero := [.nilfunc], comparable := false, held := false, eqg := false }
noncomputable def ti114 : TI := { desc := Try.t114.desc, agg := false, size := 1, bytes := 8, zero := [.nilfunc], comparable := false, held := false, eqg := false }
noncomputable def ti115 : TI := { desc := Try.t115.desc, agg := false, size := 1, bytes := 8, zero := [.nilfunc], comparable := false, held := false, eqg := false }
noncomputable def ti116 : TI := { desc := Try.t116.desc, agg := false, size := 1, bytes := 8, zero := [.nilfunc], comparable := false, held := false, eqg := false }
noncomputable def ti117 : TI := { desc := Try.t117.desc, agg := true, size := 4, bytes := 40, zero := [.nilptr, .nilptr, .nilptr, .str []], comparable := true, held := true, eqg := false }
noncomputable def ti118 : TI := { desc := Try.t117.desc, agg := true, size := 4, bytes := 40, zero := [.nilptr, .nilptr, .nilptr, .str []], comparable := true, held := true, eqg := false }
noncomputable def ti119 : TI := { desc := .array 0 16, agg := true, size := 0, bytes := 0, zero := [], comparable := true, held := false, eqg := false }
noncomputable def ti120 : TI := { desc := Try.t120.desc, agg := true, size := 0, bytes := 0, zero := [], comparable := true, held := true, eqg := false }
noncomputable def ti121 : TI := { desc := Try.t120.desc, agg := true, size := 0, bytes := 0, zero := [], comparable := true, held := true, eqg := false }
noncomputable def ti122 : TI := { desc := Try.t122.desc, agg := false, size := 1, bytes := 8, zero := [.nilfunc], comparable := false, held := false, eqg := false }
noncomputable def ti123 : TI := { desc := .int .u32, agg := false, size := 1, bytes := 4, zero := [.int .u32 0], comparable := true, held := false, eqg := false }
noncomputable def ti124 : TI := { desc := .int .u8, agg := false, size := 1, bytes := 1, zero := [.int .u8 0], comparable := true, held := false, eqg := false }
noncomputable def ti125 : TI := { desc := .int .u8, agg := false, size := 1, bytes := 1, zero := [.int .u8 0], comparable := true, held := false, eqg := false }
noncomputable def ti126 : TI := { desc := Try.t126.desc, agg := false, size := 1, bytes := 8, zero := [.nilfunc], comparable := false, held := false, eqg := false }
noncomputable def ti127 : TI := { desc := .pointer 5, agg := false, size := 1, bytes := 8, zero := [.nilptr], comparable := true, held := false, eqg := false }
noncomputable def ti128 : TI := { desc := .int .i32, agg := false, size := 1, bytes := 4, zero := [.int .i32 0], comparable := true, held := false, eqg := false }
noncomputable def ti129 : TI := { desc := .int .i32, agg := false, size := 1, bytes := 4, zero := [.int .i32 0], comparable := true, held := false, eqg := false }
noncomputable def ti130 : TI := { desc := Try.t130.desc, agg := true, size := 11, bytes := 48, zero := [.int .u64 0, .int .u64 0, .int .u32 0, .int .u8 0, .int .u8 0, .int .u8 0, .int .u8 0, .nilfunc, .nilptr, .int .i32 0, .int .i32 0], comparable := false, held := true, eqg := false }
noncomputable def ti131 : TI := { desc := Try.t130.desc, agg := true, size := 11, bytes := 48, zero := [.int .u64 0, .int .u64 0, .int .u32 0, .int .u8 0, .int .u8 0, .int .u8 0, .int .u8 0, .nilfunc, .nilptr, .int .i32 0, .int .i32 0], comparable := false, held := true, eqg := false }
noncomputable def ti132 : TI := { desc := .unsafePointer, agg := false, size := 1, bytes := 8, zero := [.nilptr], comparable := true, held := false, eqg := false }
noncomputable def tys : Tab TI := (.node (.node (.node (.node (.node (.node (.node (.node .leaf (some ti127) .leaf) (some ti63) .leaf) (some ti31) (.node .leaf (some ti95) .leaf)) (some ti15) (.node (.node .leaf (some ti79) .leaf) none (.node .leaf (some ti111) .leaf))) (some ti7) (.node (.node (.node .leaf (some ti71) .leaf) (some ti39) (.node .leaf (some ti103) .leaf)) (some ti23) (.node (.node .leaf (some ti87) .leaf) (some ti55) (.node .leaf (some ti119) .leaf)))) (some ti3) (.node (.node (.node (.node (.node .leaf (some ti131) .leaf) (some ti67) .leaf) (some ti35) (.node .leaf (some ti99) .leaf)) (some ti19) (.node (.node .leaf (some ti83) .leaf) none (.node .leaf (some ti115) .leaf))) (some ti11) (.node (.node (.node .leaf (some ti75) .leaf) (some ti43) (.node .leaf (some ti107) .leaf)) (some ti27) (.node (.node .leaf (some ti91) .leaf) (some ti59) (.node .leaf (some ti123) .leaf))))) (some ti1) (.node (.node (.node (.node (.node (.node .leaf (some ti129) .leaf) (some ti65) .leaf) (some ti33) (.node .leaf (some ti97) .leaf)) (some ti17) (.node (.node .leaf (some ti81) .leaf) none .leaf)) (some ti9) (.node (.node (.node .leaf (some ti73) .leaf) (some ti41) (.node .leaf (some ti105) .leaf)) (some ti25) (.node (.node .leaf (some ti89) .leaf) (some ti57) (.node .leaf (some ti121) .leaf)))) (some ti5) (.node (.node (.node (.node .leaf (some ti69) .leaf) (some ti37) (.node .leaf (some ti101) .leaf)) (some ti21) (.node (.node .leaf (some ti85) .leaf) (some ti53) (.node .leaf (some ti117) .leaf))) (some ti13) (.node (.node (.node .leaf (some ti77) .leaf) (some ti45) (.node .leaf (some ti109) .leaf)) (some ti29) (.node (.node .leaf (some ti93) .leaf) (some ti61) (.node .leaf (some ti125) .leaf)))))) none (.node (.node (.node (.node (.node (.node (.node .leaf (some ti128) .leaf) (some ti64) .leaf) (some ti32) (.node .leaf (some ti96) .leaf)) (some ti16) (.node (.node .leaf (some ti80) .leaf) (some ti48) (.node .leaf (some ti112) .leaf))) (some ti8) (.node (.node (.node .leaf (some ti72) .leaf) (some ti40) (.node .leaf (some ti104) .leaf)) (some ti24) (.node (.node .leaf (some ti88) .leaf) (some ti56) (.node .leaf (some ti120) .leaf)))) (some ti4) (.node (.node (.node (.node (.node .leaf (some ti132) .leaf) (some ti68) .leaf) (some ti36) (.node .leaf (some ti100) .leaf)) (some ti20) (.node (.node .leaf (some ti84) .leaf) (some ti52) (.node .leaf (some ti116) .leaf))) (some ti12) (.node (.node (.node .leaf (some ti76) .leaf) (some ti44) (.node .leaf (some ti108) .leaf)) (some ti28) (.node (.node .leaf (some ti92) .leaf) (some ti60) (.node .leaf (some ti124) .leaf))))) (some ti2) (.node (.node (.node (.node (.node (.node .leaf (some ti130) .leaf) (some ti66) .leaf) none (.node .leaf (some ti98) .leaf)) (some ti18) (.node (.node .leaf (some ti82) .leaf) (some ti50) (.node .leaf (some ti114) .leaf))) (some ti10) (.node (.node (.node .leaf (some ti74) .leaf) (some ti42) (.node .leaf (some ti106) .leaf)) none (.node (.node .leaf (some ti90) .leaf) (some ti58) (.node .leaf (some ti122) .leaf)))) (some ti6) (.node (.node (.node (.node .leaf (some ti70) .leaf) (some ti38) (.node .leaf (some ti102) .leaf)) (some ti22) (.node (.node .leaf (some ti86) .leaf) (some ti54) (.node .leaf (some ti118) .leaf))) (some ti14) (.node (.node (.node .leaf (some ti78) .leaf) (some ti46) (.node .leaf (some ti110) .leaf)) (some ti30) (.node (.node .leaf (some ti94) .leaf) (some ti62) (.node .leaf (some ti126) .leaf)))))))
def plans (l : List (Nat × List (Nat × List Nat))) : zQu := fun i => match l.find? (fun p => p.1 == i) with
  | some p => p.2
  | none => []
def pl2 : zQu := plans []
noncomputable def xf2 : XFunc := xOf Try.f2 pl2
theorem ff2 : zQk Try.prog 2 xf2 := zQm Try.func2 (by kernel_rfl)
def pl3 : zQu := plans [(2, [(1, []), (6, []), (0, [1]), (2, []), (3, []), (4, []), (5, []), (7, []), (8, [])]), (3, [(1, []), (2, []), (7, []), (0, [1]), (3, []), (4, []), (5, []), (6, []), (8, []), (9, [])]), (4, [(1, []), (0, [1]), (2, []), (3, []), (4, []), (5, []), (6, []), (7, [])]), (5, [(1, []), (6, []), (0, [1]), (2, []), (3, []), (4, []), (5, []), (7, []), (8, [])]), (6, [(1, []), (6, []), (0, [1]), (2, []), (3, []), (4, []), (5, []), (7, []), (8, [])]), (7, [(1, []), (6, []), (0, [1]), (2, []), (3, []), (4, []), (5, []), (7, []), (8, [])]), (9, [(1, []), (6, []), (0, [1]), (2, []), (3, []), (4, []), (5, []), (7, []), (8, [])]), (10, [(1, []), (2, []), (7, []), (0, [1]), (3, []), (4, []), (5, []), (6, []), (8, []), (9, [])]), (11, [(1, []), (6, []), (0, [1]), (2, []), (3, []), (4, []), (5, []), (7, []), (8, [])]), (12, [(1, []), (6, []), (0, [1]), (2, []), (3, []), (4, []), (5, []), (7, []), (8, [])]), (14, [(0, []), (1, []), (2, []), (3, []), (4, []), (5, []), (6, []), (7, []), (8, []), (9, []), (10, []), (11, []), (12, []), (13, []), (14, []), (15, []), (16, []), (17, []), (18, []), (20, []), (22, []), (19, [20]), (21, []), (23, []), (24, []), (25, []), (26, []), (27, []), (28, []), (29, []), (31, []), (30, [31]), (32, []), (33, []), (34, []), (35, []), (36, []), (37, []), (38, []), (39, []), (40, [])])]
noncomputable def xf3 : XFunc := xOf Try.f3 pl3
theorem ff3 : zQk Try.prog 3 xf3 := zQm Try.func3 (by kernel_rfl)
def pl4 : zQu := plans [(12, [(0, []), (1, []), (3, []), (4, []), (2, [4, 3]), (5, []), (6, []), (7, []), (8, []), (9, []), (11, []), (12, []), (10, [12, 11]), (13, []), (14, []), (15, []), (16, []), (17, []), (18, []), (19, []), (20, []), (21, []), (22, []), (23, []), (25, []), (26, []), (24, [26, 25]), (27, []), (28, []), (29, []), (30, [])])]
noncomputable def xf4 : XFunc := xOf Try.f4 pl4
theorem ff4 : zQk Try.prog 4 xf4 := zQm Try.func4 (by kernel_rfl)
def pl5 : zQu := plans []
noncomputable def xf5 : XFunc := xOf Try.f5 pl5
theorem ff5 : zQk Try.prog 5 xf5 := zQm Try.func5 (by kernel_rfl)
def pl6 : zQu := plans [(14, [(0, []), (1, []), (2, []), (3, []), (4, []), (5, []), (6, []), (7, []), (8, []), (9, []), (10, []), (11, []), (12, []), (13, []), (14, []), (15, []), (16, []), (17, []), (18, []), (19, []), (20, []), (21, []), (22, []), (23, []), (24, []), (25, []), (26, []), (27, []), (28, []), (29, []), (30, []), (31, []), (32, []), (33, []), (34, []), (35, []), (36, []), (37, []), (38, []), (39, []), (40, []), (41, []), (42, []), (43, []), (44, []), (45, []), (46, []), (47, []), (48, []), (49, []), (50, []), (51, []), (52, []), (53, []), (54, []), (55, []), (56, []), (57, []), (58, []), (59, []), (60, []), (61, [])]), (21, [(0, []), (1, []), (2, []), (3, []), (4, []), (5, []), (6, []), (7, []), (8, []), (9, []), (10, []), (11, []), (12, []), (13, []), (14, []), (15, []), (16, []), (17, []), (18, []), (19, []), (20, []), (21, []), (22, []), (23, []), (24, []), (25, []), (26, []), (27, []), (28, []), (29, []), (30, []), (31, []), (32, []), (33, []), (34, []), (35, []), (36, []), (37, []), (38, [])]), (23, [(0, []), (1, []), (2, []), (3, []), (4, []), (5, []), (6, []), (7, []), (8, []), (9, []), (10, []), (11, [])])]
noncomputable def xf6 : XFunc := xOf Try.f6 pl6
theorem ff6 : zQk Try.prog 6 xf6 := zQm Try.func6 (by kernel_rfl)
def pl7 : zQu := plans [(18, [(0, []), (1, []), (2, []), (3, []), (4, []), (5, []), (6, []), (7, []), (8, []), (9, []), (10, []), (11, []), (12, []), (13, []), (14, []), (15, []), (16, []), (17, []), (18, []), (19, []), (20, []), (21, []), (22, []), (23, []), (24, []), (25, []), (26, []), (27, []), (28, []), (29, [])]), (21, [(0, []), (1, []), (2, []), (3, []), (4, []), (5, []), (6, []), (7, []), (8, []), (9, [])]), (24, [(0, []), (1, []), (2, []), (3, []), (4, []), (5, []), (6, []), (7, []), (8, []), (9, []), (10, [])])]
noncomputable def xf7 : XFunc := xOf Try.f7 pl7
theorem ff7 : zQk Try.prog 7 xf7 := zQm Try.func7 (by kernel_rfl)
def pl8 : zQu := plans [(7, [(0, []), (1, []), (2, []), (3, []), (4, []), (5, []), (6, []), (7, []), (8, []), (9, [])])]
noncomputable def xf8 : XFunc := xOf Try.f8 pl8
theorem ff8 : zQk Try.prog 8 xf8 := zQm Try.func8 (by kernel_rfl)
def pl9 : zQu := plans []
noncomputable def xf9 : XFunc := xOf Try.f9 pl9
theorem ff9 : zQk Try.prog 9 xf9 := zQm Try.func9 (by kernel_rfl)
def pl10 : zQu := plans []
noncomputable def xf10 : XFunc := xOf Try.f10 pl10
theorem ff10 : zQk Try.prog 10 xf10 := zQm Try.func10 (by kernel_rfl)
def pl11 : zQu := plans []
noncomputable def xf11 : XFunc := xOf Try.f11 pl11
theorem ff11 : zQk Try.prog 11 xf11 := zQm Try.func11 (by kernel_rfl)
def pl12 : zQu := plans []
noncomputable def xf12 : XFunc := xOf Try.f12 pl12
theorem ff12 : zQk Try.prog 12 xf12 := zQm Try.func12 (by kernel_rfl)
def pl13 : zQu := plans [(6, [(0, []), (1, []), (2, []), (3, []), (4, []), (5, []), (6, []), (7, []), (8, []), (9, []), (10, []), (11, []), (12, []), (13, []), (14, []), (15, []), (16, []), (17, []), (18, [])])]
noncomputable def xf13 : XFunc := xOf Try.f13 pl13
theorem ff13 : zQk Try.prog 13 xf13 := zQm Try.func13 (by kernel_rfl)
def pl14 : zQu := plans [(6, [(0, []), (1, []), (2, []), (3, []), (4, []), (5, []), (6, []), (7, []), (8, []), (9, [])])]
noncomputable def xf14 : XFunc := xOf Try.f14 pl14
theorem ff14 : zQk Try.prog 14 xf14 := zQm Try.func14 (by kernel_rfl)
def pl15 : zQu := plans []
noncomputable def xf15 : XFunc := xOf Try.f15 pl15
theorem ff15 : zQk Try.prog 15 xf15 := zQm Try.func15 (by kernel_rfl)
def pl16 : zQu := plans []
noncomputable def xf16 : XFunc := xOf Try.f16 pl16
theorem ff16 : zQk Try.prog 16 xf16 := zQm Try.func16 (by kernel_rfl)
def pl17 : zQu := plans []
noncomputable def xf17 : XFunc := xOf Try.f17 pl17
theorem ff17 : zQk Try.prog 17 xf17 := zQm Try.func17 (by kernel_rfl)
def pl18 : zQu := plans [(2, [(1, []), (7, []), (0, [1]), (2, []), (3, []), (4, []), (5, []), (6, []), (8, []), (9, []), (10, [])]), (4, [(1, []), (7, []), (0, [1]), (2, []), (3, []), (4, []), (5, []), (6, []), (8, []), (9, []), (10, [])]), (6, [(1, []), (7, []), (0, [1]), (2, []), (3, []), (4, []), (5, []), (6, []), (8, []), (9, []), (10, [])])]
noncomputable def xf18 : XFunc := xOf Try.f18 pl18
theorem ff18 : zQk Try.prog 18 xf18 := zQm Try.func18 (by kernel_rfl)
def pl19 : zQu := plans [(6, [(0, []), (1, []), (2, []), (3, []), (4, []), (5, []), (6, []), (7, []), (8, [])])]
noncomputable def xf19 : XFunc := xOf Try.f19 pl19
theorem ff19 : zQk Try.prog 19 xf19 := zQm Try.func19 (by kernel_rfl)
def pl20 : zQu := plans []
noncomputable def xf20 : XFunc := xOf Try.f20 pl20
theorem ff20 : zQk Try.prog 20 xf20 := zQm Try.func20 (by kernel_rfl)
def pl21 : zQu := plans []
noncomputable def xf21 : XFunc := xOf Try.f21 pl21
theorem ff21 : zQk Try.prog 21 xf21 := zQm Try.func21 (by kernel_rfl)
def pl22 : zQu := plans [(5, [(0, []), (1, []), (2, []), (3, []), (4, []), (5, []), (6, []), (7, [1, 0]), (8, []), (9, []), (10, []), (11, [])])]
noncomputable def xf22 : XFunc := xOf Try.f22 pl22
theorem ff22 : zQk Try.prog 22 xf22 := zQm Try.func22 (by kernel_rfl)
def pl23 : zQu := plans []
noncomputable def xf23 : XFunc := xOf Try.f23 pl23
theorem ff23 : zQk Try.prog 23 xf23 := zQm Try.func23 (by kernel_rfl)
def pl24 : zQu := plans []
noncomputable def xf24 : XFunc := xOf Try.f24 pl24
theorem ff24 : zQk Try.prog 24 xf24 := zQm Try.func24 (by kernel_rfl)
def pl25 : zQu := plans []
noncomputable def xf25 : XFunc := xOf Try.f25 pl25
theorem ff25 : zQk Try.prog 25 xf25 := zQm Try.func25 (by kernel_rfl)
def pl26 : zQu := plans []
noncomputable def xf26 : XFunc := xOf Try.f26 pl26
theorem ff26 : zQk Try.prog 26 xf26 := zQm Try.func26 (by kernel_rfl)
def pl27 : zQu := plans [(1, [(0, []), (1, []), (3, []), (4, []), (6, []), (2, [4, 3]), (5, []), (7, [])]), (5, [(0, []), (1, []), (2, []), (3, []), (4, []), (5, []), (6, []), (7, []), (9, []), (10, []), (8, [10, 9, 4, 3, 1, 0]), (11, [4, 3, 1, 0]), (12, []), (13, []), (14, [4, 3]), (15, []), (16, []), (17, [])])]
noncomputable def xf27 : XFunc := xOf Try.f27 pl27
theorem ff27 : zQk Try.prog 27 xf27 := zQm Try.func27 (by kernel_rfl)
def pl28 : zQu := plans [(6, [(0, []), (1, []), (2, []), (3, []), (4, []), (5, []), (6, []), (7, []), (8, []), (9, []), (10, []), (11, []), (12, [9, 8, 6, 5]), (13, [])])]
noncomputable def xf28 : XFunc := xOf Try.f28 pl28
theorem ff28 : zQk Try.prog 28 xf28 := zQm Try.func28 (by kernel_rfl)
def pl29 : zQu := plans []
noncomputable def xf29 : XFunc := xOf Try.f29 pl29
theorem ff29 : zQk Try.prog 29 xf29 := zQm Try.func29 (by kernel_rfl)
def pl30 : zQu := plans []
noncomputable def xf30 : XFunc := xOf Try.f30 pl30
theorem ff30 : zQk Try.prog 30 xf30 := zQm Try.func30 (by kernel_rfl)
def pl31 : zQu := plans []
noncomputable def xf31 : XFunc := xOf Try.f31 pl31
theorem ff31 : zQk Try.prog 31 xf31 := zQm Try.func31 (by kernel_rfl)
def pl32 : zQu := plans []
noncomputable def xf32 : XFunc := xOf Try.f32 pl32
theorem ff32 : zQk Try.prog 32 xf32 := zQm Try.func32 (by kernel_rfl)
def pl33 : zQu := plans [(8, [(0, []), (1, []), (2, []), (3, []), (4, []), (5, []), (6, []), (7, []), (8, []), (9, []), (10, []), (11, []), (12, []), (13, []), (14, []), (15, []), (16, []), (17, []), (18, [])])]
noncomputable def xf33 : XFunc := xOf Try.f33 pl33
theorem ff33 : zQk Try.prog 33 xf33 := zQm Try.func33 (by kernel_rfl)
def pl34 : zQu := plans [(7, [(0, []), (1, []), (2, []), (3, []), (4, []), (5, [0]), (6, []), (7, []), (8, [])])]
noncomputable def xf34 : XFunc := xOf Try.f34 pl34
theorem ff34 : zQk Try.prog 34 xf34 := zQm Try.func34 (by kernel_rfl)
def pl35 : zQu := plans []
noncomputable def xf35 : XFunc := xOf Try.f35 pl35
theorem ff35 : zQk Try.prog 35 xf35 := zQm Try.func35 (by kernel_rfl)
def pl36 : zQu := plans []
noncomputable def xf36 : XFunc := xOf Try.f36 pl36
theorem ff36 : zQk Try.prog 36 xf36 := zQm Try.func36 (by kernel_rfl)
def pl37 : zQu := plans []
noncomputable def xf37 : XFunc := xOf Try.f37 pl37
theorem ff37 : zQk Try.prog 37 xf37 := zQm Try.func37 (by kernel_rfl)
def pl38 : zQu := plans []
noncomputable def xf38 : XFunc := xOf Try.f38 pl38
theorem ff38 : zQk Try.prog 38 xf38 := zQm Try.func38 (by kernel_rfl)
def pl39 : zQu := plans []
noncomputable def xf39 : XFunc := xOf Try.f39 pl39
theorem ff39 : zQk Try.prog 39 xf39 := zQm Try.func39 (by kernel_rfl)
def pl40 : zQu := plans []
noncomputable def xf40 : XFunc := xOf Try.f40 pl40
theorem ff40 : zQk Try.prog 40 xf40 := zQm Try.func40 (by kernel_rfl)
def pl41 : zQu := plans []
noncomputable def xf41 : XFunc := xOf Try.f41 pl41
theorem ff41 : zQk Try.prog 41 xf41 := zQm Try.func41 (by kernel_rfl)
def pl42 : zQu := plans []
noncomputable def xf42 : XFunc := xOf Try.f42 pl42
theorem ff42 : zQk Try.prog 42 xf42 := zQm Try.func42 (by kernel_rfl)
def pl43 : zQu := plans []
noncomputable def xf43 : XFunc := xOf Try.f43 pl43
theorem ff43 : zQk Try.prog 43 xf43 := zQm Try.func43 (by kernel_rfl)
def pl44 : zQu := plans []
noncomputable def xf44 : XFunc := xOf Try.f44 pl44
theorem ff44 : zQk Try.prog 44 xf44 := zQm Try.func44 (by kernel_rfl)
def pl45 : zQu := plans []
noncomputable def xf45 : XFunc := xOf Try.f45 pl45
theorem ff45 : zQk Try.prog 45 xf45 := zQm Try.func45 (by kernel_rfl)
def pl46 : zQu := plans [(1, [(0, []), (1, []), (2, []), (3, []), (4, []), (5, []), (6, [])])]
noncomputable def xf46 : XFunc := xOf Try.f46 pl46
theorem ff46 : zQk Try.prog 46 xf46 := zQm Try.func46 (by kernel_rfl)
def pl47 : zQu := plans []
noncomputable def xf47 : XFunc := xOf Try.f47 pl47
theorem ff47 : zQk Try.prog 47 xf47 := zQm Try.func47 (by kernel_rfl)
def pl48 : zQu := plans []
noncomputable def xf48 : XFunc := xOf Try.f48 pl48
theorem ff48 : zQk Try.prog 48 xf48 := zQm Try.func48 (by kernel_rfl)
def pl49 : zQu := plans []
noncomputable def xf49 : XFunc := xOf Try.f49 pl49
theorem ff49 : zQk Try.prog 49 xf49 := zQm Try.func49 (by kernel_rfl)
def pl50 : zQu := plans []
noncomputable def xf50 : XFunc := xOf Try.f50 pl50
theorem ff50 : zQk Try.prog 50 xf50 := zQm Try.func50 (by kernel_rfl)
def pl51 : zQu := plans []
noncomputable def xf51 : XFunc := xOf Try.f51 pl51
theorem ff51 : zQk Try.prog 51 xf51 := zQm Try.func51 (by kernel_rfl)
def pl52 : zQu := plans []
noncomputable def xf52 : XFunc := xOf Try.f52 pl52
theorem ff52 : zQk Try.prog 52 xf52 := zQm Try.func52 (by kernel_rfl)
def pl53 : zQu := plans []
noncomputable def xf53 : XFunc := xOf Try.f53 pl53
theorem ff53 : zQk Try.prog 53 xf53 := zQm Try.func53 (by kernel_rfl)
def pl54 : zQu := plans []
noncomputable def xf54 : XFunc := xOf Try.f54 pl54
theorem ff54 : zQk Try.prog 54 xf54 := zQm Try.func54 (by kernel_rfl)
def pl55 : zQu := plans []
noncomputable def xf55 : XFunc := xOf Try.f55 pl55
theorem ff55 : zQk Try.prog 55 xf55 := zQm Try.func55 (by kernel_rfl)
def pl56 : zQu := plans []
noncomputable def xf56 : XFunc := xOf Try.f56 pl56
theorem ff56 : zQk Try.prog 56 xf56 := zQm Try.func56 (by kernel_rfl)
def pl57 : zQu := plans [(5, [(0, []), (1, []), (2, []), (3, [1, 0]), (4, []), (5, []), (6, []), (7, [])])]
noncomputable def xf57 : XFunc := xOf Try.f57 pl57
theorem ff57 : zQk Try.prog 57 xf57 := zQm Try.func57 (by kernel_rfl)
def pl58 : zQu := plans []
noncomputable def xf58 : XFunc := xOf Try.f58 pl58
theorem ff58 : zQk Try.prog 58 xf58 := zQm Try.func58 (by kernel_rfl)
def pl59 : zQu := plans []
noncomputable def xf59 : XFunc := xOf Try.f59 pl59
theorem ff59 : zQk Try.prog 59 xf59 := zQm Try.func59 (by kernel_rfl)
def pl60 : zQu := plans []
noncomputable def xf60 : XFunc := xOf Try.f60 pl60
theorem ff60 : zQk Try.prog 60 xf60 := zQm Try.func60 (by kernel_rfl)
def pl61 : zQu := plans []
noncomputable def xf61 : XFunc := xOf Try.f61 pl61
theorem ff61 : zQk Try.prog 61 xf61 := zQm Try.func61 (by kernel_rfl)
def pl62 : zQu := plans []
noncomputable def xf62 : XFunc := xOf Try.f62 pl62
theorem ff62 : zQk Try.prog 62 xf62 := zQm Try.func62 (by kernel_rfl)
def pl63 : zQu := plans []
noncomputable def xf63 : XFunc := xOf Try.f63 pl63
theorem ff63 : zQk Try.prog 63 xf63 := zQm Try.func63 (by kernel_rfl)
def pl64 : zQu := plans []
noncomputable def xf64 : XFunc := xOf Try.f64 pl64
theorem ff64 : zQk Try.prog 64 xf64 := zQm Try.func64 (by kernel_rfl)
def pl65 : zQu := plans []
noncomputable def xf65 : XFunc := xOf Try.f65 pl65
theorem ff65 : zQk Try.prog 65 xf65 := zQm Try.func65 (by kernel_rfl)
def pl66 : zQu := plans [(6, [(0, []), (1, []), (2, []), (3, []), (4, []), (5, []), (6, []), (7, [])]), (11, [(0, []), (1, []), (2, []), (3, []), (4, []), (5, []), (6, []), (7, []), (8, []), (9, []), (10, []), (11, []), (12, []), (13, []), (14, []), (15, []), (16, []), (17, []), (18, []), (19, []), (20, []), (21, []), (22, []), (23, []), (24, []), (25, []), (26, []), (27, []), (28, []), (29, []), (30, [])])]
noncomputable def xf66 : XFunc := xOf Try.f66 pl66
theorem ff66 : zQk Try.prog 66 xf66 := zQm Try.func66 (by kernel_rfl)
def pl67 : zQu := plans []
noncomputable def xf67 : XFunc := xOf Try.f67 pl67
theorem ff67 : zQk Try.prog 67 xf67 := zQm Try.func67 (by kernel_rfl)
def pl68 : zQu := plans []
noncomputable def xf68 : XFunc := xOf Try.f68 pl68
theorem ff68 : zQk Try.prog 68 xf68 := zQm Try.func68 (by kernel_rfl)
def pl69 : zQu := plans []
noncomputable def xf69 : XFunc := xOf Try.f69 pl69
theorem ff69 : zQk Try.prog 69 xf69 := zQm Try.func69 (by kernel_rfl)
def pl70 : zQu := plans [(6, [(0, []), (1, []), (2, []), (3, []), (4, []), (5, []), (6, []), (7, []), (8, [])])]
noncomputable def xf70 : XFunc := xOf Try.f70 pl70
theorem ff70 : zQk Try.prog 70 xf70 := zQm Try.func70 (by kernel_rfl)
def pl71 : zQu := plans []
noncomputable def xf71 : XFunc := xOf Try.f71 pl71
theorem ff71 : zQk Try.prog 71 xf71 := zQm Try.func71 (by kernel_rfl)
def pl72 : zQu := plans []
noncomputable def xf72 : XFunc := xOf Try.f72 pl72
theorem ff72 : zQk Try.prog 72 xf72 := zQm Try.func72 (by kernel_rfl)
def pl73 : zQu := plans [(2, [(0, []), (1, []), (2, []), (3, []), (4, [1, 0]), (5, []), (6, [])])]
noncomputable def xf73 : XFunc := xOf Try.f73 pl73
theorem ff73 : zQk Try.prog 73 xf73 := zQm Try.func73 (by kernel_rfl)
def pl74 : zQu := plans []
noncomputable def xf74 : XFunc := xOf Try.f74 pl74
theorem ff74 : zQk Try.prog 74 xf74 := zQm Try.func74 (by kernel_rfl)
def pl75 : zQu := plans []
noncomputable def xf75 : XFunc := xOf Try.f75 pl75
theorem ff75 : zQk Try.prog 75 xf75 := zQm Try.func75 (by kernel_rfl)
def pl76 : zQu := plans []
noncomputable def xf76 : XFunc := xOf Try.f76 pl76
theorem ff76 : zQk Try.prog 76 xf76 := zQm Try.func76 (by kernel_rfl)
def pl77 : zQu := plans []
noncomputable def xf77 : XFunc := xOf Try.f77 pl77
theorem ff77 : zQk Try.prog 77 xf77 := zQm Try.func77 (by kernel_rfl)
def pl78 : zQu := plans []
noncomputable def xf78 : XFunc := xOf Try.f78 pl78
theorem ff78 : zQk Try.prog 78 xf78 := zQm Try.func78 (by kernel_rfl)
def pl79 : zQu := plans []
noncomputable def xf79 : XFunc := xOf Try.f79 pl79
theorem ff79 : zQk Try.prog 79 xf79 := zQm Try.func79 (by kernel_rfl)
def pl80 : zQu := plans []
noncomputable def xf80 : XFunc := xOf Try.f80 pl80
theorem ff80 : zQk Try.prog 80 xf80 := zQm Try.func80 (by kernel_rfl)
def pl81 : zQu := plans []
noncomputable def xf81 : XFunc := xOf Try.f81 pl81
theorem ff81 : zQk Try.prog 81 xf81 := zQm Try.func81 (by kernel_rfl)
def pl82 : zQu := plans []
noncomputable def xf82 : XFunc := xOf Try.f82 pl82
theorem ff82 : zQk Try.prog 82 xf82 := zQm Try.func82 (by kernel_rfl)
def pl83 : zQu := plans []
noncomputable def xf83 : XFunc := xOf Try.f83 pl83
theorem ff83 : zQk Try.prog 83 xf83 := zQm Try.func83 (by kernel_rfl)
def pl84 : zQu := plans [(2, [(0, []), (1, []), (2, []), (3, []), (4, []), (5, [])]), (3, [(0, []), (1, []), (2, []), (3, []), (5, []), (6, []), (7, []), (8, []), (9, []), (10, []), (4, [10, 9, 8, 6, 5]), (11, []), (12, []), (13, []), (14, [])])]
noncomputable def xf84 : XFunc := xOf Try.f84 pl84
theorem ff84 : zQk Try.prog 84 xf84 := zQm Try.func84 (by kernel_rfl)
def pl85 : zQu := plans []
noncomputable def xf85 : XFunc := xOf Try.f85 pl85
theorem ff85 : zQk Try.prog 85 xf85 := zQm Try.func85 (by kernel_rfl)
def pl86 : zQu := plans []
noncomputable def xf86 : XFunc := xOf Try.f86 pl86
theorem ff86 : zQk Try.prog 86 xf86 := zQm Try.func86 (by kernel_rfl)
def pl87 : zQu := plans []
noncomputable def xf87 : XFunc := xOf Try.f87 pl87
theorem ff87 : zQk Try.prog 87 xf87 := zQm Try.func87 (by kernel_rfl)
def pl88 : zQu := plans [(2, [(0, []), (1, []), (2, []), (3, []), (4, []), (5, []), (6, []), (7, []), (8, []), (9, []), (10, []), (11, [])])]
noncomputable def xf88 : XFunc := xOf Try.f88 pl88
theorem ff88 : zQk Try.prog 88 xf88 := zQm Try.func88 (by kernel_rfl)
def pl89 : zQu := plans [(2, [(0, []), (1, []), (2, []), (3, []), (4, []), (5, []), (6, []), (7, []), (8, []), (9, []), (10, []), (11, []), (12, []), (13, []), (14, [])])]
noncomputable def xf89 : XFunc := xOf Try.f89 pl89
theorem ff89 : zQk Try.prog 89 xf89 := zQm Try.func89 (by kernel_rfl)
def pl90 : zQu := plans [(1, [(0, []), (1, []), (2, []), (4, []), (5, []), (6, []), (7, []), (8, []), (9, []), (3, [9, 8, 7, 5, 4]), (10, []), (11, [])])]
noncomputable def xf90 : XFunc := xOf Try.f90 pl90
theorem ff90 : zQk Try.prog 90 xf90 := zQm Try.func90 (by kernel_rfl)
def pl91 : zQu := plans []
noncomputable def xf91 : XFunc := xOf Try.f91 pl91
theorem ff91 : zQk Try.prog 91 xf91 := zQm Try.func91 (by kernel_rfl)
def pl92 : zQu := plans []
noncomputable def xf92 : XFunc := xOf Try.f92 pl92
theorem ff92 : zQk Try.prog 92 xf92 := zQm Try.func92 (by kernel_rfl)
def pl93 : zQu := plans []
noncomputable def xf93 : XFunc := xOf Try.f93 pl93
theorem ff93 : zQk Try.prog 93 xf93 := zQm Try.func93 (by kernel_rfl)
def pl94 : zQu := plans []
noncomputable def xf94 : XFunc := xOf Try.f94 pl94
theorem ff94 : zQk Try.prog 94 xf94 := zQm Try.func94 (by kernel_rfl)
def pl95 : zQu := plans []
noncomputable def xf95 : XFunc := xOf Try.f95 pl95
theorem ff95 : zQk Try.prog 95 xf95 := zQm Try.func95 (by kernel_rfl)
def pl96 : zQu := plans []
noncomputable def xf96 : XFunc := xOf Try.f96 pl96
theorem ff96 : zQk Try.prog 96 xf96 := zQm Try.func96 (by kernel_rfl)
def pl97 : zQu := plans []
noncomputable def xf97 : XFunc := xOf Try.f97 pl97
theorem ff97 : zQk Try.prog 97 xf97 := zQm Try.func97 (by kernel_rfl)
def pl98 : zQu := plans []
noncomputable def xf98 : XFunc := xOf Try.f98 pl98
theorem ff98 : zQk Try.prog 98 xf98 := zQm Try.func98 (by kernel_rfl)
noncomputable def fns : Tab XFunc := (.node (.node (.node (.node (.node (.node (.node .leaf (some xf63) .leaf) (some xf31) (.node .leaf (some xf95) .leaf)) (some xf15) (.node (.node .leaf (some xf79) .leaf) (some xf47) .leaf)) (some xf7) (.node (.node (.node .leaf (some xf71) .leaf) (some xf39) .leaf) (some xf23) (.node (.node .leaf (some xf87) .leaf) (some xf55) .leaf))) (some xf3) (.node (.node (.node (.node .leaf (some xf67) .leaf) (some xf35) .leaf) (some xf19) (.node (.node .leaf (some xf83) .leaf) (some xf51) .leaf)) (some xf11) (.node (.node (.node .leaf (some xf75) .leaf) (some xf43) .leaf) (some xf27) (.node (.node .leaf (some xf91) .leaf) (some xf59) .leaf)))) none (.node (.node (.node (.node (.node .leaf (some xf65) .leaf) (some xf33) (.node .leaf (some xf97) .leaf)) (some xf17) (.node (.node .leaf (some xf81) .leaf) (some xf49) .leaf)) (some xf9) (.node (.node (.node .leaf (some xf73) .leaf) (some xf41) .leaf) (some xf25) (.node (.node .leaf (some xf89) .leaf) (some xf57) .leaf))) (some xf5) (.node (.node (.node (.node .leaf (some xf69) .leaf) (some xf37) .leaf) (some xf21) (.node (.node .leaf (some xf85) .leaf) (some xf53) .leaf)) (some xf13) (.node (.node (.node .leaf (some xf77) .leaf) (some xf45) .leaf) (some xf29) (.node (.node .leaf (some xf93) .leaf) (some xf61) .leaf))))) none (.node (.node (.node (.node (.node (.node .leaf (some xf64) .leaf) (some xf32) (.node .leaf (some xf96) .leaf)) (some xf16) (.node (.node .leaf (some xf80) .leaf) (some xf48) .leaf)) (some xf8) (.node (.node (.node .leaf (some xf72) .leaf) (some xf40) .leaf) (some xf24) (.node (.node .leaf (some xf88) .leaf) (some xf56) .leaf))) (some xf4) (.node (.node (.node (.node .leaf (some xf68) .leaf) (some xf36) .leaf) (some xf20) (.node (.node .leaf (some xf84) .leaf) (some xf52) .leaf)) (some xf12) (.node (.node (.node .leaf (some xf76) .leaf) (some xf44) .leaf) (some xf28) (.node (.node .leaf (some xf92) .leaf) (some xf60) .leaf)))) (some xf2) (.node (.node (.node (.node (.node .leaf (some xf66) .leaf) (some xf34) (.node .leaf (some xf98) .leaf)) (some xf18) (.node (.node .leaf (some xf82) .leaf) (some xf50) .leaf)) (some xf10) (.node (.node (.node .leaf (some xf74) .leaf) (some xf42) .leaf) (some xf26) (.node (.node .leaf (some xf90) .leaf) (some xf58) .leaf))) (some xf6) (.node (.node (.node (.node .leaf (some xf70) .leaf) (some xf38) .leaf) (some xf22) (.node (.node .leaf (some xf86) .leaf) (some xf54) .leaf)) (some xf14) (.node (.node (.node .leaf (some xf78) .leaf) (some xf46) .leaf) (some xf30) (.node (.node .leaf (some xf94) .leaf) (some xf62) .leaf))))))
theorem und : Tab.All (fun t i => Try.prog.underlying t = some i.desc) tys id := by unfold tys; exact (.none _ (.some _ _ (by kernel_rfl) (.some _ _ (by kernel_rfl) (.some _ _ (by kernel_rfl) (.some _ _ (by kernel_rfl) (.some _ _ (by kernel_rfl) (.some _ _ (by kernel_rfl) (.some _ _ (by kernel_rfl) (.leaf _) (.leaf _)) (.leaf _)) (.some _ _ (by kernel_rfl) (.leaf _) (.leaf _))) (.none _ (.some _ _ (by kernel_rfl) (.leaf _) (.leaf _)) (.some _ _ (by kernel_rfl) (.leaf _) (.leaf _)))) (.some _ _ (by kernel_rfl) (.some _ _ (by kernel_rfl) (.some _ _ (by kernel_rfl) (.leaf _) (.leaf _)) (.some _ _ (by kernel_rfl) (.leaf _) (.leaf _))) (.some _ _ (by kernel_rfl) (.some _ _ (by kernel_rfl) (.leaf _) (.leaf _)) (.some _ _ (by kernel_rfl) (.leaf _) (.leaf _))))) (.some _ _ (by kernel_rfl) (.some _ _ (by kernel_rfl) (.some _ _ (by kernel_rfl) (.some _ _ (by kernel_rfl) (.some _ _ (by kernel_rfl) (.leaf _) (.leaf _)) (.leaf _)) (.some _ _ (by kernel_rfl) (.leaf _) (.leaf _))) (.none _ (.some _ _ (by kernel_rfl) (.leaf _) (.leaf _)) (.some _ _ (by kernel_rfl) (.leaf _) (.leaf _)))) (.some _ _ (by kernel_rfl) (.some _ _ (by kernel_rfl) (.some _ _ (by kernel_rfl) (.leaf _) (.leaf _)) (.some _ _ (by kernel_rfl) (.leaf _) (.leaf _))) (.some _ _ (by kernel_rfl) (.some _ _ (by kernel_rfl) (.leaf _) (.leaf _)) (.some _ _ (by kernel_rfl) (.leaf _) (.leaf _)))))) (.some _ _ (by kernel_rfl) (.some _ _ (by kernel_rfl) (.some _ _ (by kernel_rfl) (.some _ _ (by kernel_rfl) (.some _ _ (by kernel_rfl) (.some _ _ (by kernel_rfl) (.leaf _) (.leaf _)) (.leaf _)) (.some _ _ (by kernel_rfl) (.leaf _) (.leaf _))) (.none _ (.some _ _ (by kernel_rfl) (.leaf _) (.leaf _)) (.leaf _))) (.some _ _ (by kernel_rfl) (.some _ _ (by kernel_rfl) (.some _ _ (by kernel_rfl) (.leaf _) (.leaf _)) (.some _ _ (by kernel_rfl) (.leaf _) (.leaf _))) (.some _ _ (by kernel_rfl) (.some _ _ (by kernel_rfl) (.leaf _) (.leaf _)) (.some _ _ (by kernel_rfl) (.leaf _) (.leaf _))))) (.some _ _ (by kernel_rfl) (.some _ _ (by kernel_rfl) (.some _ _ (by kernel_rfl) (.some _ _ (by kernel_rfl) (.leaf _) (.leaf _)) (.some _ _ (by kernel_rfl) (.leaf _) (.leaf _))) (.some _ _ (by kernel_rfl) (.some _ _ (by kernel_rfl) (.leaf _) (.leaf _)) (.some _ _ (by kernel_rfl) (.leaf _) (.leaf _)))) (.some _ _ (by kernel_rfl) (.some _ _ (by kernel_rfl) (.some _ _ (by kernel_rfl) (.leaf _) (.leaf _)) (.some _ _ (by kernel_rfl) (.leaf _) (.leaf _))) (.some _ _ (by kernel_rfl) (.some _ _ (by kernel_rfl) (.leaf _) (.leaf _)) (.some _ _ (by kernel_rfl) (.leaf _) (.leaf _))))))) (.some _ _ (by kernel_rfl) (.some _ _ (by kernel_rfl) (.some _ _ (by kernel_rfl) (.some _ _ (by kernel_rfl) (.some _ _ (by kernel_rfl) (.some _ _ (by kernel_rfl) (.some _ _ (by kernel_rfl) (.leaf _) (.leaf _)) (.leaf _)) (.some _ _ (by kernel_rfl) (.leaf _) (.leaf _))) (.some _ _ (by kernel_rfl) (.some _ _ (by kernel_rfl) (.leaf _) (.leaf _)) (.some _ _ (by kernel_rfl) (.leaf _) (.leaf _)))) (.some _ _ (by kernel_rfl) (.some _ _ (by kernel_rfl) (.some _ _ (by kernel_rfl) (.leaf _) (.leaf _)) (.some _ _ (by kernel_rfl) (.leaf _) (.leaf _))) (.some _ _ (by kernel_rfl) (.some _ _ (by kernel_rfl) (.leaf _) (.leaf _)) (.some _ _ (by kernel_rfl) (.leaf _) (.leaf _))))) (.some _ _ (by kernel_rfl) (.some _ _ (by kernel_rfl) (.some _ _ (by kernel_rfl) (.some _ _ (by kernel_rfl) (.some _ _ (by kernel_rfl) (.leaf _) (.leaf _)) (.leaf _)) (.some _ _ (by kernel_rfl) (.leaf _) (.leaf _))) (.some _ _ (by kernel_rfl) (.some _ _ (by kernel_rfl) (.leaf _) (.leaf _)) (.some _ _ (by kernel_rfl) (.leaf _) (.leaf _)))) (.some _ _ (by kernel_rfl) (.some _ _ (by kernel_rfl) (.some _ _ (by kernel_rfl) (.leaf _) (.leaf _)) (.some _ _ (by kernel_rfl) (.leaf _) (.leaf _))) (.some _ _ (by kernel_rfl) (.some _ _ (by kernel_rfl) (.leaf _) (.leaf _)) (.some _ _ (by kernel_rfl) (.leaf _) (.leaf _)))))) (.some _ _ (by kernel_rfl) (.some _ _ (by kernel_rfl) (.some _ _ (by kernel_rfl) (.none _ (.some _ _ (by kernel_rfl) (.some _ _ (by kernel_rfl) (.leaf _) (.leaf _)) (.leaf _)) (.some _ _ (by kernel_rfl) (.leaf _) (.leaf _))) (.some _ _ (by kernel_rfl) (.some _ _ (by kernel_rfl) (.leaf _) (.leaf _)) (.some _ _ (by kernel_rfl) (.leaf _) (.leaf _)))) (.none _ (.some _ _ (by kernel_rfl) (.some _ _ (by kernel_rfl) (.leaf _) (.leaf _)) (.some _ _ (by kernel_rfl) (.leaf _) (.leaf _))) (.some _ _ (by kernel_rfl) (.some _ _ (by kernel_rfl) (.leaf _) (.leaf _)) (.some _ _ (by kernel_rfl) (.leaf _) (.leaf _))))) (.some _ _ (by kernel_rfl) (.some _ _ (by kernel_rfl) (.some _ _ (by kernel_rfl) (.some _ _ (by kernel_rfl) (.leaf _) (.leaf _)) (.some _ _ (by kernel_rfl) (.leaf _) (.leaf _))) (.some _ _ (by kernel_rfl) (.some _ _ (by kernel_rfl) (.leaf _) (.leaf _)) (.some _ _ (by kernel_rfl) (.leaf _) (.leaf _)))) (.some _ _ (by kernel_rfl) (.some _ _ (by kernel_rfl) (.some _ _ (by kernel_rfl) (.leaf _) (.leaf _)) (.some _ _ (by kernel_rfl) (.leaf _) (.leaf _))) (.some _ _ (by kernel_rfl) (.some _ _ (by kernel_rfl) (.leaf _) (.leaf _)) (.some _ _ (by kernel_rfl) (.leaf _) (.leaf _))))))))
theorem fits : tys.allB (fitB Try.prog) id = true := by kernel_rfl
theorem fnsAll : Tab.All (zQk Try.prog) fns id := by unfold fns; exact (.none _ (.none _ (.some _ _ ff3 (.some _ _ ff7 (.some _ _ ff15 (.some _ _ ff31 (.some _ _ ff63 (.leaf _) (.leaf _)) (.some _ _ ff95 (.leaf _) (.leaf _))) (.some _ _ ff47 (.some _ _ ff79 (.leaf _) (.leaf _)) (.leaf _))) (.some _ _ ff23 (.some _ _ ff39 (.some _ _ ff71 (.leaf _) (.leaf _)) (.leaf _)) (.some _ _ ff55 (.some _ _ ff87 (.leaf _) (.leaf _)) (.leaf _)))) (.some _ _ ff11 (.some _ _ ff19 (.some _ _ ff35 (.some _ _ ff67 (.leaf _) (.leaf _)) (.leaf _)) (.some _ _ ff51 (.some _ _ ff83 (.leaf _) (.leaf _)) (.leaf _))) (.some _ _ ff27 (.some _ _ ff43 (.some _ _ ff75 (.leaf _) (.leaf _)) (.leaf _)) (.some _ _ ff59 (.some _ _ ff91 (.leaf _) (.leaf _)) (.leaf _))))) (.some _ _ ff5 (.some _ _ ff9 (.some _ _ ff17 (.some _ _ ff33 (.some _ _ ff65 (.leaf _) (.leaf _)) (.some _ _ ff97 (.leaf _) (.leaf _))) (.some _ _ ff49 (.some _ _ ff81 (.leaf _) (.leaf _)) (.leaf _))) (.some _ _ ff25 (.some _ _ ff41 (.some _ _ ff73 (.leaf _) (.leaf _)) (.leaf _)) (.some _ _ ff57 (.some _ _ ff89 (.leaf _) (.leaf _)) (.leaf _)))) (.some _ _ ff13 (.some _ _ ff21 (.some _ _ ff37 (.some _ _ ff69 (.leaf _) (.leaf _)) (.leaf _)) (.some _ _ ff53 (.some _ _ ff85 (.leaf _) (.leaf _)) (.leaf _))) (.some _ _ ff29 (.some _ _ ff45 (.some _ _ ff77 (.leaf _) (.leaf _)) (.leaf _)) (.some _ _ ff61 (.some _ _ ff93 (.leaf _) (.leaf _)) (.leaf _)))))) (.some _ _ ff2 (.some _ _ ff4 (.some _ _ ff8 (.some _ _ ff16 (.some _ _ ff32 (.some _ _ ff64 (.leaf _) (.leaf _)) (.some _ _ ff96 (.leaf _) (.leaf _))) (.some _ _ ff48 (.some _ _ ff80 (.leaf _) (.leaf _)) (.leaf _))) (.some _ _ ff24 (.some _ _ ff40 (.some _ _ ff72 (.leaf _) (.leaf _)) (.leaf _)) (.some _ _ ff56 (.some _ _ ff88 (.leaf _) (.leaf _)) (.leaf _)))) (.some _ _ ff12 (.some _ _ ff20 (.some _ _ ff36 (.some _ _ ff68 (.leaf _) (.leaf _)) (.leaf _)) (.some _ _ ff52 (.some _ _ ff84 (.leaf _) (.leaf _)) (.leaf _))) (.some _ _ ff28 (.some _ _ ff44 (.some _ _ ff76 (.leaf _) (.leaf _)) (.leaf _)) (.some _ _ ff60 (.some _ _ ff92 (.leaf _) (.leaf _)) (.leaf _))))) (.some _ _ ff6 (.some _ _ ff10 (.some _ _ ff18 (.some _ _ ff34 (.some _ _ ff66 (.leaf _) (.leaf _)) (.some _ _ ff98 (.leaf _) (.leaf _))) (.some _ _ ff50 (.some _ _ ff82 (.leaf _) (.leaf _)) (.leaf _))) (.some _ _ ff26 (.some _ _ ff42 (.some _ _ ff74 (.leaf _) (.leaf _)) (.leaf _)) (.some _ _ ff58 (.some _ _ ff90 (.leaf _) (.leaf _)) (.leaf _)))) (.some _ _ ff14 (.some _ _ ff22 (.some _ _ ff38 (.some _ _ ff70 (.leaf _) (.leaf _)) (.leaf _)) (.some _ _ ff54 (.some _ _ ff86 (.leaf _) (.leaf _)) (.leaf _))) (.some _ _ ff30 (.some _ _ ff46 (.some _ _ ff78 (.leaf _) (.leaf _)) (.leaf _)) (.some _ _ ff62 (.some _ _ ff94 (.leaf _) (.leaf _)) (.leaf _)))))))
def vglob : Nat → Option VV := fun _ => none
noncomputable def cfg : Cfg := { ty := tys.get, code := fns.get, glob := fun _ => none, lit := fun _ => false, sum := fun _ => none }
theorem zQt : GlobT cfg vglob := wJt rfl
theorem zWt : Cfg.Ok Try.prog cfg := uQi (tysOk und fits) fnsAll (by kernel_rfl)
end Go.Proofs.Ytablhcjjfiepaaa
