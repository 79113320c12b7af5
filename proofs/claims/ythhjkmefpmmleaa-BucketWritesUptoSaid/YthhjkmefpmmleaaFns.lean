/- The functions of the program, as functions on plain data. -/
import Derived.Test.YthhjkmefpmmleaaCfg
import Derived.Test.YthhjkmefpmmleaaM6
import Derived.ProofKit
namespace Go.Proofs.Ythhjkmefpmmleaa
open Go.Eng
set_option linter.unusedVariables false
set_option maxRecDepth 100000
abbrev MBk : Type := Int × Int × MixE Int × Unit
abbrev LBk : Type := Int × Int × List Int × Unit
def uk (i : Nat) : LSpec := { id := i, known := false, toks := [], items := [], junk := [], tails := [] }
abbrev I64 : Type := Int × Int × Int × Int × Int × Int × Int × Int × Int × Int × Int × Int × Int × Int × Int × Int × Int × Int × Int × Int × Int × Int × Int × Int × Int × Int × Int × Int × Int × Int × Int × Int × Int × Int × Int × Int × Int × Int × Int × Int × Int × Int × Int × Int × Int × Int × Int × Int × Int × Int × Int × Int × Int × Int × Int × Int × Int × Int × Int × Int × Int × Int × Int × Int
@[reducible] def n32 (x : List Int) : List Int := [Dat.get x 0 0, Dat.get x 1 0, Dat.get x 2 0, Dat.get x 3 0, Dat.get x 4 0, Dat.get x 5 0, Dat.get x 6 0, Dat.get x 7 0, Dat.get x 8 0, Dat.get x 9 0, Dat.get x 10 0, Dat.get x 11 0, Dat.get x 12 0, Dat.get x 13 0, Dat.get x 14 0, Dat.get x 15 0, Dat.get x 16 0, Dat.get x 17 0, Dat.get x 18 0, Dat.get x 19 0, Dat.get x 20 0, Dat.get x 21 0, Dat.get x 22 0, Dat.get x 23 0, Dat.get x 24 0, Dat.get x 25 0, Dat.get x 26 0, Dat.get x 27 0, Dat.get x 28 0, Dat.get x 29 0, Dat.get x 30 0, Dat.get x 31 0]
@[reducible] def p32 (T : I64) : List Int := [T.1, T.2.1, T.2.2.1, T.2.2.2.1, T.2.2.2.2.1, T.2.2.2.2.2.1, T.2.2.2.2.2.2.1, T.2.2.2.2.2.2.2.1, T.2.2.2.2.2.2.2.2.1, T.2.2.2.2.2.2.2.2.2.1, T.2.2.2.2.2.2.2.2.2.2.1, T.2.2.2.2.2.2.2.2.2.2.2.1, T.2.2.2.2.2.2.2.2.2.2.2.2.1, T.2.2.2.2.2.2.2.2.2.2.2.2.2.1, T.2.2.2.2.2.2.2.2.2.2.2.2.2.2.1, T.2.2.2.2.2.2.2.2.2.2.2.2.2.2.2.1, T.2.2.2.2.2.2.2.2.2.2.2.2.2.2.2.2.1, T.2.2.2.2.2.2.2.2.2.2.2.2.2.2.2.2.2.1, T.2.2.2.2.2.2.2.2.2.2.2.2.2.2.2.2.2.2.1, T.2.2.2.2.2.2.2.2.2.2.2.2.2.2.2.2.2.2.2.1, T.2.2.2.2.2.2.2.2.2.2.2.2.2.2.2.2.2.2.2.2.1, T.2.2.2.2.2.2.2.2.2.2.2.2.2.2.2.2.2.2.2.2.2.1, T.2.2.2.2.2.2.2.2.2.2.2.2.2.2.2.2.2.2.2.2.2.2.1, T.2.2.2.2.2.2.2.2.2.2.2.2.2.2.2.2.2.2.2.2.2.2.2.1, T.2.2.2.2.2.2.2.2.2.2.2.2.2.2.2.2.2.2.2.2.2.2.2.2.1, T.2.2.2.2.2.2.2.2.2.2.2.2.2.2.2.2.2.2.2.2.2.2.2.2.2.1, T.2.2.2.2.2.2.2.2.2.2.2.2.2.2.2.2.2.2.2.2.2.2.2.2.2.2.1, T.2.2.2.2.2.2.2.2.2.2.2.2.2.2.2.2.2.2.2.2.2.2.2.2.2.2.2.1, T.2.2.2.2.2.2.2.2.2.2.2.2.2.2.2.2.2.2.2.2.2.2.2.2.2.2.2.2.1, T.2.2.2.2.2.2.2.2.2.2.2.2.2.2.2.2.2.2.2.2.2.2.2.2.2.2.2.2.2.1, T.2.2.2.2.2.2.2.2.2.2.2.2.2.2.2.2.2.2.2.2.2.2.2.2.2.2.2.2.2.2.1, T.2.2.2.2.2.2.2.2.2.2.2.2.2.2.2.2.2.2.2.2.2.2.2.2.2.2.2.2.2.2.2.1]
@[reducible] def p64 (T : I64) : List Int := [T.2.2.2.2.2.2.2.2.2.2.2.2.2.2.2.2.2.2.2.2.2.2.2.2.2.2.2.2.2.2.2.2.1, T.2.2.2.2.2.2.2.2.2.2.2.2.2.2.2.2.2.2.2.2.2.2.2.2.2.2.2.2.2.2.2.2.2.1, T.2.2.2.2.2.2.2.2.2.2.2.2.2.2.2.2.2.2.2.2.2.2.2.2.2.2.2.2.2.2.2.2.2.2.1, T.2.2.2.2.2.2.2.2.2.2.2.2.2.2.2.2.2.2.2.2.2.2.2.2.2.2.2.2.2.2.2.2.2.2.2.1, T.2.2.2.2.2.2.2.2.2.2.2.2.2.2.2.2.2.2.2.2.2.2.2.2.2.2.2.2.2.2.2.2.2.2.2.2.1, T.2.2.2.2.2.2.2.2.2.2.2.2.2.2.2.2.2.2.2.2.2.2.2.2.2.2.2.2.2.2.2.2.2.2.2.2.2.1, T.2.2.2.2.2.2.2.2.2.2.2.2.2.2.2.2.2.2.2.2.2.2.2.2.2.2.2.2.2.2.2.2.2.2.2.2.2.2.1, T.2.2.2.2.2.2.2.2.2.2.2.2.2.2.2.2.2.2.2.2.2.2.2.2.2.2.2.2.2.2.2.2.2.2.2.2.2.2.2.1, T.2.2.2.2.2.2.2.2.2.2.2.2.2.2.2.2.2.2.2.2.2.2.2.2.2.2.2.2.2.2.2.2.2.2.2.2.2.2.2.2.1, T.2.2.2.2.2.2.2.2.2.2.2.2.2.2.2.2.2.2.2.2.2.2.2.2.2.2.2.2.2.2.2.2.2.2.2.2.2.2.2.2.2.1, T.2.2.2.2.2.2.2.2.2.2.2.2.2.2.2.2.2.2.2.2.2.2.2.2.2.2.2.2.2.2.2.2.2.2.2.2.2.2.2.2.2.2.1, T.2.2.2.2.2.2.2.2.2.2.2.2.2.2.2.2.2.2.2.2.2.2.2.2.2.2.2.2.2.2.2.2.2.2.2.2.2.2.2.2.2.2.2.1, T.2.2.2.2.2.2.2.2.2.2.2.2.2.2.2.2.2.2.2.2.2.2.2.2.2.2.2.2.2.2.2.2.2.2.2.2.2.2.2.2.2.2.2.2.1, T.2.2.2.2.2.2.2.2.2.2.2.2.2.2.2.2.2.2.2.2.2.2.2.2.2.2.2.2.2.2.2.2.2.2.2.2.2.2.2.2.2.2.2.2.2.1, T.2.2.2.2.2.2.2.2.2.2.2.2.2.2.2.2.2.2.2.2.2.2.2.2.2.2.2.2.2.2.2.2.2.2.2.2.2.2.2.2.2.2.2.2.2.2.1, T.2.2.2.2.2.2.2.2.2.2.2.2.2.2.2.2.2.2.2.2.2.2.2.2.2.2.2.2.2.2.2.2.2.2.2.2.2.2.2.2.2.2.2.2.2.2.2.1, T.2.2.2.2.2.2.2.2.2.2.2.2.2.2.2.2.2.2.2.2.2.2.2.2.2.2.2.2.2.2.2.2.2.2.2.2.2.2.2.2.2.2.2.2.2.2.2.2.1, T.2.2.2.2.2.2.2.2.2.2.2.2.2.2.2.2.2.2.2.2.2.2.2.2.2.2.2.2.2.2.2.2.2.2.2.2.2.2.2.2.2.2.2.2.2.2.2.2.2.1, T.2.2.2.2.2.2.2.2.2.2.2.2.2.2.2.2.2.2.2.2.2.2.2.2.2.2.2.2.2.2.2.2.2.2.2.2.2.2.2.2.2.2.2.2.2.2.2.2.2.2.1, T.2.2.2.2.2.2.2.2.2.2.2.2.2.2.2.2.2.2.2.2.2.2.2.2.2.2.2.2.2.2.2.2.2.2.2.2.2.2.2.2.2.2.2.2.2.2.2.2.2.2.2.1, T.2.2.2.2.2.2.2.2.2.2.2.2.2.2.2.2.2.2.2.2.2.2.2.2.2.2.2.2.2.2.2.2.2.2.2.2.2.2.2.2.2.2.2.2.2.2.2.2.2.2.2.2.1, T.2.2.2.2.2.2.2.2.2.2.2.2.2.2.2.2.2.2.2.2.2.2.2.2.2.2.2.2.2.2.2.2.2.2.2.2.2.2.2.2.2.2.2.2.2.2.2.2.2.2.2.2.2.1, T.2.2.2.2.2.2.2.2.2.2.2.2.2.2.2.2.2.2.2.2.2.2.2.2.2.2.2.2.2.2.2.2.2.2.2.2.2.2.2.2.2.2.2.2.2.2.2.2.2.2.2.2.2.2.1, T.2.2.2.2.2.2.2.2.2.2.2.2.2.2.2.2.2.2.2.2.2.2.2.2.2.2.2.2.2.2.2.2.2.2.2.2.2.2.2.2.2.2.2.2.2.2.2.2.2.2.2.2.2.2.2.1, T.2.2.2.2.2.2.2.2.2.2.2.2.2.2.2.2.2.2.2.2.2.2.2.2.2.2.2.2.2.2.2.2.2.2.2.2.2.2.2.2.2.2.2.2.2.2.2.2.2.2.2.2.2.2.2.2.1, T.2.2.2.2.2.2.2.2.2.2.2.2.2.2.2.2.2.2.2.2.2.2.2.2.2.2.2.2.2.2.2.2.2.2.2.2.2.2.2.2.2.2.2.2.2.2.2.2.2.2.2.2.2.2.2.2.2.1, T.2.2.2.2.2.2.2.2.2.2.2.2.2.2.2.2.2.2.2.2.2.2.2.2.2.2.2.2.2.2.2.2.2.2.2.2.2.2.2.2.2.2.2.2.2.2.2.2.2.2.2.2.2.2.2.2.2.2.1, T.2.2.2.2.2.2.2.2.2.2.2.2.2.2.2.2.2.2.2.2.2.2.2.2.2.2.2.2.2.2.2.2.2.2.2.2.2.2.2.2.2.2.2.2.2.2.2.2.2.2.2.2.2.2.2.2.2.2.2.1, T.2.2.2.2.2.2.2.2.2.2.2.2.2.2.2.2.2.2.2.2.2.2.2.2.2.2.2.2.2.2.2.2.2.2.2.2.2.2.2.2.2.2.2.2.2.2.2.2.2.2.2.2.2.2.2.2.2.2.2.2.1, T.2.2.2.2.2.2.2.2.2.2.2.2.2.2.2.2.2.2.2.2.2.2.2.2.2.2.2.2.2.2.2.2.2.2.2.2.2.2.2.2.2.2.2.2.2.2.2.2.2.2.2.2.2.2.2.2.2.2.2.2.2.1, T.2.2.2.2.2.2.2.2.2.2.2.2.2.2.2.2.2.2.2.2.2.2.2.2.2.2.2.2.2.2.2.2.2.2.2.2.2.2.2.2.2.2.2.2.2.2.2.2.2.2.2.2.2.2.2.2.2.2.2.2.2.2.1, T.2.2.2.2.2.2.2.2.2.2.2.2.2.2.2.2.2.2.2.2.2.2.2.2.2.2.2.2.2.2.2.2.2.2.2.2.2.2.2.2.2.2.2.2.2.2.2.2.2.2.2.2.2.2.2.2.2.2.2.2.2.2.2]
@[reducible] def v64 : List SK := [.val (.int .u8), .val (.int .u8), .val (.int .u8), .val (.int .u8), .val (.int .u8), .val (.int .u8), .val (.int .u8), .val (.int .u8), .val (.int .u8), .val (.int .u8), .val (.int .u8), .val (.int .u8), .val (.int .u8), .val (.int .u8), .val (.int .u8), .val (.int .u8), .val (.int .u8), .val (.int .u8), .val (.int .u8), .val (.int .u8), .val (.int .u8), .val (.int .u8), .val (.int .u8), .val (.int .u8), .val (.int .u8), .val (.int .u8), .val (.int .u8), .val (.int .u8), .val (.int .u8), .val (.int .u8), .val (.int .u8), .val (.int .u8), .val (.int .u8), .val (.int .u8), .val (.int .u8), .val (.int .u8), .val (.int .u8), .val (.int .u8), .val (.int .u8), .val (.int .u8), .val (.int .u8), .val (.int .u8), .val (.int .u8), .val (.int .u8), .val (.int .u8), .val (.int .u8), .val (.int .u8), .val (.int .u8), .val (.int .u8), .val (.int .u8), .val (.int .u8), .val (.int .u8), .val (.int .u8), .val (.int .u8), .val (.int .u8), .val (.int .u8), .val (.int .u8), .val (.int .u8), .val (.int .u8), .val (.int .u8), .val (.int .u8), .val (.int .u8), .val (.int .u8), .val (.int .u8)]
def sp0 (f : Nat) : List LSpec × List Nat := ([], [])
noncomputable def ref09_Great (d0 : List LBk × Int) : Option Bool :=
 Dat.loop (fun (s1 : Int × Int) k2 =>
 (bif (Dat.ilt s1.2 (Dat.ofN (Dat.len d0.1))) then (bif (Dat.pickB true (Dat.ilt s1.2 200) false) then if (Dat.Ix s1.2 (Dat.len d0.1)) then Dat.bnd (Dat.get d0.1 (Dat.toN s1.2) (0, (0, (([] : List Int), ())))) fun x5 =>
 Dat.bnd (Dat.wrap .i64 (Dat.add s1.1 (Dat.imax false (Dat.ofN (Dat.len x5.2.2.1)) 1000))) fun x6 =>
 Dat.bnd (Dat.wrap .i64 (Dat.add s1.2 1)) fun x7 =>
 k2 (x6, x7)
 else none
 else (bif (Dat.igt (Dat.ofN (Dat.len d0.1)) d0.2) then some true
 else some (Dat.pickB false true (Dat.igt s1.1 5000))))
 else (bif (Dat.igt (Dat.ofN (Dat.len d0.1)) d0.2) then some true
 else some (Dat.pickB false true (Dat.igt s1.1 5000))))) (0, 0)
noncomputable def p_ref09_Great : PFn := { args := [(.list (.pair (.int .i64) (.pair (.int .i64) (.pair (.list (.int .u8)) .unit)))), (.int .i64)], res := [.bool], fn := ref09_Great }
def sp32_32 : List LSpec × List Nat := ([{ id := 3200, known := true, toks := [], items := [.slot 5 (.val (.int .i64)), .slot 6 (.val (.int .i64))], junk := [7, 8, 9, 10, 11, 12, 13, 14, 17, 18, 19, 20, 21, 22, 23, 24, 25, 15, 16], tails := [] }], [])
def spt32 : Tab (List LSpec × List Nat) := (.node .leaf none (.node (.node (.node (.node (.node .leaf (some sp32_32) .leaf) none .leaf) none .leaf) none .leaf) none .leaf))
def spf32 (f : Nat) : List LSpec × List Nat := (spt32.get f).getD ([], [])
theorem pd_ref09_Great : PureD Try.prog cfg 32 p_ref09_Great := fnD spf32 (l := []) cfgOk cfgGlob .nil (fun d => by kernel_rfl)
noncomputable def ref10_Great (d0 : List LBk × (List Int × (List Int × Unit))) : Option Bool :=
 Dat.bind (ref09_Great (d0.1, 10)) fun x1 =>
 some x1
noncomputable def p_ref10_Great : PFn := { args := [(.pair (.list (.pair (.int .i64) (.pair (.int .i64) (.pair (.list (.int .u8)) .unit)))) (.pair (.arr 32 (.int .u8)) (.pair (.arr 32 (.int .u8)) .unit)))], res := [.bool], fn := ref10_Great }
theorem pd_ref10_Great : PureD Try.prog cfg 14 p_ref10_Great := fnD sp0 (l := [(32, p_ref09_Great)]) cfgOk cfgGlob (.cons pd_ref09_Great .nil) (fun d => by kernel_rfl)
noncomputable def ref09_Twin (d0 : LBk) : Option LBk :=
 if (Dat.Le (Dat.addN 0 0) (Dat.len ([] : List Int))) then if (Dat.EqN (Dat.len d0.2.2.1) 0) then if (Dat.Le (Dat.addN 0 0) (Dat.len ([] : List Int))) then some (d0.1, (d0.2.1, ((Dat.seg ([] : List Int) 0 0), ())))
 else none
 else if (Dat.Big (Dat.len (Dat.seg ([] : List Int) 0 0)) (Dat.len d0.2.2.1) 1) then none
 else Dat.bnd (Dat.app (Dat.seg ([] : List Int) 0 0) d0.2.2.1) fun x9 =>
 if (Dat.Le (Dat.addN 0 (Dat.len x9)) (Dat.len x9)) then some (d0.1, (d0.2.1, ((Dat.seg x9 0 (Dat.len x9)), ())))
 else none
 else none
noncomputable def p_ref09_Twin : PFn := { args := [(.pair (.int .i64) (.pair (.int .i64) (.pair (.list (.int .u8)) .unit)))], res := [(.pair (.int .i64) (.pair (.int .i64) (.pair (.list (.int .u8)) .unit)))], fn := ref09_Twin }
def sp53_53 : List LSpec × List Nat := ([], [1])
def spt53 : Tab (List LSpec × List Nat) := (.node (.node .leaf none (.node .leaf none (.node (.node .leaf none (.node .leaf (some sp53_53) .leaf)) none .leaf))) none .leaf)
def spf53 (f : Nat) : List LSpec × List Nat := (spt53.get f).getD ([], [])
noncomputable def o_ref09_Twin : OFn := { args := [(.pair (.int .i64) (.pair (.int .i64) (.pair (.list (.int .u8)) .unit)))], ores := [(.pair (.plain (.int .i64)) (.pair (.plain (.int .i64)) (.pair (.own (.int .u8)) (.plain .unit))))], fn := ref09_Twin }
theorem od_ref09_Twin : OwnD Try.prog cfg 53 o_ref09_Twin ∧ PureD Try.prog cfg 53 o_ref09_Twin.pfn := fnO spf53 [] (l := []) (lo := []) cfgOk cfgGlob .nil .nil (fun d => by kernel_rfl)
theorem pd_ref09_Twin : PureD Try.prog cfg 53 p_ref09_Twin := od_ref09_Twin.2
noncomputable def ref09_TwinAll (d0 : List LBk) : Option (List LBk) :=
 if (Dat.EqN 0 (Dat.len ([] : List LBk))) then Dat.loop (fun (s3 : List LBk × Int) k4 =>
 (bif (Dat.ilt s3.2 (Dat.ofN (Dat.len d0))) then if (Dat.Ix s3.2 (Dat.len d0)) then Dat.bnd (Dat.get d0 (Dat.toN s3.2) (0, (0, (([] : List Int), ())))) fun x7 =>
 Dat.bind (ref09_Twin (x7.1, (x7.2.1, (x7.2.2.1, ())))) fun x8 =>
 if (Dat.Le (Dat.addN 0 1) (Dat.len ((x8.1, (x8.2.1, (x8.2.2.1, ()))) :: ([] : List LBk)))) then if (Dat.Big (Dat.len s3.1) (Dat.len (Dat.seg ((x8.1, (x8.2.1, (x8.2.2.1, ()))) :: ([] : List LBk)) 0 1)) 40) then none
 else if (Dat.EqN (Dat.len s3.1) (Dat.len s3.1)) then Dat.bnd (Dat.app s3.1 (Dat.seg ((x8.1, (x8.2.1, (x8.2.2.1, ()))) :: ([] : List LBk)) 0 1)) fun x15 =>
 Dat.bnd (Dat.wrap .i64 (Dat.add s3.2 1)) fun x16 =>
 if (Dat.EqN (Dat.len x15) (Dat.len x15)) then k4 (x15, x16)
 else none
 else none
 else none
 else none
 else some s3.1)) (([] : List LBk), 0)
 else none
noncomputable def p_ref09_TwinAll : PFn := { args := [(.list (.pair (.int .i64) (.pair (.int .i64) (.pair (.list (.int .u8)) .unit))))], res := [(.list (.pair (.int .i64) (.pair (.int .i64) (.pair (.list (.int .u8)) .unit))))], fn := ref09_TwinAll }
def sp33_33 : List LSpec × List Nat := ([{ id := 3300, known := true, toks := [(3, (.pair (.int .i64) (.pair (.int .i64) (.pair (.list (.int .u8)) .unit))))], items := [.slot 3 (.slt (.pair (.int .i64) (.pair (.int .i64) (.pair (.list (.int .u8)) .unit))) (some 1000003) false), .slot 4 (.val (.int .i64))], junk := [5, 6, 7, 8, 11, 12, 13, 14, 15, 16, 17, 18, 9, 10], tails := [(1000003, 3)] }], [])
def spt33 : Tab (List LSpec × List Nat) := (.node (.node .leaf none (.node (.node (.node (.node .leaf (some sp33_33) .leaf) none .leaf) none .leaf) none .leaf)) none .leaf)
def spf33 (f : Nat) : List LSpec × List Nat := (spt33.get f).getD ([], [])
theorem pd_ref09_TwinAll : PureD Try.prog cfg 33 p_ref09_TwinAll := fnD spf33 (l := [(53, p_ref09_Twin)]) cfgOk cfgGlob (.cons pd_ref09_Twin .nil) (fun d => by kernel_rfl)
noncomputable def ref10_Twin (d0 : List LBk × (List Int × (List Int × Unit))) : Option (List LBk × (List Int × (List Int × Unit))) :=
 Dat.bind (ref09_TwinAll d0.1) fun x1 =>
 some (x1, ((n32 d0.2.1), ((n32 d0.2.2.1), ())))
noncomputable def p_ref10_Twin : PFn := { args := [(.pair (.list (.pair (.int .i64) (.pair (.int .i64) (.pair (.list (.int .u8)) .unit)))) (.pair (.arr 32 (.int .u8)) (.pair (.arr 32 (.int .u8)) .unit)))], res := [(.pair (.list (.pair (.int .i64) (.pair (.int .i64) (.pair (.list (.int .u8)) .unit)))) (.pair (.arr 32 (.int .u8)) (.pair (.arr 32 (.int .u8)) .unit)))], fn := ref10_Twin }
theorem pd_ref10_Twin : PureD Try.prog cfg 15 p_ref10_Twin := fnD sp0 (l := [(33, p_ref09_TwinAll)]) cfgOk cfgGlob (.cons pd_ref09_TwinAll .nil) (fun d => by kernel_rfl)
noncomputable def geo_Check (d0 : Int) : Option Int :=
 (bif (Dat.ilt d0 1) then some 2
 else (bif (Dat.pickB false true (Dat.igt d0 6)) then some 2
 else some 0))
noncomputable def p_geo_Check : PFn := { args := [(.int .i64)], res := [(.int .i64)], fn := geo_Check }
theorem pd_geo_Check : PureD Try.prog cfg 61 p_geo_Check := fnD sp0 (l := []) cfgOk cfgGlob .nil (fun d => by kernel_rfl)
noncomputable def geo_Leaves (d0 : Int) : Option (Int × Int) :=
 Dat.bind (geo_Check d0) fun x1 =>
 (bif (Dat.ine x1 0) then some (0, x1)
 else if (Dat.Neg d0) then none
 else Dat.bnd (Dat.shl .i64 1 d0) fun x4 =>
 some (x4, 0))
noncomputable def p_geo_Leaves : PFn := { args := [(.int .i64)], res := [(.int .i64), (.int .i64)], fn := geo_Leaves }
theorem pd_geo_Leaves : PureD Try.prog cfg 43 p_geo_Leaves := fnD sp0 (l := [(61, p_geo_Check)]) cfgOk cfgGlob (.cons pd_geo_Check .nil) (fun d => by kernel_rfl)
noncomputable def slot_size (d0 : Int × (Int × (Int × (Int × Unit)))) : Option Int :=
 Dat.bnd (Dat.wrap .i64 (Dat.add 8 d0.2.1)) fun x1 =>
 some x1
noncomputable def p_slot_size : PFn := { args := [(.pair (.int .i64) (.pair (.int .i64) (.pair (.int .i64) (.pair (.int .i64) .unit))))], res := [(.int .i64)], fn := slot_size }
theorem pd_slot_size : PureD Try.prog cfg 44 p_slot_size := fnD sp0 (l := []) cfgOk cfgGlob .nil (fun d => by kernel_rfl)
noncomputable def slot_Slots (d0 : Int × (Int × (Int × (Int × Unit)))) : Option (Int × Int) :=
 (bif (Dat.ilt d0.1 1) then some (0, 8)
 else (bif (Dat.pickB false true (Dat.igt d0.1 64)) then some (0, 8)
 else (bif (Dat.pickB false true (Dat.ilt d0.2.1 1)) then some (0, 8)
 else (bif (Dat.pickB false true (Dat.igt d0.2.1 32)) then some (0, 8)
 else Dat.bind (geo_Leaves d0.2.2.1) fun x1 =>
 (bif (Dat.ine x1.2 0) then some (0, 8)
 else (bif (Dat.pickB false true (Dat.ilt x1.1 d0.1)) then some (0, 8)
 else Dat.loop (fun (s2 : Int) k3 =>
 (bif (Dat.ile s2 4) then Dat.bind (slot_size (d0.1, (d0.2.1, (d0.2.2.1, (d0.2.2.2.1, ()))))) fun x4 =>
 Dat.bnd (Dat.wrap .i64 (Dat.mul s2 x4)) fun x5 =>
 Dat.bnd (Dat.wrap .i64 (Dat.add x5 64)) fun x6 =>
 (bif (Dat.ieq d0.2.2.2.1 x6) then some (s2, 0)
 else Dat.bnd (Dat.wrap .i64 (Dat.add s2 1)) fun x7 =>
 k3 x7)
 else some (0, 8))) 1))))))
noncomputable def p_slot_Slots : PFn := { args := [(.pair (.int .i64) (.pair (.int .i64) (.pair (.int .i64) (.pair (.int .i64) .unit))))], res := [(.int .i64), (.int .i64)], fn := slot_Slots }
def sp24_24 : List LSpec × List Nat := ([{ id := 2400, known := true, toks := [], items := [.slot 6 (.val (.int .i64))], junk := [39, 40, 43, 44, 45, 46, 47, 48, 49, 50, 51, 2, 3, 41, 42], tails := [] }], [])
def spt24 : Tab (List LSpec × List Nat) := (.node .leaf none (.node (.node (.node .leaf none (.node .leaf (some sp24_24) .leaf)) none .leaf) none .leaf))
def spf24 (f : Nat) : List LSpec × List Nat := (spt24.get f).getD ([], [])
theorem pd_slot_Slots : PureD Try.prog cfg 24 p_slot_Slots := fnD spf24 (l := [(43, p_geo_Leaves), (44, p_slot_size)]) cfgOk cfgGlob (.cons pd_geo_Leaves (.cons pd_slot_size .nil)) (fun d => by kernel_rfl)
noncomputable def slot_Check (d0 : (Int × (Int × (Int × (Int × Unit)))) × LBk) : Option Int :=
 Dat.bind (slot_Slots (d0.1.1, (d0.1.2.1, (d0.1.2.2.1, (d0.1.2.2.2.1, ()))))) fun x1 =>
 (bif (Dat.ine x1.2 0) then some x1.2
 else Dat.bind (geo_Leaves d0.1.2.2.1) fun x2 =>
 (bif (Dat.ilt d0.2.1 0) then some 8
 else (bif (Dat.pickB false true (Dat.ige d0.2.1 d0.1.1)) then some 8
 else (bif (Dat.pickB false true (Dat.ilt d0.2.2.1 0)) then some 8
 else (bif (Dat.pickB false true (Dat.ige d0.2.2.1 x2.1)) then some 8
 else (bif (Dat.pickB false true (Dat.ine (Dat.ofN (Dat.len d0.2.2.2.1)) d0.1.2.1)) then some 8
 else some 0))))))
noncomputable def p_slot_Check : PFn := { args := [(.pair (.int .i64) (.pair (.int .i64) (.pair (.int .i64) (.pair (.int .i64) .unit)))), (.pair (.int .i64) (.pair (.int .i64) (.pair (.list (.int .u8)) .unit)))], res := [(.int .i64)], fn := slot_Check }
theorem pd_slot_Check : PureD Try.prog cfg 31 p_slot_Check := fnD sp0 (l := [(24, p_slot_Slots), (43, p_geo_Leaves)]) cfgOk cfgGlob (.cons pd_slot_Slots (.cons pd_geo_Leaves .nil)) (fun d => by kernel_rfl)
noncomputable def bucket_Check (d0 : (Int × (Int × (Int × (Int × Unit)))) × (List LBk × (List Int × (List Int × Unit)))) : Option Int :=
 Dat.bind (slot_Slots (d0.1.1, (d0.1.2.1, (d0.1.2.2.1, (d0.1.2.2.2.1, ()))))) fun x1 =>
 (bif (Dat.ine x1.2 0) then some x1.2
 else (bif (Dat.igt (Dat.ofN (Dat.len d0.2.1)) x1.1) then some 8
 else Dat.loop (fun (s2 : Int × (List (Int × Int))) k3 =>
 (bif (Dat.ilt s2.1 (Dat.ofN (Dat.len d0.2.1))) then if (Dat.Ix s2.1 (Dat.len d0.2.1)) then Dat.bnd (Dat.get d0.2.1 (Dat.toN s2.1) (0, (0, (([] : List Int), ())))) fun x6 =>
 Dat.bnd (Dat.mget s2.2 x6.1) fun x7 =>
 Dat.bnd (Dat.wrap .i64 (Dat.add x7 1)) fun x8 =>
 Dat.bnd (Dat.mput s2.2 x6.1 x8) fun x9 =>
 Dat.bind (slot_Check ((d0.1.1, (d0.1.2.1, (d0.1.2.2.1, (d0.1.2.2.2.1, ())))), (x6.1, (x6.2.1, (x6.2.2.1, ()))))) fun x10 =>
 (bif (Dat.ine x10 0) then some 8
 else Dat.bnd (Dat.mget x9 x6.1) fun x11 =>
 (bif (Dat.pickB false true (Dat.igt x11 1)) then some 8
 else Dat.bnd (Dat.wrap .i64 (Dat.add s2.1 1)) fun x12 =>
 k3 (x12, x9)))
 else none
 else some 0)) (0, ([] : List (Int × Int)))))
noncomputable def p_bucket_Check : PFn := { args := [(.pair (.int .i64) (.pair (.int .i64) (.pair (.int .i64) (.pair (.int .i64) .unit)))), (.pair (.list (.pair (.int .i64) (.pair (.int .i64) (.pair (.list (.int .u8)) .unit)))) (.pair (.arr 32 (.int .u8)) (.pair (.arr 32 (.int .u8)) .unit)))], res := [(.int .i64)], fn := bucket_Check }
def sp13_13 : List LSpec × List Nat := ([{ id := 1300, known := true, toks := [], items := [.slot 28 (.val (.int .i64)), .map 1000007 .i64 .i64], junk := [29, 30, 31, 9, 32, 33, 34, 35, 36, 37, 38, 39, 40, 41, 42, 43, 44, 45, 46, 47, 4, 48], tails := [] }], [])
def spt13 : Tab (List LSpec × List Nat) := (.node (.node .leaf none (.node .leaf none (.node .leaf (some sp13_13) .leaf))) none .leaf)
def spf13 (f : Nat) : List LSpec × List Nat := (spt13.get f).getD ([], [])
theorem pd_bucket_Check : PureD Try.prog cfg 13 p_bucket_Check := fnD spf13 (l := [(24, p_slot_Slots), (31, p_slot_Check)]) cfgOk cfgGlob (.cons pd_slot_Slots (.cons pd_slot_Check .nil)) (fun d => by kernel_rfl)
noncomputable def slot_None (d0 : Int × (Int × (Int × (Int × Unit)))) : Option (List Int × Int) :=
 Dat.bind (slot_Slots (d0.1, (d0.2.1, (d0.2.2.1, (d0.2.2.2.1, ()))))) fun x1 =>
 (bif (Dat.ine x1.2 0) then some (([] : List Int), x1.2)
 else Dat.bind (slot_size (d0.1, (d0.2.1, (d0.2.2.1, (d0.2.2.2.1, ()))))) fun x2 =>
 if (Dat.MkOk x2 x2 1) then if (Dat.Le (Dat.addN 0 (Dat.toN x2)) (Dat.len (Dat.rep (α := Int) (Dat.toN x2) 0))) then some ((Dat.seg (Dat.rep (α := Int) (Dat.toN x2) 0) 0 (Dat.toN x2)), 0)
 else none
 else none)
noncomputable def p_slot_None : PFn := { args := [(.pair (.int .i64) (.pair (.int .i64) (.pair (.int .i64) (.pair (.int .i64) .unit))))], res := [(.list (.int .u8)), (.int .i64)], fn := slot_None }
theorem pd_slot_None : PureD Try.prog cfg 25 p_slot_None := fnD sp0 (l := [(24, p_slot_Slots), (44, p_slot_size)]) cfgOk cfgGlob (.cons pd_slot_Slots (.cons pd_slot_size .nil)) (fun d => by kernel_rfl)
noncomputable def slot_parts (d0 : Int × (Int × (Int × (Int × Unit)))) : Option (List Int) :=
 if (Dat.EqN (Dat.len (Dat.rep 3 0)) (Dat.len (4 :: (4 :: (d0.2.1 :: ([] : List Int)))))) then if (Dat.EqN (Dat.len (4 :: (4 :: (d0.2.1 :: ([] : List Int))))) 3) then some (4 :: (4 :: (d0.2.1 :: ([] : List Int))))
 else none
 else none
noncomputable def p_slot_parts : PFn := { args := [(.pair (.int .i64) (.pair (.int .i64) (.pair (.int .i64) (.pair (.int .i64) .unit))))], res := [(.arr 3 (.int .i64))], fn := slot_parts }
theorem pd_slot_parts : PureD Try.prog cfg 45 p_slot_parts := fnD sp0 (l := []) cfgOk cfgGlob .nil (fun d => by kernel_rfl)
noncomputable def num_together (d0 : List Int × (Int × Int)) : Option (Int × Int) :=
 (bif (Dat.igt (Dat.ofN (Dat.len d0.1)) 64) then some (0, 2)
 else Dat.loop (fun (s1 : Int × Int) k2 =>
 (bif (Dat.ilt s1.1 (Dat.ofN (Dat.len d0.1))) then if (Dat.Ix s1.1 (Dat.len d0.1)) then Dat.bnd (Dat.get d0.1 (Dat.toN s1.1) 0) fun x5 =>
 (bif (Dat.ilt x5 d0.2.1) then some (0, 2)
 else (bif (Dat.pickB false true (Dat.igt x5 d0.2.2)) then some (0, 2)
 else Dat.bnd (Dat.wrap .i64 (Dat.add s1.2 x5)) fun x6 =>
 (bif (Dat.bnot (Dat.ile x6 65536)) then some (0, 2)
 else Dat.bnd (Dat.wrap .i64 (Dat.add s1.1 1)) fun x7 =>
 k2 (x7, x6))))
 else none
 else some (s1.2, 0))) (0, 0))
noncomputable def p_num_together : PFn := { args := [(.list (.int .i64)), (.int .i64), (.int .i64)], res := [(.int .i64), (.int .i64)], fn := num_together }
def sp62_62 : List LSpec × List Nat := ([{ id := 6200, known := true, toks := [], items := [.slot 18 (.val (.int .i64)), .cells 1000008 [.val (.int .i64)]], junk := [19, 20, 21, 11, 22, 23, 24, 25, 6, 7, 26], tails := [] }], [])
def spt62 : Tab (List LSpec × List Nat) := (.node .leaf none (.node .leaf none (.node .leaf none (.node .leaf none (.node .leaf none (.node .leaf (some sp62_62) .leaf))))))
def spf62 (f : Nat) : List LSpec × List Nat := (spt62.get f).getD ([], [])
theorem pd_num_together : PureD Try.prog cfg 62 p_num_together := fnD spf62 (l := []) cfgOk cfgGlob .nil (fun d => by kernel_rfl)
noncomputable def num_fits (d0 : Int × Int) : Option Bool :=
 (bif (Dat.ige d0.2 8) then some true
 else Dat.bnd (Dat.wrap .i64 (Dat.mul 8 d0.2)) fun x1 =>
 if (Dat.Neg x1) then none
 else Dat.bnd (Dat.shr .u64 d0.1 x1) fun x4 =>
 some (Dat.pickB false true (Dat.ieq x4 0)))
noncomputable def p_num_fits : PFn := { args := [(.int .u64), (.int .i64)], res := [.bool], fn := num_fits }
theorem pd_num_fits : PureD Try.prog cfg 63 p_num_fits := fnD sp0 (l := []) cfgOk cfgGlob .nil (fun d => by kernel_rfl)
noncomputable def num_Put (d0 : List Int × (List Int)) : Option (List Int × Int) :=
 Dat.bind (num_together (d0.2, (1, 8))) fun x1 =>
 (bif (Dat.ine x1.2 0) then some (([] : List Int), x1.2)
 else (bif (Dat.ine (Dat.ofN (Dat.len d0.1)) (Dat.ofN (Dat.len d0.2))) then some (([] : List Int), 2)
 else if (Dat.MkOk 0 x1.1 1) then if (Dat.EqN (Dat.toN 0) 0) then if (Dat.EqN 0 (Dat.len ([] : List Int))) then Dat.loop (fun (s8 : List Int × Int) k9 =>
 (bif (Dat.ilt s8.2 (Dat.ofN (Dat.len d0.2))) then if (Dat.Ix s8.2 (Dat.len d0.2)) then Dat.bnd (Dat.get d0.2 (Dat.toN s8.2) 0) fun x12 =>
 if (Dat.Ix s8.2 (Dat.len d0.1)) then Dat.bnd (Dat.get d0.1 (Dat.toN s8.2) 0) fun x15 =>
 Dat.bind (num_fits (x15, x12)) fun x16 =>
 (bif (Dat.bnot x16) then some (([] : List Int), 4)
 else if (Dat.Ix s8.2 (Dat.len d0.1)) then Dat.bnd (Dat.get d0.1 (Dat.toN s8.2) 0) fun x19 =>
 if (Dat.EqN (Dat.len s8.1) (Dat.len s8.1)) then Dat.loop (fun (s22 : List Int × Int) k23 =>
 (bif (Dat.ilt s22.2 x12) then Dat.bnd (Dat.wrap .i64 (Dat.mul 8 s22.2)) fun x24 =>
 if (Dat.Neg x24) then none
 else Dat.bnd (Dat.shr .u64 x19 x24) fun x27 =>
 Dat.bnd (Dat.wrap .u8 x27) fun x28 =>
 if (Dat.Le (Dat.addN 0 1) (Dat.len (x28 :: ([] : List Int)))) then if (Dat.Big (Dat.len s22.1) (Dat.len (Dat.seg (x28 :: ([] : List Int)) 0 1)) 1) then none
 else if (Dat.EqN (Dat.len s22.1) (Dat.len s22.1)) then Dat.bnd (Dat.app s22.1 (Dat.seg (x28 :: ([] : List Int)) 0 1)) fun x35 =>
 Dat.bnd (Dat.wrap .i64 (Dat.add s22.2 1)) fun x36 =>
 if (Dat.EqN (Dat.len x35) (Dat.len x35)) then k23 (x35, x36)
 else none
 else none
 else none
 else Dat.bnd (Dat.wrap .i64 (Dat.add s8.2 1)) fun x39 =>
 if (Dat.EqN (Dat.len s22.1) (Dat.len s22.1)) then k9 (s22.1, x39)
 else none)) (s8.1, 0)
 else none
 else none)
 else none
 else none
 else if (Dat.EqN (Dat.len s8.1) (Dat.len s8.1)) then some (s8.1, 0)
 else none)) (([] : List Int), 0)
 else none
 else none
 else none))
noncomputable def p_num_Put : PFn := { args := [(.list (.int .u64)), (.list (.int .i64))], res := [(.list (.int .u8)), (.int .i64)], fn := num_Put }
def sp46_64 : List LSpec × List Nat := ([{ id := 6400, known := true, toks := [(0, (.int .u8))], items := [.slot 0 (.slt (.int .u8) (some 1000000) false), .slot 9 (.val (.int .i64))], junk := [10, 11, 7, 12, 13, 14, 15, 16, 17, 18, 19, 20], tails := [(1000000, 0)] }], [])
def sp46_46 : List LSpec × List Nat := ([{ id := 4600, known := true, toks := [(8, (.int .u8))], items := [.slot 8 (.slt (.int .u8) (some 1000008) false), .slot 28 (.val (.int .i64))], junk := [29, 30, 31, 32, 9, 10, 33, 34, 35, 36, 37, 38, 39, 4, 5, 40, 41, 42, 43, 44, 45, 46, 47], tails := [(1000008, 8)] }], [])
def spt46 : Tab (List LSpec × List Nat) := (.node .leaf none (.node (.node (.node (.node (.node (.node .leaf (some sp46_64) .leaf) none .leaf) none .leaf) none .leaf) none .leaf) none (.node .leaf none (.node .leaf none (.node (.node .leaf (some sp46_46) .leaf) none .leaf)))))
def spf46 (f : Nat) : List LSpec × List Nat := (spt46.get f).getD ([], [])
noncomputable def o_num_Put : OFn := { args := [(.list (.int .u64)), (.list (.int .i64))], ores := [(.own (.int .u8)), (.plain (.int .i64))], fn := num_Put }
theorem od_num_Put : OwnD Try.prog cfg 46 o_num_Put ∧ PureD Try.prog cfg 46 o_num_Put.pfn := fnO spf46 [] (l := [(62, p_num_together), (63, p_num_fits)]) (lo := []) cfgOk cfgGlob (.cons pd_num_together (.cons pd_num_fits .nil)) .nil (fun d => by kernel_rfl)
theorem pd_num_Put : PureD Try.prog cfg 46 p_num_Put := od_num_Put.2
noncomputable def slot_Write (d0 : (Int × (Int × (Int × (Int × Unit)))) × LBk) : Option (List Int × Int) :=
 Dat.bind (slot_Check ((d0.1.1, (d0.1.2.1, (d0.1.2.2.1, (d0.1.2.2.2.1, ())))), (d0.2.1, (d0.2.2.1, (d0.2.2.2.1, ()))))) fun x1 =>
 (bif (Dat.ine x1 0) then some (([] : List Int), x1)
 else Dat.bind (slot_parts (d0.1.1, (d0.1.2.1, (d0.1.2.2.1, (d0.1.2.2.2.1, ()))))) fun x2 =>
 if (Dat.EqN (Dat.len (Dat.rep 3 0)) 3) then Dat.bnd (Dat.wrap .u64 d0.2.1) fun x5 =>
 Dat.bnd (Dat.wrap .u64 (Dat.add x5 1)) fun x6 =>
 Dat.bnd (Dat.wrap .u64 d0.2.2.1) fun x7 =>
 if (Dat.Le 3 (Dat.len (Dat.norm 3 x2 0))) then if (Dat.Bd 2 3) then if (Dat.Lt 0 3) then if (Dat.Le (Dat.addN 0 2) (Dat.len (x6 :: (x7 :: ([] : List Int))))) then if (Dat.Le (Dat.addN 0 (Dat.subN (Dat.toN 2) 0)) (Dat.len (Dat.norm 3 x2 0))) then Dat.bind (num_Put ((Dat.seg (x6 :: (x7 :: ([] : List Int))) 0 2), (Dat.seg (Dat.norm 3 x2 0) 0 (Dat.subN (Dat.toN 2) 0)))) fun x18 =>
 if (Dat.EqN (Dat.len x18.1) 0) then if (Dat.Big (Dat.len x18.1) (Dat.len d0.2.2.2.1) 1) then none
 else none
 else if (Dat.Le (Dat.addN 0 (Dat.len x18.1)) (Dat.len x18.1)) then if (Dat.Big (Dat.len (Dat.seg x18.1 0 (Dat.len x18.1))) (Dat.len d0.2.2.2.1) 1) then none
 else Dat.bnd (Dat.app (Dat.seg x18.1 0 (Dat.len x18.1)) d0.2.2.2.1) fun x27 =>
 some (x27, x18.2)
 else none
 else none
 else none
 else if (Dat.Le (Dat.addN 0 2) (Dat.len (x6 :: (x7 :: ([] : List Int))))) then Dat.bind (num_Put ((Dat.seg (x6 :: (x7 :: ([] : List Int))) 0 2), ([] : List Int))) fun x30 =>
 if (Dat.EqN (Dat.len x30.1) 0) then if (Dat.Big (Dat.len x30.1) (Dat.len d0.2.2.2.1) 1) then none
 else none
 else if (Dat.Le (Dat.addN 0 (Dat.len x30.1)) (Dat.len x30.1)) then if (Dat.Big (Dat.len (Dat.seg x30.1 0 (Dat.len x30.1))) (Dat.len d0.2.2.2.1) 1) then none
 else Dat.bnd (Dat.app (Dat.seg x30.1 0 (Dat.len x30.1)) d0.2.2.2.1) fun x39 =>
 some (x39, x30.2)
 else none
 else none
 else none
 else none
 else none)
noncomputable def p_slot_Write : PFn := { args := [(.pair (.int .i64) (.pair (.int .i64) (.pair (.int .i64) (.pair (.int .i64) .unit)))), (.pair (.int .i64) (.pair (.int .i64) (.pair (.list (.int .u8)) .unit)))], res := [(.list (.int .u8)), (.int .i64)], fn := slot_Write }
theorem pd_slot_Write : PureD Try.prog cfg 26 p_slot_Write := fnDa sp0 [] (l := [(31, p_slot_Check), (45, p_slot_parts), (46, p_num_Put)]) (lo := [(46, o_num_Put)]) cfgOk cfgGlob (.cons pd_slot_Check (.cons pd_slot_parts (.cons pd_num_Put .nil))) (.cons od_num_Put.1 .nil) (fun d => by kernel_rfl)
noncomputable def bucket_Write (d0 : (Int × (Int × (Int × (Int × Unit)))) × (List LBk × (List Int × (List Int × Unit)))) : Option (List Int × Int) :=
 Dat.bind (bucket_Check ((d0.1.1, (d0.1.2.1, (d0.1.2.2.1, (d0.1.2.2.2.1, ())))), (d0.2.1, ((n32 d0.2.2.1), ((n32 d0.2.2.2.1), ()))))) fun x1 =>
 (bif (Dat.ine x1 0) then some (([] : List Int), x1)
 else Dat.bind (slot_None (d0.1.1, (d0.1.2.1, (d0.1.2.2.1, (d0.1.2.2.2.1, ()))))) fun x2 =>
 (bif (Dat.ine x2.2 0) then some (([] : List Int), x2.2)
 else Dat.bind (slot_Slots (d0.1.1, (d0.1.2.1, (d0.1.2.2.1, (d0.1.2.2.2.1, ()))))) fun x3 =>
 if (Dat.MkOk 0 d0.1.2.2.2.1 1) then if (Dat.EqN (Dat.toN 0) 0) then if (Dat.EqN 0 (Dat.len ([] : List Int))) then Dat.loop (fun (s10 : List Int × Int) k11 =>
 (bif (Dat.ilt s10.2 x3.1) then (bif (Dat.ilt s10.2 (Dat.ofN (Dat.len d0.2.1))) then if (Dat.Ix s10.2 (Dat.len d0.2.1)) then Dat.bnd (Dat.get d0.2.1 (Dat.toN s10.2) (0, (0, (([] : List Int), ())))) fun x14 =>
 Dat.bind (slot_Write ((d0.1.1, (d0.1.2.1, (d0.1.2.2.1, (d0.1.2.2.2.1, ())))), (x14.1, (x14.2.1, (x14.2.2.1, ()))))) fun x15 =>
 if (Dat.Big (Dat.len s10.1) (Dat.len x15.1) 1) then none
 else if (Dat.EqN (Dat.len s10.1) (Dat.len s10.1)) then Dat.bnd (Dat.app s10.1 x15.1) fun x20 =>
 Dat.bnd (Dat.wrap .i64 (Dat.add s10.2 1)) fun x21 =>
 if (Dat.EqN (Dat.len x20) (Dat.len x20)) then k11 (x20, x21)
 else none
 else none
 else none
 else if (Dat.Big (Dat.len s10.1) (Dat.len x2.1) 1) then none
 else if (Dat.EqN (Dat.len s10.1) (Dat.len s10.1)) then Dat.bnd (Dat.app s10.1 x2.1) fun x28 =>
 Dat.bnd (Dat.wrap .i64 (Dat.add s10.2 1)) fun x29 =>
 if (Dat.EqN (Dat.len x28) (Dat.len x28)) then k11 (x28, x29)
 else none
 else none)
 else if (Dat.Big (Dat.len s10.1) (Dat.len (n32 d0.2.2.1)) 1) then none
 else if (Dat.EqN (Dat.len s10.1) (Dat.len s10.1)) then Dat.bnd (Dat.app s10.1 (n32 d0.2.2.1)) fun x36 =>
 if (Dat.Big (Dat.len x36) (Dat.len (n32 d0.2.2.2.1)) 1) then none
 else if (Dat.EqN (Dat.len x36) (Dat.len x36)) then Dat.bnd (Dat.app x36 (n32 d0.2.2.2.1)) fun x41 =>
 some (x41, 0)
 else none
 else none)) (([] : List Int), 0)
 else none
 else none
 else none))
noncomputable def p_bucket_Write : PFn := { args := [(.pair (.int .i64) (.pair (.int .i64) (.pair (.int .i64) (.pair (.int .i64) .unit)))), (.pair (.list (.pair (.int .i64) (.pair (.int .i64) (.pair (.list (.int .u8)) .unit)))) (.pair (.arr 32 (.int .u8)) (.pair (.arr 32 (.int .u8)) .unit)))], res := [(.list (.int .u8)), (.int .i64)], fn := bucket_Write }
def sp8_8 : List LSpec × List Nat := ([{ id := 800, known := true, toks := [(11, (.int .u8))], items := [.slot 11 (.slt (.int .u8) (some 1000011) false), .slot 37 (.val (.int .i64))], junk := [38, 39, 12, 40, 13, 41, 42, 43, 44, 45, 47, 48, 49, 50, 51, 52, 53, 46, 54, 55, 56, 57, 58, 59], tails := [(1000011, 11)] }], [])
def spt8 : Tab (List LSpec × List Nat) := (.node .leaf none (.node (.node (.node .leaf (some sp8_8) .leaf) none .leaf) none .leaf))
def spf8 (f : Nat) : List LSpec × List Nat := (spt8.get f).getD ([], [])
theorem pd_bucket_Write : PureD Try.prog cfg 8 p_bucket_Write := fnD spf8 (l := [(13, p_bucket_Check), (25, p_slot_None), (24, p_slot_Slots), (26, p_slot_Write)]) cfgOk cfgGlob (.cons pd_bucket_Check (.cons pd_slot_None (.cons pd_slot_Slots (.cons pd_slot_Write .nil)))) (fun d => by kernel_rfl)
noncomputable def ref07_May (d0 : Int) : Option Bool :=
 (bif (Dat.ige d0 1) then some (Dat.pickB true (Dat.ile d0 6) false)
 else some false)
noncomputable def p_ref07_May : PFn := { args := [(.int .i64)], res := [.bool], fn := ref07_May }
theorem pd_ref07_May : PureD Try.prog cfg 54 p_ref07_May := fnD sp0 (l := []) cfgOk cfgGlob .nil (fun d => by kernel_rfl)
noncomputable def ref07_Many (d0 : Int) : Option Int :=
 Dat.loop (fun (s1 : Int × Int) k2 =>
 (bif (Dat.ilt s1.2 d0) then Dat.bnd (Dat.wrap .i64 (Dat.mul 2 s1.1)) fun x3 =>
 Dat.bnd (Dat.wrap .i64 (Dat.add s1.2 1)) fun x4 =>
 k2 (x3, x4)
 else some s1.1)) (1, 0)
noncomputable def p_ref07_Many : PFn := { args := [(.int .i64)], res := [(.int .i64)], fn := ref07_Many }
def sp55_55 : List LSpec × List Nat := ([{ id := 5500, known := true, toks := [], items := [.slot 3 (.val (.int .i64)), .slot 4 (.val (.int .i64))], junk := [5, 6, 7, 10, 11, 8, 9], tails := [] }], [])
def spt55 : Tab (List LSpec × List Nat) := (.node (.node (.node (.node .leaf none (.node .leaf none (.node .leaf (some sp55_55) .leaf))) none .leaf) none .leaf) none .leaf)
def spf55 (f : Nat) : List LSpec × List Nat := (spt55.get f).getD ([], [])
theorem pd_ref07_Many : PureD Try.prog cfg 55 p_ref07_Many := fnD spf55 (l := []) cfgOk cfgGlob .nil (fun d => by kernel_rfl)
noncomputable def ref09_Many (d0 : Int × (Int × (Int × (Int × Unit)))) : Option Int :=
 (bif (Dat.ilt d0.1 1) then some 0
 else (bif (Dat.pickB false true (Dat.igt d0.1 64)) then some 0
 else (bif (Dat.pickB false true (Dat.ilt d0.2.1 1)) then some 0
 else (bif (Dat.pickB false true (Dat.igt d0.2.1 32)) then some 0
 else Dat.bind (ref07_May d0.2.2.1) fun x1 =>
 (bif (Dat.pickB false true (Dat.bnot x1)) then some 0
 else Dat.bind (ref07_Many d0.2.2.1) fun x2 =>
 (bif (Dat.pickB false true (Dat.ilt x2 d0.1)) then some 0
 else Dat.loop (fun (s3 : Int) k4 =>
 (bif (Dat.ile s3 4) then Dat.bnd (Dat.wrap .i64 (Dat.add 8 d0.2.1)) fun x5 =>
 Dat.bnd (Dat.wrap .i64 (Dat.mul s3 x5)) fun x6 =>
 Dat.bnd (Dat.wrap .i64 (Dat.add x6 64)) fun x7 =>
 (bif (Dat.ieq d0.2.2.2.1 x7) then some s3
 else Dat.bnd (Dat.wrap .i64 (Dat.add s3 1)) fun x8 =>
 k4 x8)
 else some 0)) 1))))))
noncomputable def p_ref09_Many : PFn := { args := [(.pair (.int .i64) (.pair (.int .i64) (.pair (.int .i64) (.pair (.int .i64) .unit))))], res := [(.int .i64)], fn := ref09_Many }
def sp34_34 : List LSpec × List Nat := ([{ id := 3400, known := true, toks := [], items := [.slot 3 (.val (.int .i64))], junk := [36, 37, 40, 41, 42, 43, 44, 45, 46, 47, 48, 49, 2, 38, 39], tails := [] }], [])
def spt34 : Tab (List LSpec × List Nat) := (.node .leaf none (.node .leaf none (.node (.node (.node (.node .leaf (some sp34_34) .leaf) none .leaf) none .leaf) none .leaf)))
def spf34 (f : Nat) : List LSpec × List Nat := (spt34.get f).getD ([], [])
theorem pd_ref09_Many : PureD Try.prog cfg 34 p_ref09_Many := fnD spf34 (l := [(54, p_ref07_May), (55, p_ref07_Many)]) cfgOk cfgGlob (.cons pd_ref07_May (.cons pd_ref07_Many .nil)) (fun d => by kernel_rfl)
noncomputable def ref09_May (d0 : (Int × (Int × (Int × (Int × Unit)))) × LBk) : Option Bool :=
 (bif (Dat.ige d0.2.1 0) then (bif (Dat.pickB true (Dat.ilt d0.2.1 d0.1.1) false) then (bif (Dat.pickB true (Dat.ige d0.2.2.1 0) false) then Dat.bind (ref07_Many d0.1.2.2.1) fun x1 =>
 (bif (Dat.pickB true (Dat.ilt d0.2.2.1 x1) false) then some (Dat.pickB true (Dat.ieq (Dat.ofN (Dat.len d0.2.2.2.1)) d0.1.2.1) false)
 else some false)
 else some false)
 else some false)
 else some false)
noncomputable def p_ref09_May : PFn := { args := [(.pair (.int .i64) (.pair (.int .i64) (.pair (.int .i64) (.pair (.int .i64) .unit)))), (.pair (.int .i64) (.pair (.int .i64) (.pair (.list (.int .u8)) .unit)))], res := [.bool], fn := ref09_May }
theorem pd_ref09_May : PureD Try.prog cfg 56 p_ref09_May := fnD sp0 (l := [(55, p_ref07_Many)]) cfgOk cfgGlob (.cons pd_ref07_Many .nil) (fun d => by kernel_rfl)
noncomputable def ref10_May (d0 : (Int × (Int × (Int × (Int × Unit)))) × (List LBk × (List Int × (List Int × Unit)))) : Option Bool :=
 Dat.bind (ref09_Many (d0.1.1, (d0.1.2.1, (d0.1.2.2.1, (d0.1.2.2.2.1, ()))))) fun x1 =>
 (bif (Dat.igt (Dat.ofN (Dat.len d0.2.1)) x1) then some false
 else Dat.loop (fun (s2 : Int) k3 =>
 (bif (Dat.ilt s2 (Dat.ofN (Dat.len d0.2.1))) then if (Dat.Ix s2 (Dat.len d0.2.1)) then Dat.bnd (Dat.get d0.2.1 (Dat.toN s2) (0, (0, (([] : List Int), ())))) fun x6 =>
 Dat.bind (ref09_May ((d0.1.1, (d0.1.2.1, (d0.1.2.2.1, (d0.1.2.2.2.1, ())))), (x6.1, (x6.2.1, (x6.2.2.1, ()))))) fun x7 =>
 (bif (Dat.bnot x7) then some false
 else Dat.loop (fun (s8 : Int) k9 =>
 (bif (Dat.ilt s8 s2) then if (Dat.Ix s8 (Dat.len d0.2.1)) then Dat.bnd (Dat.get d0.2.1 (Dat.toN s8) (0, (0, (([] : List Int), ())))) fun x12 =>
 if (Dat.Ix s2 (Dat.len d0.2.1)) then Dat.bnd (Dat.get d0.2.1 (Dat.toN s2) (0, (0, (([] : List Int), ())))) fun x15 =>
 (bif (Dat.ieq x12.1 x15.1) then some false
 else Dat.bnd (Dat.wrap .i64 (Dat.add s8 1)) fun x16 =>
 k9 x16)
 else none
 else none
 else Dat.bnd (Dat.wrap .i64 (Dat.add s2 1)) fun x17 =>
 k3 x17)) 0)
 else none
 else some true)) 0)
noncomputable def p_ref10_May : PFn := { args := [(.pair (.int .i64) (.pair (.int .i64) (.pair (.int .i64) (.pair (.int .i64) .unit)))), (.pair (.list (.pair (.int .i64) (.pair (.int .i64) (.pair (.list (.int .u8)) .unit)))) (.pair (.arr 32 (.int .u8)) (.pair (.arr 32 (.int .u8)) .unit)))], res := [.bool], fn := ref10_May }
def sp35_35 : List LSpec × List Nat := ([{ id := 3500, known := true, toks := [], items := [.slot 5 (.val (.int .i64))], junk := [13, 14, 15, 16, 17, 20, 21, 22, 23, 24, 25, 26, 27, 4, 6, 28, 29, 30, 33, 34, 35, 36, 37, 38, 39, 40, 41, 42, 43, 44, 45, 31, 32, 18, 19], tails := [] }, { id := 3501, known := true, toks := [], items := [.slot 6 (.val (.int .i64))], junk := [28, 29, 30, 33, 34, 35, 36, 37, 38, 39, 40, 41, 42, 43, 44, 45, 4, 31, 32], tails := [] }], [])
def spt35 : Tab (List LSpec × List Nat) := (.node (.node (.node .leaf none (.node (.node (.node .leaf (some sp35_35) .leaf) none .leaf) none .leaf)) none .leaf) none .leaf)
def spf35 (f : Nat) : List LSpec × List Nat := (spt35.get f).getD ([], [])
theorem pd_ref10_May : PureD Try.prog cfg 35 p_ref10_May := fnD spf35 (l := [(34, p_ref09_Many), (56, p_ref09_May)]) cfgOk cfgGlob (.cons pd_ref09_Many (.cons pd_ref09_May .nil)) (fun d => by kernel_rfl)
noncomputable def ref01_Total (d0 : List Int) : Option Int :=
 (bif (Dat.igt (Dat.ofN (Dat.len d0)) 64) then some (-1)
 else Dat.loop (fun (s1 : Int × Int) k2 =>
 (bif (Dat.ilt s1.2 (Dat.ofN (Dat.len d0))) then if (Dat.Ix s1.2 (Dat.len d0)) then Dat.bnd (Dat.get d0 (Dat.toN s1.2) 0) fun x5 =>
 (bif (Dat.ilt x5 0) then some (-1)
 else if (Dat.Ix s1.2 (Dat.len d0)) then Dat.bnd (Dat.get d0 (Dat.toN s1.2) 0) fun x8 =>
 (bif (Dat.pickB false true (Dat.igt x8 65536)) then some (-1)
 else if (Dat.Ix s1.2 (Dat.len d0)) then Dat.bnd (Dat.get d0 (Dat.toN s1.2) 0) fun x11 =>
 Dat.bnd (Dat.wrap .i64 (Dat.add s1.1 x11)) fun x12 =>
 Dat.bnd (Dat.wrap .i64 (Dat.add s1.2 1)) fun x13 =>
 k2 (x12, x13)
 else none)
 else none)
 else none
 else (bif (Dat.igt s1.1 65536) then some (-1)
 else some s1.1))) (0, 0))
noncomputable def p_ref01_Total : PFn := { args := [(.list (.int .i64))], res := [(.int .i64)], fn := ref01_Total }
def sp75_75 : List LSpec × List Nat := ([{ id := 7500, known := true, toks := [], items := [.slot 3 (.val (.int .i64)), .slot 4 (.val (.int .i64))], junk := [8, 9, 10, 11, 14, 15, 16, 17, 18, 19, 20, 21, 22, 23, 24, 25, 2, 26, 27, 28, 29, 30, 31, 12, 13], tails := [] }], [])
def spt75 : Tab (List LSpec × List Nat) := (.node (.node (.node .leaf none (.node .leaf none (.node (.node (.node .leaf (some sp75_75) .leaf) none .leaf) none .leaf))) none .leaf) none .leaf)
def spf75 (f : Nat) : List LSpec × List Nat := (spt75.get f).getD ([], [])
theorem pd_ref01_Total : PureD Try.prog cfg 75 p_ref01_Total := fnD spf75 (l := []) cfgOk cfgGlob .nil (fun d => by kernel_rfl)
noncomputable def ref01_numbers (d0 : List Int) : Option Bool :=
 Dat.loop (fun (s1 : Int) k2 =>
 (bif (Dat.ilt s1 (Dat.ofN (Dat.len d0))) then if (Dat.Ix s1 (Dat.len d0)) then Dat.bnd (Dat.get d0 (Dat.toN s1) 0) fun x5 =>
 (bif (Dat.ilt x5 1) then some false
 else if (Dat.Ix s1 (Dat.len d0)) then Dat.bnd (Dat.get d0 (Dat.toN s1) 0) fun x8 =>
 (bif (Dat.pickB false true (Dat.igt x8 8)) then some false
 else Dat.bnd (Dat.wrap .i64 (Dat.add s1 1)) fun x9 =>
 k2 x9)
 else none)
 else none
 else Dat.bind (ref01_Total d0) fun x10 =>
 some (Dat.ige x10 0))) 0
noncomputable def p_ref01_numbers : PFn := { args := [(.list (.int .i64))], res := [.bool], fn := ref01_numbers }
def sp73_73 : List LSpec × List Nat := ([{ id := 7300, known := true, toks := [], items := [.slot 3 (.val (.int .i64))], junk := [4, 5, 6, 7, 10, 11, 12, 13, 14, 15, 16, 17, 18, 19, 20, 21, 2, 8, 9], tails := [] }], [])
def spt73 : Tab (List LSpec × List Nat) := (.node (.node .leaf none (.node (.node .leaf none (.node (.node (.node .leaf (some sp73_73) .leaf) none .leaf) none .leaf)) none .leaf)) none .leaf)
def spf73 (f : Nat) : List LSpec × List Nat := (spt73.get f).getD ([], [])
theorem pd_ref01_numbers : PureD Try.prog cfg 73 p_ref01_numbers := fnD spf73 (l := [(75, p_ref01_Total)]) cfgOk cfgGlob (.cons pd_ref01_Total .nil) (fun d => by kernel_rfl)
noncomputable def ref01_Digits (d0 : Int × Int) : Option (List Int × Bool) :=
 if (Dat.EqN 0 (Dat.len ([] : List Int))) then Dat.loop (fun (s3 : List Int × (Int × Int)) k4 =>
 (bif (Dat.ilt s3.2.2 d0.2) then if (Dat.IsZ 256) then none
 else Dat.bnd (Dat.tmod s3.2.1 256) fun x7 =>
 Dat.bnd (Dat.wrap .u8 x7) fun x8 =>
 if (Dat.Le (Dat.addN 0 1) (Dat.len (x8 :: ([] : List Int)))) then if (Dat.Big (Dat.len s3.1) (Dat.len (Dat.seg (x8 :: ([] : List Int)) 0 1)) 1) then none
 else if (Dat.EqN (Dat.len s3.1) (Dat.len s3.1)) then Dat.bnd (Dat.app s3.1 (Dat.seg (x8 :: ([] : List Int)) 0 1)) fun x15 =>
 if (Dat.IsZ 256) then none
 else Dat.bnd (Dat.wrap .u64 (Dat.tdiv s3.2.1 256)) fun x18 =>
 Dat.bnd (Dat.wrap .i64 (Dat.add s3.2.2 1)) fun x19 =>
 if (Dat.EqN (Dat.len x15) (Dat.len x15)) then k4 (x15, (x18, x19))
 else none
 else none
 else none
 else some (s3.1, (Dat.ieq s3.2.1 0)))) (([] : List Int), (d0.1, 0))
 else none
noncomputable def p_ref01_Digits : PFn := { args := [(.int .u64), (.int .i64)], res := [(.list (.int .u8)), .bool], fn := ref01_Digits }
def sp74_74 : List LSpec × List Nat := ([{ id := 7400, known := true, toks := [(6, (.int .u8))], items := [.slot 6 (.slt (.int .u8) (some 1000006) false), .slot 0 (.val (.int .u64)), .slot 7 (.val (.int .i64))], junk := [8, 9, 10, 13, 14, 15, 16, 17, 18, 19, 20, 11, 12], tails := [(1000006, 6)] }], [])
def spt74 : Tab (List LSpec × List Nat) := (.node .leaf none (.node .leaf none (.node (.node .leaf none (.node (.node (.node .leaf (some sp74_74) .leaf) none .leaf) none .leaf)) none .leaf)))
def spf74 (f : Nat) : List LSpec × List Nat := (spt74.get f).getD ([], [])
theorem pd_ref01_Digits : PureD Try.prog cfg 74 p_ref01_Digits := fnD spf74 (l := []) cfgOk cfgGlob .nil (fun d => by kernel_rfl)
noncomputable def ref01_Put (d0 : List Int × (List Int)) : Option (List Int × Int) :=
 Dat.bind (ref01_numbers d0.2) fun x1 =>
 (bif (Dat.bnot x1) then some (([] : List Int), 2)
 else (bif (Dat.pickB false true (Dat.ine (Dat.ofN (Dat.len d0.1)) (Dat.ofN (Dat.len d0.2)))) then some (([] : List Int), 2)
 else if (Dat.EqN 0 (Dat.len ([] : List Int))) then Dat.loop (fun (s4 : List Int × Int) k5 =>
 (bif (Dat.ilt s4.2 (Dat.ofN (Dat.len d0.1))) then if (Dat.Ix s4.2 (Dat.len d0.1)) then Dat.bnd (Dat.get d0.1 (Dat.toN s4.2) 0) fun x8 =>
 if (Dat.Ix s4.2 (Dat.len d0.2)) then Dat.bnd (Dat.get d0.2 (Dat.toN s4.2) 0) fun x11 =>
 Dat.bind (ref01_Digits (x8, x11)) fun x12 =>
 (bif (Dat.bnot x12.2) then some (([] : List Int), 4)
 else if (Dat.Big (Dat.len s4.1) (Dat.len x12.1) 1) then none
 else if (Dat.EqN (Dat.len s4.1) (Dat.len s4.1)) then Dat.bnd (Dat.app s4.1 x12.1) fun x17 =>
 Dat.bnd (Dat.wrap .i64 (Dat.add s4.2 1)) fun x18 =>
 if (Dat.EqN (Dat.len x17) (Dat.len x17)) then k5 (x17, x18)
 else none
 else none)
 else none
 else none
 else if (Dat.EqN (Dat.len s4.1) (Dat.len s4.1)) then some (s4.1, 0)
 else none)) (([] : List Int), 0)
 else none))
noncomputable def p_ref01_Put : PFn := { args := [(.list (.int .u64)), (.list (.int .i64))], res := [(.list (.int .u8)), (.int .i64)], fn := ref01_Put }
def sp68_68 : List LSpec × List Nat := ([{ id := 6800, known := true, toks := [(6, (.int .u8))], items := [.slot 6 (.slt (.int .u8) (some 1000006) false), .slot 7 (.val (.int .i64))], junk := [20, 21, 22, 23, 27, 28, 29, 30, 31, 32, 33, 34, 35, 26, 36, 37, 8, 9, 38, 39, 4, 5, 40, 41, 42, 24, 25], tails := [(1000006, 6)] }], [])
def spt68 : Tab (List LSpec × List Nat) := (.node .leaf none (.node (.node .leaf none (.node (.node (.node (.node .leaf (some sp68_68) .leaf) none .leaf) none .leaf) none .leaf)) none .leaf))
def spf68 (f : Nat) : List LSpec × List Nat := (spt68.get f).getD ([], [])
noncomputable def o_ref01_Put : OFn := { args := [(.list (.int .u64)), (.list (.int .i64))], ores := [(.own (.int .u8)), (.plain (.int .i64))], fn := ref01_Put }
theorem od_ref01_Put : OwnD Try.prog cfg 68 o_ref01_Put ∧ PureD Try.prog cfg 68 o_ref01_Put.pfn := fnO spf68 [] (l := [(73, p_ref01_numbers), (74, p_ref01_Digits)]) (lo := []) cfgOk cfgGlob (.cons pd_ref01_numbers (.cons pd_ref01_Digits .nil)) .nil (fun d => by kernel_rfl)
theorem pd_ref01_Put : PureD Try.prog cfg 68 p_ref01_Put := od_ref01_Put.2
noncomputable def ref09_Of (d0 : LBk) : Option (List Int) :=
 Dat.bnd (Dat.wrap .i64 (Dat.add d0.1 1)) fun x1 =>
 Dat.bnd (Dat.wrap .u64 x1) fun x2 =>
 Dat.bnd (Dat.wrap .u64 d0.2.1) fun x3 =>
 if (Dat.Le (Dat.addN 0 2) (Dat.len (x2 :: (x3 :: ([] : List Int))))) then if (Dat.Le (Dat.addN 0 2) (Dat.len (4 :: (4 :: ([] : List Int))))) then Dat.bind (ref01_Put ((Dat.seg (x2 :: (x3 :: ([] : List Int))) 0 2), (Dat.seg (4 :: (4 :: ([] : List Int))) 0 2))) fun x8 =>
 if (Dat.EqN (Dat.len x8.1) 0) then if (Dat.Big (Dat.len x8.1) (Dat.len d0.2.2.1) 1) then none
 else none
 else if (Dat.Le (Dat.addN 0 (Dat.len x8.1)) (Dat.len x8.1)) then if (Dat.Big (Dat.len (Dat.seg x8.1 0 (Dat.len x8.1))) (Dat.len d0.2.2.1) 1) then none
 else Dat.bnd (Dat.app (Dat.seg x8.1 0 (Dat.len x8.1)) d0.2.2.1) fun x17 =>
 if (Dat.EqN (Dat.len x17) (Dat.len x17)) then some x17
 else none
 else none
 else none
 else none
noncomputable def p_ref09_Of : PFn := { args := [(.pair (.int .i64) (.pair (.int .i64) (.pair (.list (.int .u8)) .unit)))], res := [(.list (.int .u8))], fn := ref09_Of }
noncomputable def o_ref09_Of : OFn := { args := [(.pair (.int .i64) (.pair (.int .i64) (.pair (.list (.int .u8)) .unit)))], ores := [(.own (.int .u8))], fn := ref09_Of }
theorem od_ref09_Of : OwnD Try.prog cfg 57 o_ref09_Of ∧ PureD Try.prog cfg 57 o_ref09_Of.pfn := fnO sp0 [] (l := [(68, p_ref01_Put)]) (lo := [(68, o_ref01_Put)]) cfgOk cfgGlob (.cons pd_ref01_Put .nil) (.cons od_ref01_Put.1 .nil) (fun d => by kernel_rfl)
theorem pd_ref09_Of : PureD Try.prog cfg 57 p_ref09_Of := od_ref09_Of.2
noncomputable def ref10_Of (d0 : (Int × (Int × (Int × (Int × Unit)))) × (List LBk × (List Int × (List Int × Unit)))) : Option (List Int) :=
 if (Dat.EqN 0 (Dat.len ([] : List Int))) then Dat.loop (fun (s3 : List Int × Int) k4 =>
 Dat.bind (ref09_Many (d0.1.1, (d0.1.2.1, (d0.1.2.2.1, (d0.1.2.2.2.1, ()))))) fun x5 =>
 (bif (Dat.ilt s3.2 x5) then (bif (Dat.ilt s3.2 (Dat.ofN (Dat.len d0.2.1))) then if (Dat.Ix s3.2 (Dat.len d0.2.1)) then Dat.bnd (Dat.get d0.2.1 (Dat.toN s3.2) (0, (0, (([] : List Int), ())))) fun x8 =>
 Dat.bind (ref09_Of (x8.1, (x8.2.1, (x8.2.2.1, ())))) fun x9 =>
 if (Dat.Big (Dat.len s3.1) (Dat.len x9) 1) then none
 else if (Dat.EqN (Dat.len s3.1) (Dat.len s3.1)) then Dat.bnd (Dat.app s3.1 x9) fun x14 =>
 Dat.bnd (Dat.wrap .i64 (Dat.add s3.2 1)) fun x15 =>
 if (Dat.EqN (Dat.len x14) (Dat.len x14)) then k4 (x14, x15)
 else none
 else none
 else none
 else Dat.bnd (Dat.wrap .i64 (Dat.add 8 d0.1.2.1)) fun x18 =>
 if (Dat.ZOk x18 1) then Dat.bnd (Dat.rep (α := Int) (Dat.toN x18) 0) fun x21 =>
 if (Dat.Big (Dat.len s3.1) (Dat.len x21) 1) then none
 else if (Dat.EqN (Dat.len s3.1) (Dat.len s3.1)) then Dat.bnd (Dat.app s3.1 x21) fun x26 =>
 Dat.bnd (Dat.wrap .i64 (Dat.add s3.2 1)) fun x27 =>
 if (Dat.EqN (Dat.len x26) (Dat.len x26)) then k4 (x26, x27)
 else none
 else none
 else none)
 else if (Dat.Big (Dat.len s3.1) (Dat.len (n32 d0.2.2.1)) 1) then none
 else if (Dat.EqN (Dat.len s3.1) (Dat.len s3.1)) then Dat.bnd (Dat.app s3.1 (n32 d0.2.2.1)) fun x34 =>
 if (Dat.Big (Dat.len x34) (Dat.len (n32 d0.2.2.2.1)) 1) then none
 else if (Dat.EqN (Dat.len x34) (Dat.len x34)) then Dat.bnd (Dat.app x34 (n32 d0.2.2.2.1)) fun x39 =>
 some x39
 else none
 else none)) (([] : List Int), 0)
 else none
noncomputable def p_ref10_Of : PFn := { args := [(.pair (.int .i64) (.pair (.int .i64) (.pair (.int .i64) (.pair (.int .i64) .unit)))), (.pair (.list (.pair (.int .i64) (.pair (.int .i64) (.pair (.list (.int .u8)) .unit)))) (.pair (.arr 32 (.int .u8)) (.pair (.arr 32 (.int .u8)) .unit)))], res := [(.list (.int .u8))], fn := ref10_Of }
def sp36_36 : List LSpec × List Nat := ([{ id := 3600, known := true, toks := [(5, (.int .u8))], items := [.slot 5 (.slt (.int .u8) (some 1000005) false), .slot 6 (.val (.int .i64))], junk := [7, 8, 9, 10, 13, 14, 15, 16, 17, 18, 19, 20, 21, 22, 23, 24, 25, 26, 27, 28, 29, 30, 11, 12], tails := [(1000005, 5)] }], [])
def spt36 : Tab (List LSpec × List Nat) := (.node .leaf none (.node (.node .leaf none (.node (.node (.node .leaf (some sp36_36) .leaf) none .leaf) none .leaf)) none .leaf))
def spf36 (f : Nat) : List LSpec × List Nat := (spt36.get f).getD ([], [])
theorem pd_ref10_Of : PureD Try.prog cfg 36 p_ref10_Of := fnD spf36 (l := [(34, p_ref09_Many), (57, p_ref09_Of)]) cfgOk cfgGlob (.cons pd_ref09_Many (.cons pd_ref09_Of .nil)) (fun d => by kernel_rfl)
noncomputable def ref10_Write (d0 : (Int × (Int × (Int × (Int × Unit)))) × (List LBk × (List Int × (List Int × Unit)))) : Option (List Int × Int) :=
 Dat.bind (ref09_Many (d0.1.1, (d0.1.2.1, (d0.1.2.2.1, (d0.1.2.2.2.1, ()))))) fun x1 =>
 (bif (Dat.ilt x1 1) then some (([] : List Int), 8)
 else Dat.bind (ref10_May ((d0.1.1, (d0.1.2.1, (d0.1.2.2.1, (d0.1.2.2.2.1, ())))), (d0.2.1, ((n32 d0.2.2.1), ((n32 d0.2.2.2.1), ()))))) fun x2 =>
 (bif (Dat.pickB false true (Dat.bnot x2)) then some (([] : List Int), 8)
 else Dat.bind (ref10_Of ((d0.1.1, (d0.1.2.1, (d0.1.2.2.1, (d0.1.2.2.2.1, ())))), (d0.2.1, ((n32 d0.2.2.1), ((n32 d0.2.2.2.1), ()))))) fun x3 =>
 some (x3, 0)))
noncomputable def p_ref10_Write : PFn := { args := [(.pair (.int .i64) (.pair (.int .i64) (.pair (.int .i64) (.pair (.int .i64) .unit)))), (.pair (.list (.pair (.int .i64) (.pair (.int .i64) (.pair (.list (.int .u8)) .unit)))) (.pair (.arr 32 (.int .u8)) (.pair (.arr 32 (.int .u8)) .unit)))], res := [(.list (.int .u8)), (.int .i64)], fn := ref10_Write }
theorem pd_ref10_Write : PureD Try.prog cfg 16 p_ref10_Write := fnD sp0 (l := [(34, p_ref09_Many), (35, p_ref10_May), (36, p_ref10_Of)]) cfgOk cfgGlob (.cons pd_ref09_Many (.cons pd_ref10_May (.cons pd_ref10_Of .nil))) (fun d => by kernel_rfl)
noncomputable def slices_Clone_byte_byte (d0 : List Int) : Option (List Int) :=
 if (Dat.Le (Dat.addN 0 0) (Dat.len ([] : List Int))) then if (Dat.EqN (Dat.len d0) 0) then if (Dat.Le (Dat.addN 0 0) (Dat.len ([] : List Int))) then some (Dat.seg ([] : List Int) 0 0)
 else none
 else if (Dat.Big (Dat.len (Dat.seg ([] : List Int) 0 0)) (Dat.len d0) 1) then none
 else Dat.bnd (Dat.app (Dat.seg ([] : List Int) 0 0) d0) fun x9 =>
 if (Dat.Le (Dat.addN 0 (Dat.len x9)) (Dat.len x9)) then some (Dat.seg x9 0 (Dat.len x9))
 else none
 else none
noncomputable def p_slices_Clone_byte_byte : PFn := { args := [(.list (.int .u8))], res := [(.list (.int .u8))], fn := slices_Clone_byte_byte }
noncomputable def cx58 : CloneX Try.prog cfg 58 5 (.int .u8) := clx xf58 5 (xf58.body.cOps.getD 0 ⟨none, .move (.tmp 0), 0, "", #[], none⟩) (xf58.body.cOps.getD 1 ⟨none, .move (.tmp 0), 0, "", #[], none⟩) (by kernel_rfl) (by kernel_rfl) (by kernel_rfl) (by kernel_rfl) (by kernel_rfl) (by kernel_rfl) (by kernel_rfl) (by kernel_rfl) (by kernel_rfl)
def sp58_58 : List LSpec × List Nat := ([], [3])
def spt58 : Tab (List LSpec × List Nat) := (.node .leaf none (.node .leaf none (.node (.node .leaf none (.node .leaf none (.node .leaf (some sp58_58) .leaf))) none .leaf)))
def spf58 (f : Nat) : List LSpec × List Nat := (spt58.get f).getD ([], [])
theorem pd_slices_Clone_byte_byte : PureD Try.prog cfg 58 p_slices_Clone_byte_byte := cloneD spf58 cfgOk cfgGlob cx58 (of_decide_eq_true (by kernel_rfl)) (by kernel_rfl) (by kernel_rfl) (by kernel_rfl) (fun d => by kernel_rfl) (fun d => by kernel_rfl) (by kernel_rfl) (fun d r h => by
  unfold slices_Clone_byte_byte at h
  split at h
  · split at h
    · rename_i e
      have h1 := Option.some.inj h
      rw [← h1]
      exact (List.length_eq_zero_iff.1 e).symm
    · split at h
      · cases h
      · simp only [Dat.bnd] at h
        split at h
        · have h1 : (d.drop 0).take d.length = r := Option.some.inj h
          rw [← h1]
          simp
        · cases h
  · cases h)
noncomputable def o_slices_Clone_byte_byte : OFn := { args := [(.list (.int .u8))], ores := [(.own (.int .u8))], fn := slices_Clone_byte_byte }
theorem od_slices_Clone_byte_byte : OwnD Try.prog cfg 58 o_slices_Clone_byte_byte ∧ True := ⟨cloneO spf58 cfgOk cfgGlob cx58 (of_decide_eq_true (by kernel_rfl)) (by kernel_rfl) (by kernel_rfl) (by kernel_rfl) (fun d => by kernel_rfl) (fun d => by kernel_rfl) (by kernel_rfl) (fun d r h => by
  unfold slices_Clone_byte_byte at h
  split at h
  · split at h
    · rename_i e
      have h1 := Option.some.inj h
      rw [← h1]
      exact (List.length_eq_zero_iff.1 e).symm
    · split at h
      · cases h
      · simp only [Dat.bnd] at h
        split at h
        · have h1 : (d.drop 0).take d.length = r := Option.some.inj h
          rw [← h1]
          simp
        · cases h
  · cases h), trivial⟩
noncomputable def slot_Twin (d0 : LBk) : Option LBk :=
 Dat.bind (slices_Clone_byte_byte d0.2.2.1) fun x1 =>
 if (Dat.EqN (Dat.len x1) 0) then if (Dat.EqN (Dat.len x1) 0) then some (d0.1, (d0.2.1, (x1, ())))
 else none
 else if (Dat.Le (Dat.addN 0 (Dat.len x1)) (Dat.len x1)) then some (d0.1, (d0.2.1, ((Dat.seg x1 0 (Dat.len x1)), ())))
 else none
noncomputable def p_slot_Twin : PFn := { args := [(.pair (.int .i64) (.pair (.int .i64) (.pair (.list (.int .u8)) .unit)))], res := [(.pair (.int .i64) (.pair (.int .i64) (.pair (.list (.int .u8)) .unit)))], fn := slot_Twin }
noncomputable def o_slot_Twin : OFn := { args := [(.pair (.int .i64) (.pair (.int .i64) (.pair (.list (.int .u8)) .unit)))], ores := [(.pair (.plain (.int .i64)) (.pair (.plain (.int .i64)) (.pair (.own (.int .u8)) (.plain .unit))))], fn := slot_Twin }
theorem od_slot_Twin : OwnD Try.prog cfg 37 o_slot_Twin ∧ PureD Try.prog cfg 37 o_slot_Twin.pfn := fnO sp0 [] (l := [(58, p_slices_Clone_byte_byte)]) (lo := [(58, o_slices_Clone_byte_byte)]) cfgOk cfgGlob (.cons pd_slices_Clone_byte_byte .nil) (.cons od_slices_Clone_byte_byte.1 .nil) (fun d => by kernel_rfl)
theorem pd_slot_Twin : PureD Try.prog cfg 37 p_slot_Twin := od_slot_Twin.2
noncomputable def bucket_Twin_r (d0 : List LBk × (List Int × (List Int × Unit))) : Option (((List (List Int)) × (List (List MBk))) × ((MixE MBk) × (List Int × (List Int × Unit)))) :=
 Dat.loop (fun (s1 : Int × ((List (List MBk)) × ((List (List Int)) × ((MixE MBk) × (Int × (Int × (Int × (Int × (Int × (Int × (Int × (Int × (Int × (Int × (Int × (Int × (Int × (Int × (Int × (Int × (Int × (Int × (Int × (Int × (Int × (Int × (Int × (Int × (Int × (Int × (Int × (Int × (Int × (Int × (Int × (Int × (Int × (Int × (Int × (Int × (Int × (Int × (Int × (Int × (Int × (Int × (Int × (Int × (Int × (Int × (Int × (Int × (Int × (Int × (Int × (Int × (Int × (Int × (Int × (Int × (Int × (Int × (Int × (Int × (Int × (Int × (Int × Int))))))))))))))))))))))))))))))))))))))))))))))))))))))))))))))))))) k2 =>
 (bif (Dat.ilt s1.1 (Dat.ofN (Dat.len d0.1))) then if (Dat.Ix s1.1 (Dat.len d0.1)) then Dat.bnd (Dat.get d0.1 (Dat.toN s1.1) (0, (0, (([] : List Int), ())))) fun x5 =>
 Dat.bind (slot_Twin (x5.1, (x5.2.1, (x5.2.2.1, ())))) fun x6 =>
 Dat.bnd (Dat.app s1.2.2.1 (x6.2.2.1 :: ([] : List (List Int)))) fun x7 =>
 if (Dat.XGr s1.2.1 s1.2.2.2.1) then if (Dat.EqN (Dat.len ((x6.1, (x6.2.1, ((Dat.xrow (Dat.len s1.2.2.1) x6.2.2.1), ()))) :: ([] : List MBk))) 0) then Dat.bnd (Dat.wrap .i64 (Dat.add s1.1 1)) fun x12 =>
 k2 (x12, (s1.2.1, (x7, s1.2.2.2)))
 else if (Dat.Big (Dat.xlen s1.2.2.2.1) (Dat.len ((x6.1, (x6.2.1, ((Dat.xrow (Dat.len s1.2.2.1) x6.2.2.1), ()))) :: ([] : List MBk))) 40) then none
 else Dat.bnd (Dat.xapp s1.2.1 s1.2.2.2.1 ((x6.1, (x6.2.1, ((Dat.xrow (Dat.len s1.2.2.1) x6.2.2.1), ()))) :: ([] : List MBk))) fun x15 =>
 Dat.bnd (Dat.xlong s1.2.2.2.1 (Dat.len ((x6.1, (x6.2.1, ((Dat.xrow (Dat.len s1.2.2.1) x6.2.2.1), ()))) :: ([] : List MBk)))) fun x16 =>
 Dat.bnd (Dat.wrap .i64 (Dat.add s1.1 1)) fun x17 =>
 k2 (x17, (x15, (x7, (x16, s1.2.2.2.2))))
 else none
 else none
 else some ((s1.2.2.1, s1.2.1), (s1.2.2.2.1, ((p32 s1.2.2.2.2), ((p64 s1.2.2.2.2), ())))))) (0, ((([] : List MBk) :: ([] : List (List MBk))), (([] : List (List Int)), ((Dat.xnew (α := MBk) 0 0), ((Dat.get d0.2.1 0 0), ((Dat.get d0.2.1 1 0), ((Dat.get d0.2.1 2 0), ((Dat.get d0.2.1 3 0), ((Dat.get d0.2.1 4 0), ((Dat.get d0.2.1 5 0), ((Dat.get d0.2.1 6 0), ((Dat.get d0.2.1 7 0), ((Dat.get d0.2.1 8 0), ((Dat.get d0.2.1 9 0), ((Dat.get d0.2.1 10 0), ((Dat.get d0.2.1 11 0), ((Dat.get d0.2.1 12 0), ((Dat.get d0.2.1 13 0), ((Dat.get d0.2.1 14 0), ((Dat.get d0.2.1 15 0), ((Dat.get d0.2.1 16 0), ((Dat.get d0.2.1 17 0), ((Dat.get d0.2.1 18 0), ((Dat.get d0.2.1 19 0), ((Dat.get d0.2.1 20 0), ((Dat.get d0.2.1 21 0), ((Dat.get d0.2.1 22 0), ((Dat.get d0.2.1 23 0), ((Dat.get d0.2.1 24 0), ((Dat.get d0.2.1 25 0), ((Dat.get d0.2.1 26 0), ((Dat.get d0.2.1 27 0), ((Dat.get d0.2.1 28 0), ((Dat.get d0.2.1 29 0), ((Dat.get d0.2.1 30 0), ((Dat.get d0.2.1 31 0), ((Dat.get d0.2.2.1 0 0), ((Dat.get d0.2.2.1 1 0), ((Dat.get d0.2.2.1 2 0), ((Dat.get d0.2.2.1 3 0), ((Dat.get d0.2.2.1 4 0), ((Dat.get d0.2.2.1 5 0), ((Dat.get d0.2.2.1 6 0), ((Dat.get d0.2.2.1 7 0), ((Dat.get d0.2.2.1 8 0), ((Dat.get d0.2.2.1 9 0), ((Dat.get d0.2.2.1 10 0), ((Dat.get d0.2.2.1 11 0), ((Dat.get d0.2.2.1 12 0), ((Dat.get d0.2.2.1 13 0), ((Dat.get d0.2.2.1 14 0), ((Dat.get d0.2.2.1 15 0), ((Dat.get d0.2.2.1 16 0), ((Dat.get d0.2.2.1 17 0), ((Dat.get d0.2.2.1 18 0), ((Dat.get d0.2.2.1 19 0), ((Dat.get d0.2.2.1 20 0), ((Dat.get d0.2.2.1 21 0), ((Dat.get d0.2.2.1 22 0), ((Dat.get d0.2.2.1 23 0), ((Dat.get d0.2.2.1 24 0), ((Dat.get d0.2.2.1 25 0), ((Dat.get d0.2.2.1 26 0), ((Dat.get d0.2.2.1 27 0), ((Dat.get d0.2.2.1 28 0), ((Dat.get d0.2.2.1 29 0), ((Dat.get d0.2.2.1 30 0), (Dat.get d0.2.2.1 31 0))))))))))))))))))))))))))))))))))))))))))))))))))))))))))))))))))))
def sp100017_17 : List LSpec × List Nat := ([{ id := 1700, known := true, toks := [(9000000, (.int .u8)), (7002000, (.pair (.int .i64) (.pair (.int .i64) (.pair (.mix 20000001 (.int .u8)) .unit))))], items := [.slot 14 (.val (.int .i64)), .rows 2002000 (.pair (.int .i64) (.pair (.int .i64) (.pair (.mix 12002000 (.int .u8)) .unit))), .rows 12002000 (.int .u8), .cells 1000003 ([.val (.mix 2002000 (.pair (.int .i64) (.pair (.int .i64) (.pair (.mix 12002000 (.int .u8)) .unit))))] ++ v64)], junk := [15, 16, 17, 5, 18, 19, 20, 21, 22, 23, 24, 25], tails := [] }], [])
def spt100017 : Tab (List LSpec × List Nat) := (.node (.node .leaf none (.node (.node (.node .leaf (some sp100017_17) .leaf) none .leaf) none .leaf)) none .leaf)
def spf100017 (f : Nat) : List LSpec × List Nat := (spt100017.get f).getD ([], [])
noncomputable def r_bucket_Twin_r : RFn := { args := [(.pair (.list (.pair (.int .i64) (.pair (.int .i64) (.pair (.list (.int .u8)) .unit)))) (.pair (.arr 32 (.int .u8)) (.pair (.arr 32 (.int .u8)) .unit)))], objs := [(.int .u8), (.pair (.int .i64) (.pair (.int .i64) (.pair (.mix 0 (.int .u8)) .unit)))], res := [(.pair (.mix 1 (.pair (.int .i64) (.pair (.int .i64) (.pair (.mix 0 (.int .u8)) .unit)))) (.pair (.arr 32 (.int .u8)) (.pair (.arr 32 (.int .u8)) .unit)))], fn := bucket_Twin_r }
theorem rd_bucket_Twin_r : OwnR Try.prog cfg 17 r_bucket_Twin_r := fnR spf100017 [] (l := [(37, p_slot_Twin)]) (lo := [(37, o_slot_Twin)]) (lr := []) cfgOk cfgGlob (.cons pd_slot_Twin .nil) (.cons od_slot_Twin.1 .nil) .nil (fun d => by kernel_rfl)
noncomputable def ref01_Same (d0 : List Int × (List Int)) : Option Bool :=
 Dat.bnd (Dat.str d0.1) fun x1 =>
 Dat.bnd (Dat.str d0.2) fun x2 =>
 some (Dat.seq x1 x2)
noncomputable def p_ref01_Same : PFn := { args := [(.list (.int .u8)), (.list (.int .u8))], res := [.bool], fn := ref01_Same }
theorem pd_ref01_Same : PureD Try.prog cfg 18 p_ref01_Same := fnD sp0 (l := []) cfgOk cfgGlob .nil (fun d => by kernel_rfl)
noncomputable def ref10_Check (d0 : (Int × (Int × (Int × (Int × Unit)))) × (List LBk × (List Int × (List Int × Unit)))) : Option Int :=
 Dat.bind (ref09_Many (d0.1.1, (d0.1.2.1, (d0.1.2.2.1, (d0.1.2.2.2.1, ()))))) fun x1 =>
 (bif (Dat.ilt x1 1) then some 8
 else Dat.bind (ref10_May ((d0.1.1, (d0.1.2.1, (d0.1.2.2.1, (d0.1.2.2.2.1, ())))), (d0.2.1, ((n32 d0.2.2.1), ((n32 d0.2.2.2.1), ()))))) fun x2 =>
 (bif (Dat.pickB false true (Dat.bnot x2)) then some 8
 else some 0))
noncomputable def p_ref10_Check : PFn := { args := [(.pair (.int .i64) (.pair (.int .i64) (.pair (.int .i64) (.pair (.int .i64) .unit)))), (.pair (.list (.pair (.int .i64) (.pair (.int .i64) (.pair (.list (.int .u8)) .unit)))) (.pair (.arr 32 (.int .u8)) (.pair (.arr 32 (.int .u8)) .unit)))], res := [(.int .i64)], fn := ref10_Check }
theorem pd_ref10_Check : PureD Try.prog cfg 19 p_ref10_Check := fnD sp0 (l := [(34, p_ref09_Many), (35, p_ref10_May)]) cfgOk cfgGlob (.cons pd_ref09_Many (.cons pd_ref10_May .nil)) (fun d => by kernel_rfl)
noncomputable def bytes_Equal (d0 : List Int × (List Int)) : Option Bool :=
 Dat.bnd (Dat.str d0.1) fun x1 =>
 Dat.bnd (Dat.str d0.2) fun x2 =>
 some (Dat.seq x1 x2)
noncomputable def p_bytes_Equal : PFn := { args := [(.list (.int .u8)), (.list (.int .u8))], res := [.bool], fn := bytes_Equal }
theorem pd_bytes_Equal : PureD Try.prog cfg 50 p_bytes_Equal := fnD sp0 (l := []) cfgOk cfgGlob .nil (fun d => by kernel_rfl)
noncomputable def slot_Same (d0 : LBk × LBk) : Option Bool :=
 (bif (Dat.ieq d0.1.1 d0.2.1) then (bif (Dat.pickB true (Dat.ieq d0.1.2.1 d0.2.2.1) false) then Dat.bind (bytes_Equal (d0.1.2.2.1, d0.2.2.2.1)) fun x1 =>
 some (Dat.pickB true x1 false)
 else some false)
 else some false)
noncomputable def p_slot_Same : PFn := { args := [(.pair (.int .i64) (.pair (.int .i64) (.pair (.list (.int .u8)) .unit))), (.pair (.int .i64) (.pair (.int .i64) (.pair (.list (.int .u8)) .unit)))], res := [.bool], fn := slot_Same }
theorem pd_slot_Same : PureD Try.prog cfg 39 p_slot_Same := fnD sp0 (l := [(50, p_bytes_Equal)]) cfgOk cfgGlob (.cons pd_bytes_Equal .nil) (fun d => by kernel_rfl)
noncomputable def bucket_Same (d0 : (List LBk × (List Int × (List Int × Unit))) × (List LBk × (List Int × (List Int × Unit)))) : Option Bool :=
 (bif (Dat.andB (Dat.ieq (Dat.get d0.1.2.1 0 0) (Dat.get d0.2.2.1 0 0)) (Dat.andB (Dat.ieq (Dat.get d0.1.2.1 1 0) (Dat.get d0.2.2.1 1 0)) (Dat.andB (Dat.ieq (Dat.get d0.1.2.1 2 0) (Dat.get d0.2.2.1 2 0)) (Dat.andB (Dat.ieq (Dat.get d0.1.2.1 3 0) (Dat.get d0.2.2.1 3 0)) (Dat.andB (Dat.ieq (Dat.get d0.1.2.1 4 0) (Dat.get d0.2.2.1 4 0)) (Dat.andB (Dat.ieq (Dat.get d0.1.2.1 5 0) (Dat.get d0.2.2.1 5 0)) (Dat.andB (Dat.ieq (Dat.get d0.1.2.1 6 0) (Dat.get d0.2.2.1 6 0)) (Dat.andB (Dat.ieq (Dat.get d0.1.2.1 7 0) (Dat.get d0.2.2.1 7 0)) (Dat.andB (Dat.ieq (Dat.get d0.1.2.1 8 0) (Dat.get d0.2.2.1 8 0)) (Dat.andB (Dat.ieq (Dat.get d0.1.2.1 9 0) (Dat.get d0.2.2.1 9 0)) (Dat.andB (Dat.ieq (Dat.get d0.1.2.1 10 0) (Dat.get d0.2.2.1 10 0)) (Dat.andB (Dat.ieq (Dat.get d0.1.2.1 11 0) (Dat.get d0.2.2.1 11 0)) (Dat.andB (Dat.ieq (Dat.get d0.1.2.1 12 0) (Dat.get d0.2.2.1 12 0)) (Dat.andB (Dat.ieq (Dat.get d0.1.2.1 13 0) (Dat.get d0.2.2.1 13 0)) (Dat.andB (Dat.ieq (Dat.get d0.1.2.1 14 0) (Dat.get d0.2.2.1 14 0)) (Dat.andB (Dat.ieq (Dat.get d0.1.2.1 15 0) (Dat.get d0.2.2.1 15 0)) (Dat.andB (Dat.ieq (Dat.get d0.1.2.1 16 0) (Dat.get d0.2.2.1 16 0)) (Dat.andB (Dat.ieq (Dat.get d0.1.2.1 17 0) (Dat.get d0.2.2.1 17 0)) (Dat.andB (Dat.ieq (Dat.get d0.1.2.1 18 0) (Dat.get d0.2.2.1 18 0)) (Dat.andB (Dat.ieq (Dat.get d0.1.2.1 19 0) (Dat.get d0.2.2.1 19 0)) (Dat.andB (Dat.ieq (Dat.get d0.1.2.1 20 0) (Dat.get d0.2.2.1 20 0)) (Dat.andB (Dat.ieq (Dat.get d0.1.2.1 21 0) (Dat.get d0.2.2.1 21 0)) (Dat.andB (Dat.ieq (Dat.get d0.1.2.1 22 0) (Dat.get d0.2.2.1 22 0)) (Dat.andB (Dat.ieq (Dat.get d0.1.2.1 23 0) (Dat.get d0.2.2.1 23 0)) (Dat.andB (Dat.ieq (Dat.get d0.1.2.1 24 0) (Dat.get d0.2.2.1 24 0)) (Dat.andB (Dat.ieq (Dat.get d0.1.2.1 25 0) (Dat.get d0.2.2.1 25 0)) (Dat.andB (Dat.ieq (Dat.get d0.1.2.1 26 0) (Dat.get d0.2.2.1 26 0)) (Dat.andB (Dat.ieq (Dat.get d0.1.2.1 27 0) (Dat.get d0.2.2.1 27 0)) (Dat.andB (Dat.ieq (Dat.get d0.1.2.1 28 0) (Dat.get d0.2.2.1 28 0)) (Dat.andB (Dat.ieq (Dat.get d0.1.2.1 29 0) (Dat.get d0.2.2.1 29 0)) (Dat.andB (Dat.ieq (Dat.get d0.1.2.1 30 0) (Dat.get d0.2.2.1 30 0)) (Dat.andB (Dat.ieq (Dat.get d0.1.2.1 31 0) (Dat.get d0.2.2.1 31 0)) true)))))))))))))))))))))))))))))))) then (bif (Dat.pickB true (Dat.andB (Dat.ieq (Dat.get d0.1.2.2.1 0 0) (Dat.get d0.2.2.2.1 0 0)) (Dat.andB (Dat.ieq (Dat.get d0.1.2.2.1 1 0) (Dat.get d0.2.2.2.1 1 0)) (Dat.andB (Dat.ieq (Dat.get d0.1.2.2.1 2 0) (Dat.get d0.2.2.2.1 2 0)) (Dat.andB (Dat.ieq (Dat.get d0.1.2.2.1 3 0) (Dat.get d0.2.2.2.1 3 0)) (Dat.andB (Dat.ieq (Dat.get d0.1.2.2.1 4 0) (Dat.get d0.2.2.2.1 4 0)) (Dat.andB (Dat.ieq (Dat.get d0.1.2.2.1 5 0) (Dat.get d0.2.2.2.1 5 0)) (Dat.andB (Dat.ieq (Dat.get d0.1.2.2.1 6 0) (Dat.get d0.2.2.2.1 6 0)) (Dat.andB (Dat.ieq (Dat.get d0.1.2.2.1 7 0) (Dat.get d0.2.2.2.1 7 0)) (Dat.andB (Dat.ieq (Dat.get d0.1.2.2.1 8 0) (Dat.get d0.2.2.2.1 8 0)) (Dat.andB (Dat.ieq (Dat.get d0.1.2.2.1 9 0) (Dat.get d0.2.2.2.1 9 0)) (Dat.andB (Dat.ieq (Dat.get d0.1.2.2.1 10 0) (Dat.get d0.2.2.2.1 10 0)) (Dat.andB (Dat.ieq (Dat.get d0.1.2.2.1 11 0) (Dat.get d0.2.2.2.1 11 0)) (Dat.andB (Dat.ieq (Dat.get d0.1.2.2.1 12 0) (Dat.get d0.2.2.2.1 12 0)) (Dat.andB (Dat.ieq (Dat.get d0.1.2.2.1 13 0) (Dat.get d0.2.2.2.1 13 0)) (Dat.andB (Dat.ieq (Dat.get d0.1.2.2.1 14 0) (Dat.get d0.2.2.2.1 14 0)) (Dat.andB (Dat.ieq (Dat.get d0.1.2.2.1 15 0) (Dat.get d0.2.2.2.1 15 0)) (Dat.andB (Dat.ieq (Dat.get d0.1.2.2.1 16 0) (Dat.get d0.2.2.2.1 16 0)) (Dat.andB (Dat.ieq (Dat.get d0.1.2.2.1 17 0) (Dat.get d0.2.2.2.1 17 0)) (Dat.andB (Dat.ieq (Dat.get d0.1.2.2.1 18 0) (Dat.get d0.2.2.2.1 18 0)) (Dat.andB (Dat.ieq (Dat.get d0.1.2.2.1 19 0) (Dat.get d0.2.2.2.1 19 0)) (Dat.andB (Dat.ieq (Dat.get d0.1.2.2.1 20 0) (Dat.get d0.2.2.2.1 20 0)) (Dat.andB (Dat.ieq (Dat.get d0.1.2.2.1 21 0) (Dat.get d0.2.2.2.1 21 0)) (Dat.andB (Dat.ieq (Dat.get d0.1.2.2.1 22 0) (Dat.get d0.2.2.2.1 22 0)) (Dat.andB (Dat.ieq (Dat.get d0.1.2.2.1 23 0) (Dat.get d0.2.2.2.1 23 0)) (Dat.andB (Dat.ieq (Dat.get d0.1.2.2.1 24 0) (Dat.get d0.2.2.2.1 24 0)) (Dat.andB (Dat.ieq (Dat.get d0.1.2.2.1 25 0) (Dat.get d0.2.2.2.1 25 0)) (Dat.andB (Dat.ieq (Dat.get d0.1.2.2.1 26 0) (Dat.get d0.2.2.2.1 26 0)) (Dat.andB (Dat.ieq (Dat.get d0.1.2.2.1 27 0) (Dat.get d0.2.2.2.1 27 0)) (Dat.andB (Dat.ieq (Dat.get d0.1.2.2.1 28 0) (Dat.get d0.2.2.2.1 28 0)) (Dat.andB (Dat.ieq (Dat.get d0.1.2.2.1 29 0) (Dat.get d0.2.2.2.1 29 0)) (Dat.andB (Dat.ieq (Dat.get d0.1.2.2.1 30 0) (Dat.get d0.2.2.2.1 30 0)) (Dat.andB (Dat.ieq (Dat.get d0.1.2.2.1 31 0) (Dat.get d0.2.2.2.1 31 0)) true)))))))))))))))))))))))))))))))) false) then (bif (Dat.ine (Dat.ofN (Dat.len d0.1.1)) (Dat.ofN (Dat.len d0.2.1))) then some (Dat.pickB true false false)
 else Dat.loop (fun (s1 : Int) k2 =>
 (bif (Dat.ilt s1 (Dat.ofN (Dat.len d0.1.1))) then if (Dat.Ix s1 (Dat.len d0.1.1)) then Dat.bnd (Dat.get d0.1.1 (Dat.toN s1) (0, (0, (([] : List Int), ())))) fun x5 =>
 if (Dat.Ix s1 (Dat.len d0.2.1)) then Dat.bnd (Dat.get d0.2.1 (Dat.toN s1) (0, (0, (([] : List Int), ())))) fun x8 =>
 Dat.bind (slot_Same ((x5.1, (x5.2.1, (x5.2.2.1, ()))), (x8.1, (x8.2.1, (x8.2.2.1, ()))))) fun x9 =>
 (bif (Dat.bnot x9) then some (Dat.pickB true false false)
 else Dat.bnd (Dat.wrap .i64 (Dat.add s1 1)) fun x10 =>
 k2 x10)
 else none
 else none
 else some (Dat.pickB true true false))) 0)
 else some false)
 else some false)
noncomputable def p_bucket_Same : PFn := { args := [(.pair (.list (.pair (.int .i64) (.pair (.int .i64) (.pair (.list (.int .u8)) .unit)))) (.pair (.arr 32 (.int .u8)) (.pair (.arr 32 (.int .u8)) .unit))), (.pair (.list (.pair (.int .i64) (.pair (.int .i64) (.pair (.list (.int .u8)) .unit)))) (.pair (.arr 32 (.int .u8)) (.pair (.arr 32 (.int .u8)) .unit)))], res := [.bool], fn := bucket_Same }
def sp20_38 : List LSpec × List Nat := ([{ id := 3800, known := true, toks := [], items := [.slot 17 (.val (.int .i64))], junk := [18, 19, 20, 21, 8, 7, 22, 23, 24, 25, 9, 26, 27, 28, 29, 30, 6, 31], tails := [] }], [])
def spt20 : Tab (List LSpec × List Nat) := (.node .leaf none (.node .leaf none (.node .leaf none (.node (.node (.node .leaf (some sp20_38) .leaf) none .leaf) none .leaf))))
def spf20 (f : Nat) : List LSpec × List Nat := (spt20.get f).getD ([], [])
theorem pd_bucket_Same : PureD Try.prog cfg 20 p_bucket_Same := fnD spf20 (l := [(39, p_slot_Same)]) cfgOk cfgGlob (.cons pd_slot_Same .nil) (fun d => by kernel_rfl)
noncomputable def ref09_Same (d0 : LBk × LBk) : Option Bool :=
 (bif (Dat.ieq d0.1.1 d0.2.1) then (bif (Dat.pickB true (Dat.ieq d0.1.2.1 d0.2.2.1) false) then Dat.bind (ref01_Same (d0.1.2.2.1, d0.2.2.2.1)) fun x1 =>
 some (Dat.pickB true x1 false)
 else some false)
 else some false)
noncomputable def p_ref09_Same : PFn := { args := [(.pair (.int .i64) (.pair (.int .i64) (.pair (.list (.int .u8)) .unit))), (.pair (.int .i64) (.pair (.int .i64) (.pair (.list (.int .u8)) .unit)))], res := [.bool], fn := ref09_Same }
theorem pd_ref09_Same : PureD Try.prog cfg 59 p_ref09_Same := fnD sp0 (l := [(18, p_ref01_Same)]) cfgOk cfgGlob (.cons pd_ref01_Same .nil) (fun d => by kernel_rfl)
noncomputable def ref09_SameAll (d0 : List LBk × (List LBk)) : Option Bool :=
 (bif (Dat.ine (Dat.ofN (Dat.len d0.1)) (Dat.ofN (Dat.len d0.2))) then some false
 else Dat.loop (fun (s1 : Int) k2 =>
 (bif (Dat.ilt s1 (Dat.ofN (Dat.len d0.1))) then if (Dat.Ix s1 (Dat.len d0.1)) then Dat.bnd (Dat.get d0.1 (Dat.toN s1) (0, (0, (([] : List Int), ())))) fun x5 =>
 if (Dat.Ix s1 (Dat.len d0.2)) then Dat.bnd (Dat.get d0.2 (Dat.toN s1) (0, (0, (([] : List Int), ())))) fun x8 =>
 Dat.bind (ref09_Same ((x5.1, (x5.2.1, (x5.2.2.1, ()))), (x8.1, (x8.2.1, (x8.2.2.1, ()))))) fun x9 =>
 (bif (Dat.bnot x9) then some false
 else Dat.bnd (Dat.wrap .i64 (Dat.add s1 1)) fun x10 =>
 k2 x10)
 else none
 else none
 else some true)) 0)
noncomputable def p_ref09_SameAll : PFn := { args := [(.list (.pair (.int .i64) (.pair (.int .i64) (.pair (.list (.int .u8)) .unit)))), (.list (.pair (.int .i64) (.pair (.int .i64) (.pair (.list (.int .u8)) .unit))))], res := [.bool], fn := ref09_SameAll }
def sp40_40 : List LSpec × List Nat := ([{ id := 4000, known := true, toks := [], items := [.slot 5 (.val (.int .i64))], junk := [11, 12, 13, 14, 17, 18, 19, 20, 21, 22, 23, 24, 25, 26, 4, 15, 16], tails := [] }], [])
def spt40 : Tab (List LSpec × List Nat) := (.node .leaf none (.node (.node (.node .leaf none (.node (.node .leaf (some sp40_40) .leaf) none .leaf)) none .leaf) none .leaf))
def spf40 (f : Nat) : List LSpec × List Nat := (spt40.get f).getD ([], [])
theorem pd_ref09_SameAll : PureD Try.prog cfg 40 p_ref09_SameAll := fnD spf40 (l := [(59, p_ref09_Same)]) cfgOk cfgGlob (.cons pd_ref09_Same .nil) (fun d => by kernel_rfl)
noncomputable def ref10_Same (d0 : (List LBk × (List Int × (List Int × Unit))) × (List LBk × (List Int × (List Int × Unit)))) : Option Bool :=
 Dat.bind (ref09_SameAll (d0.1.1, d0.2.1)) fun x1 =>
 (bif x1 then (bif (Dat.pickB true (Dat.andB (Dat.ieq (Dat.get d0.1.2.1 0 0) (Dat.get d0.2.2.1 0 0)) (Dat.andB (Dat.ieq (Dat.get d0.1.2.1 1 0) (Dat.get d0.2.2.1 1 0)) (Dat.andB (Dat.ieq (Dat.get d0.1.2.1 2 0) (Dat.get d0.2.2.1 2 0)) (Dat.andB (Dat.ieq (Dat.get d0.1.2.1 3 0) (Dat.get d0.2.2.1 3 0)) (Dat.andB (Dat.ieq (Dat.get d0.1.2.1 4 0) (Dat.get d0.2.2.1 4 0)) (Dat.andB (Dat.ieq (Dat.get d0.1.2.1 5 0) (Dat.get d0.2.2.1 5 0)) (Dat.andB (Dat.ieq (Dat.get d0.1.2.1 6 0) (Dat.get d0.2.2.1 6 0)) (Dat.andB (Dat.ieq (Dat.get d0.1.2.1 7 0) (Dat.get d0.2.2.1 7 0)) (Dat.andB (Dat.ieq (Dat.get d0.1.2.1 8 0) (Dat.get d0.2.2.1 8 0)) (Dat.andB (Dat.ieq (Dat.get d0.1.2.1 9 0) (Dat.get d0.2.2.1 9 0)) (Dat.andB (Dat.ieq (Dat.get d0.1.2.1 10 0) (Dat.get d0.2.2.1 10 0)) (Dat.andB (Dat.ieq (Dat.get d0.1.2.1 11 0) (Dat.get d0.2.2.1 11 0)) (Dat.andB (Dat.ieq (Dat.get d0.1.2.1 12 0) (Dat.get d0.2.2.1 12 0)) (Dat.andB (Dat.ieq (Dat.get d0.1.2.1 13 0) (Dat.get d0.2.2.1 13 0)) (Dat.andB (Dat.ieq (Dat.get d0.1.2.1 14 0) (Dat.get d0.2.2.1 14 0)) (Dat.andB (Dat.ieq (Dat.get d0.1.2.1 15 0) (Dat.get d0.2.2.1 15 0)) (Dat.andB (Dat.ieq (Dat.get d0.1.2.1 16 0) (Dat.get d0.2.2.1 16 0)) (Dat.andB (Dat.ieq (Dat.get d0.1.2.1 17 0) (Dat.get d0.2.2.1 17 0)) (Dat.andB (Dat.ieq (Dat.get d0.1.2.1 18 0) (Dat.get d0.2.2.1 18 0)) (Dat.andB (Dat.ieq (Dat.get d0.1.2.1 19 0) (Dat.get d0.2.2.1 19 0)) (Dat.andB (Dat.ieq (Dat.get d0.1.2.1 20 0) (Dat.get d0.2.2.1 20 0)) (Dat.andB (Dat.ieq (Dat.get d0.1.2.1 21 0) (Dat.get d0.2.2.1 21 0)) (Dat.andB (Dat.ieq (Dat.get d0.1.2.1 22 0) (Dat.get d0.2.2.1 22 0)) (Dat.andB (Dat.ieq (Dat.get d0.1.2.1 23 0) (Dat.get d0.2.2.1 23 0)) (Dat.andB (Dat.ieq (Dat.get d0.1.2.1 24 0) (Dat.get d0.2.2.1 24 0)) (Dat.andB (Dat.ieq (Dat.get d0.1.2.1 25 0) (Dat.get d0.2.2.1 25 0)) (Dat.andB (Dat.ieq (Dat.get d0.1.2.1 26 0) (Dat.get d0.2.2.1 26 0)) (Dat.andB (Dat.ieq (Dat.get d0.1.2.1 27 0) (Dat.get d0.2.2.1 27 0)) (Dat.andB (Dat.ieq (Dat.get d0.1.2.1 28 0) (Dat.get d0.2.2.1 28 0)) (Dat.andB (Dat.ieq (Dat.get d0.1.2.1 29 0) (Dat.get d0.2.2.1 29 0)) (Dat.andB (Dat.ieq (Dat.get d0.1.2.1 30 0) (Dat.get d0.2.2.1 30 0)) (Dat.andB (Dat.ieq (Dat.get d0.1.2.1 31 0) (Dat.get d0.2.2.1 31 0)) true)))))))))))))))))))))))))))))))) false) then some (Dat.pickB true (Dat.andB (Dat.ieq (Dat.get d0.1.2.2.1 0 0) (Dat.get d0.2.2.2.1 0 0)) (Dat.andB (Dat.ieq (Dat.get d0.1.2.2.1 1 0) (Dat.get d0.2.2.2.1 1 0)) (Dat.andB (Dat.ieq (Dat.get d0.1.2.2.1 2 0) (Dat.get d0.2.2.2.1 2 0)) (Dat.andB (Dat.ieq (Dat.get d0.1.2.2.1 3 0) (Dat.get d0.2.2.2.1 3 0)) (Dat.andB (Dat.ieq (Dat.get d0.1.2.2.1 4 0) (Dat.get d0.2.2.2.1 4 0)) (Dat.andB (Dat.ieq (Dat.get d0.1.2.2.1 5 0) (Dat.get d0.2.2.2.1 5 0)) (Dat.andB (Dat.ieq (Dat.get d0.1.2.2.1 6 0) (Dat.get d0.2.2.2.1 6 0)) (Dat.andB (Dat.ieq (Dat.get d0.1.2.2.1 7 0) (Dat.get d0.2.2.2.1 7 0)) (Dat.andB (Dat.ieq (Dat.get d0.1.2.2.1 8 0) (Dat.get d0.2.2.2.1 8 0)) (Dat.andB (Dat.ieq (Dat.get d0.1.2.2.1 9 0) (Dat.get d0.2.2.2.1 9 0)) (Dat.andB (Dat.ieq (Dat.get d0.1.2.2.1 10 0) (Dat.get d0.2.2.2.1 10 0)) (Dat.andB (Dat.ieq (Dat.get d0.1.2.2.1 11 0) (Dat.get d0.2.2.2.1 11 0)) (Dat.andB (Dat.ieq (Dat.get d0.1.2.2.1 12 0) (Dat.get d0.2.2.2.1 12 0)) (Dat.andB (Dat.ieq (Dat.get d0.1.2.2.1 13 0) (Dat.get d0.2.2.2.1 13 0)) (Dat.andB (Dat.ieq (Dat.get d0.1.2.2.1 14 0) (Dat.get d0.2.2.2.1 14 0)) (Dat.andB (Dat.ieq (Dat.get d0.1.2.2.1 15 0) (Dat.get d0.2.2.2.1 15 0)) (Dat.andB (Dat.ieq (Dat.get d0.1.2.2.1 16 0) (Dat.get d0.2.2.2.1 16 0)) (Dat.andB (Dat.ieq (Dat.get d0.1.2.2.1 17 0) (Dat.get d0.2.2.2.1 17 0)) (Dat.andB (Dat.ieq (Dat.get d0.1.2.2.1 18 0) (Dat.get d0.2.2.2.1 18 0)) (Dat.andB (Dat.ieq (Dat.get d0.1.2.2.1 19 0) (Dat.get d0.2.2.2.1 19 0)) (Dat.andB (Dat.ieq (Dat.get d0.1.2.2.1 20 0) (Dat.get d0.2.2.2.1 20 0)) (Dat.andB (Dat.ieq (Dat.get d0.1.2.2.1 21 0) (Dat.get d0.2.2.2.1 21 0)) (Dat.andB (Dat.ieq (Dat.get d0.1.2.2.1 22 0) (Dat.get d0.2.2.2.1 22 0)) (Dat.andB (Dat.ieq (Dat.get d0.1.2.2.1 23 0) (Dat.get d0.2.2.2.1 23 0)) (Dat.andB (Dat.ieq (Dat.get d0.1.2.2.1 24 0) (Dat.get d0.2.2.2.1 24 0)) (Dat.andB (Dat.ieq (Dat.get d0.1.2.2.1 25 0) (Dat.get d0.2.2.2.1 25 0)) (Dat.andB (Dat.ieq (Dat.get d0.1.2.2.1 26 0) (Dat.get d0.2.2.2.1 26 0)) (Dat.andB (Dat.ieq (Dat.get d0.1.2.2.1 27 0) (Dat.get d0.2.2.2.1 27 0)) (Dat.andB (Dat.ieq (Dat.get d0.1.2.2.1 28 0) (Dat.get d0.2.2.2.1 28 0)) (Dat.andB (Dat.ieq (Dat.get d0.1.2.2.1 29 0) (Dat.get d0.2.2.2.1 29 0)) (Dat.andB (Dat.ieq (Dat.get d0.1.2.2.1 30 0) (Dat.get d0.2.2.2.1 30 0)) (Dat.andB (Dat.ieq (Dat.get d0.1.2.2.1 31 0) (Dat.get d0.2.2.2.1 31 0)) true)))))))))))))))))))))))))))))))) false)
 else some false)
 else some false)
noncomputable def p_ref10_Same : PFn := { args := [(.pair (.list (.pair (.int .i64) (.pair (.int .i64) (.pair (.list (.int .u8)) .unit)))) (.pair (.arr 32 (.int .u8)) (.pair (.arr 32 (.int .u8)) .unit))), (.pair (.list (.pair (.int .i64) (.pair (.int .i64) (.pair (.list (.int .u8)) .unit)))) (.pair (.arr 32 (.int .u8)) (.pair (.arr 32 (.int .u8)) .unit)))], res := [.bool], fn := ref10_Same }
theorem pd_ref10_Same : PureD Try.prog cfg 21 p_ref10_Same := fnD sp0 (l := [(40, p_ref09_SameAll)]) cfgOk cfgGlob (.cons pd_ref09_SameAll .nil) (fun d => by kernel_rfl)
noncomputable def law10_BucketWrites (d0 : (Int × (Int × (Int × (Int × Unit)))) × ((List LBk × (List Int × (List Int × Unit))) × (List LBk × (List Int × (List Int × Unit))))) : Option Bool :=
 Dat.join (σ := Bool) (fun k1 =>
 Dat.bind (ref10_Great (d0.2.1.1, ((n32 d0.2.1.2.1), ((n32 d0.2.1.2.2.1), ())))) fun x2 =>
 (bif x2 then k1 true
 else Dat.bind (ref10_Great (d0.2.2.1, ((n32 d0.2.2.2.1), ((n32 d0.2.2.2.2.1), ())))) fun x3 =>
 k1 (Dat.pickB false true x3))) fun j4 =>
 (bif j4 then some true
 else Dat.bind (ref10_Twin (d0.2.1.1, ((n32 d0.2.1.2.1), ((n32 d0.2.1.2.2.1), ())))) fun x5 =>
 Dat.bind (bucket_Write ((d0.1.1, (d0.1.2.1, (d0.1.2.2.1, (d0.1.2.2.2.1, ())))), (x5.1, ((n32 x5.2.1), ((n32 x5.2.2.1), ()))))) fun x6 =>
 Dat.bind (ref10_Write ((d0.1.1, (d0.1.2.1, (d0.1.2.2.1, (d0.1.2.2.2.1, ())))), (d0.2.1.1, ((n32 d0.2.1.2.1), ((n32 d0.2.1.2.2.1), ()))))) fun x7 =>
 Dat.bind (bucket_Twin_r (x5.1, ((n32 x5.2.1), ((n32 x5.2.2.1), ())))) fun x8 =>
 Dat.join (σ := Bool) (fun k9 =>
 Dat.bind (ref01_Same (x6.1, x7.1)) fun x10 =>
 (bif x10 then (bif (Dat.pickB true (Dat.ieq x6.2 x7.2) false) then Dat.bind (bucket_Check ((d0.1.1, (d0.1.2.1, (d0.1.2.2.1, (d0.1.2.2.2.1, ())))), (x5.1, ((n32 x5.2.1), ((n32 x5.2.2.1), ()))))) fun x11 =>
 Dat.bind (ref10_Check ((d0.1.1, (d0.1.2.1, (d0.1.2.2.1, (d0.1.2.2.2.1, ())))), (d0.2.1.1, ((n32 d0.2.1.2.1), ((n32 d0.2.1.2.2.1), ()))))) fun x12 =>
 k9 (Dat.pickB true (Dat.ieq x11 x12) false)
 else k9 false)
 else k9 false)) fun j13 =>
 Dat.join (σ := Bool) (fun k14 =>
 Dat.bind (bucket_Same ((x5.1, ((n32 x5.2.1), ((n32 x5.2.2.1), ()))), (d0.2.2.1, ((n32 d0.2.2.2.1), ((n32 d0.2.2.2.2.1), ()))))) fun x15 =>
 Dat.bind (ref10_Same ((d0.2.1.1, ((n32 d0.2.1.2.1), ((n32 d0.2.1.2.2.1), ()))), (d0.2.2.1, ((n32 d0.2.2.2.1), ((n32 d0.2.2.2.2.1), ()))))) fun x16 =>
 (bif (Dat.beq x15 x16) then Dat.bind (bucket_Same ((x5.1, ((n32 x5.2.1), ((n32 x5.2.2.1), ()))), (d0.2.1.1, ((n32 d0.2.1.2.1), ((n32 d0.2.1.2.2.1), ()))))) fun x17 =>
 (bif (Dat.pickB true x17 false) then if (Dat.XOk x8.1.2 x8.2.1) then Dat.bind (Dat.mapO (fun e20 =>
 if (Dat.XOk x8.1.1 e20.2.2.1) then Dat.bnd (Dat.xget x8.1.1 e20.2.2.1) fun x23 =>
 some (e20.1, (e20.2.1, (x23, e20.2.2.2)))
 else none) (Dat.xget x8.1.2 x8.2.1)) fun x24 =>
 Dat.bind (ref10_Same ((x24, ((n32 x8.2.2.1), ((n32 x8.2.2.2.1), ()))), (d0.2.1.1, ((n32 d0.2.1.2.1), ((n32 d0.2.1.2.2.1), ()))))) fun x25 =>
 k14 (Dat.pickB true x25 false)
 else none
 else k14 false)
 else k14 false)) fun j26 =>
 Dat.loop (fun (s27 : Int × ((List (List Int)) × (List (List MBk)))) k28 =>
 (bif (Dat.ilt s27.1 (Dat.ofN (Dat.xlen x8.2.1))) then if (Dat.Ix s27.1 (Dat.xlen x8.2.1)) then if (Dat.XPt s27.2.2 x8.2.1 (Dat.toN s27.1)) then if (Dat.XPt s27.2.2 x8.2.1 (Dat.toN s27.1)) then if (Dat.XPt s27.2.2 x8.2.1 (Dat.toN s27.1)) then Dat.bnd (Dat.xat s27.2.2 x8.2.1 (Dat.toN s27.1) (0, (0, ((MixE.nil : MixE Int), ())))) fun x37 =>
 Dat.bnd (Dat.xset s27.2.2 x8.2.1 (Dat.toN s27.1) ((-7), (x37.2.1, (x37.2.2.1, ())))) fun x38 =>
 Dat.loop (fun (s39 : Int × (List (List Int))) k40 =>
 if (Dat.Ix s27.1 (Dat.xlen x8.2.1)) then if (Dat.XPt x38 x8.2.1 (Dat.toN s27.1)) then if (Dat.XPt x38 x8.2.1 (Dat.toN s27.1)) then if (Dat.XPt x38 x8.2.1 (Dat.toN s27.1)) then Dat.bnd (Dat.xat x38 x8.2.1 (Dat.toN s27.1) (0, (0, ((MixE.nil : MixE Int), ())))) fun x49 =>
 (bif (Dat.ilt s39.1 (Dat.ofN (Dat.xlen x49.2.2.1))) then if (Dat.Ix s27.1 (Dat.xlen x8.2.1)) then if (Dat.XPt x38 x8.2.1 (Dat.toN s27.1)) then if (Dat.XPt x38 x8.2.1 (Dat.toN s27.1)) then if (Dat.XPt x38 x8.2.1 (Dat.toN s27.1)) then Dat.bnd (Dat.xat x38 x8.2.1 (Dat.toN s27.1) (0, (0, ((MixE.nil : MixE Int), ())))) fun x58 =>
 if (Dat.Ix s27.1 (Dat.xlen x8.2.1)) then if (Dat.XPt x38 x8.2.1 (Dat.toN s27.1)) then if (Dat.XPt x38 x8.2.1 (Dat.toN s27.1)) then if (Dat.XPt x38 x8.2.1 (Dat.toN s27.1)) then Dat.bnd (Dat.xat x38 x8.2.1 (Dat.toN s27.1) (0, (0, ((MixE.nil : MixE Int), ())))) fun x67 =>
 if (Dat.Ix s39.1 (Dat.xlen x67.2.2.1)) then if (Dat.XPt s39.2 x67.2.2.1 (Dat.toN s39.1)) then if (Dat.XPt s39.2 x67.2.2.1 (Dat.toN s39.1)) then Dat.bnd (Dat.xat s39.2 x67.2.2.1 (Dat.toN s39.1) 0) fun x74 =>
 Dat.bnd (Dat.wrap .u8 (Dat.add x74 1)) fun x75 =>
 if (Dat.Ix s39.1 (Dat.xlen x58.2.2.1)) then if (Dat.XPt s39.2 x58.2.2.1 (Dat.toN s39.1)) then if (Dat.XPt s39.2 x58.2.2.1 (Dat.toN s39.1)) then Dat.bnd (Dat.xset s39.2 x58.2.2.1 (Dat.toN s39.1) x75) fun x82 =>
 Dat.bnd (Dat.wrap .i64 (Dat.add s39.1 1)) fun x83 =>
 k40 (x83, x82)
 else none
 else none
 else none
 else none
 else none
 else none
 else none
 else none
 else none
 else none
 else none
 else none
 else none
 else none
 else Dat.bnd (Dat.wrap .i64 (Dat.add s27.1 1)) fun x84 =>
 k28 (x84, (s39.2, x38)))
 else none
 else none
 else none
 else none) (0, s27.2.1)
 else none
 else none
 else none
 else none
 else Dat.join (σ := Bool) (fun k85 =>
 (bif j13 then (bif (Dat.pickB true j26 false) then Dat.bind (ref10_Same ((x5.1, ((n32 x5.2.1), ((n32 x5.2.2.1), ()))), (d0.2.1.1, ((n32 d0.2.1.2.1), ((n32 d0.2.1.2.2.1), ()))))) fun x86 =>
 k85 (Dat.pickB true x86 false)
 else k85 false)
 else k85 false)) fun j87 =>
 some j87)) (0, (x8.1.1, x8.1.2)))
noncomputable def p_law10_BucketWrites : PFn := { args := [(.pair (.int .i64) (.pair (.int .i64) (.pair (.int .i64) (.pair (.int .i64) .unit)))), (.pair (.list (.pair (.int .i64) (.pair (.int .i64) (.pair (.list (.int .u8)) .unit)))) (.pair (.arr 32 (.int .u8)) (.pair (.arr 32 (.int .u8)) .unit))), (.pair (.list (.pair (.int .i64) (.pair (.int .i64) (.pair (.list (.int .u8)) .unit)))) (.pair (.arr 32 (.int .u8)) (.pair (.arr 32 (.int .u8)) .unit)))], res := [.bool], fn := law10_BucketWrites }
def sp4_69 : List LSpec × List Nat := ([uk 5069000, { id := 5069001, known := true, toks := [], items := [.slot 13 (.val .bool)], junk := [6, 7, 8, 9, 10, 11, 12], tails := [] }, uk 5069002, uk 5069003, uk 5069004, uk 5069005], [])
def sp4_22 : List LSpec × List Nat := ([{ id := 2200, known := true, toks := [], items := [.slot 2 (.val (.int .i64)), .rows 12006000 (.int .u8), .rows 2006000 (.pair (.int .i64) (.pair (.int .i64) (.pair (.mix 12006000 (.int .u8)) .unit)))], junk := [4, 5, 6, 7, 8, 11, 12, 13, 14, 15, 3, 16, 17, 18, 19, 20, 21, 22, 23, 24, 27, 28, 29, 30, 31, 32, 33, 34, 35, 36, 37, 38, 39, 40, 41, 42, 43, 44, 25, 26, 9, 10], tails := [] }, { id := 2201, known := true, toks := [], items := [.slot 3 (.val (.int .i64)), .rows 11000006 (.int .u8)], junk := [16, 17, 18, 19, 20, 21, 22, 23, 24, 27, 28, 29, 30, 31, 32, 33, 34, 35, 36, 37, 38, 39, 40, 41, 42, 43, 44, 25, 26], tails := [] }], [])
def sp4_4 : List LSpec × List Nat := ([uk 5004000, { id := 5004001, known := true, toks := [], items := [.slot 20 (.val .bool)], junk := [15, 16, 17, 18, 19], tails := [] }, uk 5004002, uk 5004003, uk 5004004, uk 5004005, uk 5004006, uk 5004007, { id := 5004008, known := true, toks := [], items := [.slot 13 (.val .bool)], junk := [37, 38, 39, 40, 41, 42, 43, 44, 45, 46, 47, 48, 49, 50, 51, 52, 53], tails := [] }, { id := 5004009, known := true, toks := [], items := [.slot 14 (.val .bool)], junk := [54, 55, 56, 57, 58, 59, 60, 61, 62, 63, 64, 65, 66, 67, 68, 69, 70], tails := [] }, uk 5004010, { id := 5004011, known := true, toks := [], items := [.slot 6 (.val .bool)], junk := [73, 74, 75, 76, 77, 78, 79, 80, 81], tails := [] }], [])
def spt4 : Tab (List LSpec × List Nat) := (.node (.node .leaf none (.node .leaf none (.node (.node (.node (.node .leaf (some sp4_69) .leaf) none .leaf) none .leaf) none .leaf))) none (.node (.node .leaf (some sp4_4) .leaf) none (.node .leaf none (.node (.node .leaf (some sp4_22) .leaf) none .leaf))))
def spf4 (f : Nat) : List LSpec × List Nat := (spt4.get f).getD ([], [])
theorem pd_law10_BucketWrites : PureD Try.prog cfg 4 p_law10_BucketWrites := fnDr spf4 [] (l := [(14, p_ref10_Great), (15, p_ref10_Twin), (8, p_bucket_Write), (16, p_ref10_Write), (18, p_ref01_Same), (13, p_bucket_Check), (19, p_ref10_Check), (20, p_bucket_Same), (21, p_ref10_Same)]) (lo := []) (lr := [(17, r_bucket_Twin_r)]) cfgOk cfgGlob (.cons pd_ref10_Great (.cons pd_ref10_Twin (.cons pd_bucket_Write (.cons pd_ref10_Write (.cons pd_ref01_Same (.cons pd_bucket_Check (.cons pd_ref10_Check (.cons pd_bucket_Same (.cons pd_ref10_Same .nil))))))))) .nil (.cons rd_bucket_Twin_r .nil) (fun d => by kernel_rfl)
end Go.Proofs.Ythhjkmefpmmleaa
