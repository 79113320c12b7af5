/- The functions of the program, as functions on plain data. -/
import Derived.Test.YthhjkmefpmmleaaCfg
import Derived.Test.YthhjkmefpmmleaaM6
import Derived.ProofKit
namespace Go.Proofs.Ythhjkmefpmmleaa
open Go.Eng
set_option linter.unusedVariables false
set_option maxRecDepth 100000
abbrev MBk : Type := Int × Int × MixE Int × Unit
abbrev LBk : Type := Int × Int × List Int × Unit
def uk (i : Nat) : LSpec := { id := i, known := false, toks := [], items := [], junk := [], tails := [] }
abbrev I64 : Type := Int × Int × Int × Int × Int × Int × Int × Int × Int × Int × Int × Int × Int × Int × Int × Int × Int × Int × Int × Int × Int × Int × Int × Int × Int × Int × Int × Int × Int × Int × Int × Int × Int × Int × Int × Int × Int × Int × Int × Int × Int × Int × Int × Int × Int × Int × Int × Int × Int × Int × Int × Int × Int × Int × Int × Int × Int × Int × Int × Int × Int × Int × Int × Int
@[reducible] def n32 (x : List Int) : List Int := [Dat.get x 0 0, Dat.get x 1 0, Dat.get x 2 0, Dat.get x 3 0, Dat.get x 4 0, Dat.get x 5 0, Dat.get x 6 0, Dat.get x 7 0, Dat.get x 8 0, Dat.get x 9 0, Dat.get x 10 0, Dat.get x 11 0, Dat.get x 12 0, Dat.get x 13 0, Dat.get x 14 0, Dat.get x 15 0, Dat.get x 16 0, Dat.get x 17 0, Dat.get x 18 0, Dat.get x 19 0, Dat.get x 20 0, Dat.get x 21 0, Dat.get x 22 0, Dat.get x 23 0, Dat.get x 24 0, Dat.get x 25 0, Dat.get x 26 0, Dat.get x 27 0, Dat.get x 28 0, Dat.get x 29 0, Dat.get x 30 0, Dat.get x 31 0]
@[reducible] def z32n : List Int := [0, 0, 0, 0, 0, 0, 0, 0, 0, 0, 0, 0, 0, 0, 0, 0, 0, 0, 0, 0, 0, 0, 0, 0, 0, 0, 0, 0, 0, 0, 0, 0]
@[reducible] def p32 (T : I64) : List Int := [T.1, T.2.1, T.2.2.1, T.2.2.2.1, T.2.2.2.2.1, T.2.2.2.2.2.1, T.2.2.2.2.2.2.1, T.2.2.2.2.2.2.2.1, T.2.2.2.2.2.2.2.2.1, T.2.2.2.2.2.2.2.2.2.1, T.2.2.2.2.2.2.2.2.2.2.1, T.2.2.2.2.2.2.2.2.2.2.2.1, T.2.2.2.2.2.2.2.2.2.2.2.2.1, T.2.2.2.2.2.2.2.2.2.2.2.2.2.1, T.2.2.2.2.2.2.2.2.2.2.2.2.2.2.1, T.2.2.2.2.2.2.2.2.2.2.2.2.2.2.2.1, T.2.2.2.2.2.2.2.2.2.2.2.2.2.2.2.2.1, T.2.2.2.2.2.2.2.2.2.2.2.2.2.2.2.2.2.1, T.2.2.2.2.2.2.2.2.2.2.2.2.2.2.2.2.2.2.1, T.2.2.2.2.2.2.2.2.2.2.2.2.2.2.2.2.2.2.2.1, T.2.2.2.2.2.2.2.2.2.2.2.2.2.2.2.2.2.2.2.2.1, T.2.2.2.2.2.2.2.2.2.2.2.2.2.2.2.2.2.2.2.2.2.1, T.2.2.2.2.2.2.2.2.2.2.2.2.2.2.2.2.2.2.2.2.2.2.1, T.2.2.2.2.2.2.2.2.2.2.2.2.2.2.2.2.2.2.2.2.2.2.2.1, T.2.2.2.2.2.2.2.2.2.2.2.2.2.2.2.2.2.2.2.2.2.2.2.2.1, T.2.2.2.2.2.2.2.2.2.2.2.2.2.2.2.2.2.2.2.2.2.2.2.2.2.1, T.2.2.2.2.2.2.2.2.2.2.2.2.2.2.2.2.2.2.2.2.2.2.2.2.2.2.1, T.2.2.2.2.2.2.2.2.2.2.2.2.2.2.2.2.2.2.2.2.2.2.2.2.2.2.2.1, T.2.2.2.2.2.2.2.2.2.2.2.2.2.2.2.2.2.2.2.2.2.2.2.2.2.2.2.2.1, T.2.2.2.2.2.2.2.2.2.2.2.2.2.2.2.2.2.2.2.2.2.2.2.2.2.2.2.2.2.1, T.2.2.2.2.2.2.2.2.2.2.2.2.2.2.2.2.2.2.2.2.2.2.2.2.2.2.2.2.2.2.1, T.2.2.2.2.2.2.2.2.2.2.2.2.2.2.2.2.2.2.2.2.2.2.2.2.2.2.2.2.2.2.2.1]
@[reducible] def p64 (T : I64) : List Int := [T.2.2.2.2.2.2.2.2.2.2.2.2.2.2.2.2.2.2.2.2.2.2.2.2.2.2.2.2.2.2.2.2.1, T.2.2.2.2.2.2.2.2.2.2.2.2.2.2.2.2.2.2.2.2.2.2.2.2.2.2.2.2.2.2.2.2.2.1, T.2.2.2.2.2.2.2.2.2.2.2.2.2.2.2.2.2.2.2.2.2.2.2.2.2.2.2.2.2.2.2.2.2.2.1, T.2.2.2.2.2.2.2.2.2.2.2.2.2.2.2.2.2.2.2.2.2.2.2.2.2.2.2.2.2.2.2.2.2.2.2.1, T.2.2.2.2.2.2.2.2.2.2.2.2.2.2.2.2.2.2.2.2.2.2.2.2.2.2.2.2.2.2.2.2.2.2.2.2.1, T.2.2.2.2.2.2.2.2.2.2.2.2.2.2.2.2.2.2.2.2.2.2.2.2.2.2.2.2.2.2.2.2.2.2.2.2.2.1, T.2.2.2.2.2.2.2.2.2.2.2.2.2.2.2.2.2.2.2.2.2.2.2.2.2.2.2.2.2.2.2.2.2.2.2.2.2.2.1, T.2.2.2.2.2.2.2.2.2.2.2.2.2.2.2.2.2.2.2.2.2.2.2.2.2.2.2.2.2.2.2.2.2.2.2.2.2.2.2.1, T.2.2.2.2.2.2.2.2.2.2.2.2.2.2.2.2.2.2.2.2.2.2.2.2.2.2.2.2.2.2.2.2.2.2.2.2.2.2.2.2.1, T.2.2.2.2.2.2.2.2.2.2.2.2.2.2.2.2.2.2.2.2.2.2.2.2.2.2.2.2.2.2.2.2.2.2.2.2.2.2.2.2.2.1, T.2.2.2.2.2.2.2.2.2.2.2.2.2.2.2.2.2.2.2.2.2.2.2.2.2.2.2.2.2.2.2.2.2.2.2.2.2.2.2.2.2.2.1, T.2.2.2.2.2.2.2.2.2.2.2.2.2.2.2.2.2.2.2.2.2.2.2.2.2.2.2.2.2.2.2.2.2.2.2.2.2.2.2.2.2.2.2.1, T.2.2.2.2.2.2.2.2.2.2.2.2.2.2.2.2.2.2.2.2.2.2.2.2.2.2.2.2.2.2.2.2.2.2.2.2.2.2.2.2.2.2.2.2.1, T.2.2.2.2.2.2.2.2.2.2.2.2.2.2.2.2.2.2.2.2.2.2.2.2.2.2.2.2.2.2.2.2.2.2.2.2.2.2.2.2.2.2.2.2.2.1, T.2.2.2.2.2.2.2.2.2.2.2.2.2.2.2.2.2.2.2.2.2.2.2.2.2.2.2.2.2.2.2.2.2.2.2.2.2.2.2.2.2.2.2.2.2.2.1, T.2.2.2.2.2.2.2.2.2.2.2.2.2.2.2.2.2.2.2.2.2.2.2.2.2.2.2.2.2.2.2.2.2.2.2.2.2.2.2.2.2.2.2.2.2.2.2.1, T.2.2.2.2.2.2.2.2.2.2.2.2.2.2.2.2.2.2.2.2.2.2.2.2.2.2.2.2.2.2.2.2.2.2.2.2.2.2.2.2.2.2.2.2.2.2.2.2.1, T.2.2.2.2.2.2.2.2.2.2.2.2.2.2.2.2.2.2.2.2.2.2.2.2.2.2.2.2.2.2.2.2.2.2.2.2.2.2.2.2.2.2.2.2.2.2.2.2.2.1, T.2.2.2.2.2.2.2.2.2.2.2.2.2.2.2.2.2.2.2.2.2.2.2.2.2.2.2.2.2.2.2.2.2.2.2.2.2.2.2.2.2.2.2.2.2.2.2.2.2.2.1, T.2.2.2.2.2.2.2.2.2.2.2.2.2.2.2.2.2.2.2.2.2.2.2.2.2.2.2.2.2.2.2.2.2.2.2.2.2.2.2.2.2.2.2.2.2.2.2.2.2.2.2.1, T.2.2.2.2.2.2.2.2.2.2.2.2.2.2.2.2.2.2.2.2.2.2.2.2.2.2.2.2.2.2.2.2.2.2.2.2.2.2.2.2.2.2.2.2.2.2.2.2.2.2.2.2.1, T.2.2.2.2.2.2.2.2.2.2.2.2.2.2.2.2.2.2.2.2.2.2.2.2.2.2.2.2.2.2.2.2.2.2.2.2.2.2.2.2.2.2.2.2.2.2.2.2.2.2.2.2.2.1, T.2.2.2.2.2.2.2.2.2.2.2.2.2.2.2.2.2.2.2.2.2.2.2.2.2.2.2.2.2.2.2.2.2.2.2.2.2.2.2.2.2.2.2.2.2.2.2.2.2.2.2.2.2.2.1, T.2.2.2.2.2.2.2.2.2.2.2.2.2.2.2.2.2.2.2.2.2.2.2.2.2.2.2.2.2.2.2.2.2.2.2.2.2.2.2.2.2.2.2.2.2.2.2.2.2.2.2.2.2.2.2.1, T.2.2.2.2.2.2.2.2.2.2.2.2.2.2.2.2.2.2.2.2.2.2.2.2.2.2.2.2.2.2.2.2.2.2.2.2.2.2.2.2.2.2.2.2.2.2.2.2.2.2.2.2.2.2.2.2.1, T.2.2.2.2.2.2.2.2.2.2.2.2.2.2.2.2.2.2.2.2.2.2.2.2.2.2.2.2.2.2.2.2.2.2.2.2.2.2.2.2.2.2.2.2.2.2.2.2.2.2.2.2.2.2.2.2.2.1, T.2.2.2.2.2.2.2.2.2.2.2.2.2.2.2.2.2.2.2.2.2.2.2.2.2.2.2.2.2.2.2.2.2.2.2.2.2.2.2.2.2.2.2.2.2.2.2.2.2.2.2.2.2.2.2.2.2.2.1, T.2.2.2.2.2.2.2.2.2.2.2.2.2.2.2.2.2.2.2.2.2.2.2.2.2.2.2.2.2.2.2.2.2.2.2.2.2.2.2.2.2.2.2.2.2.2.2.2.2.2.2.2.2.2.2.2.2.2.2.1, T.2.2.2.2.2.2.2.2.2.2.2.2.2.2.2.2.2.2.2.2.2.2.2.2.2.2.2.2.2.2.2.2.2.2.2.2.2.2.2.2.2.2.2.2.2.2.2.2.2.2.2.2.2.2.2.2.2.2.2.2.1, T.2.2.2.2.2.2.2.2.2.2.2.2.2.2.2.2.2.2.2.2.2.2.2.2.2.2.2.2.2.2.2.2.2.2.2.2.2.2.2.2.2.2.2.2.2.2.2.2.2.2.2.2.2.2.2.2.2.2.2.2.2.1, T.2.2.2.2.2.2.2.2.2.2.2.2.2.2.2.2.2.2.2.2.2.2.2.2.2.2.2.2.2.2.2.2.2.2.2.2.2.2.2.2.2.2.2.2.2.2.2.2.2.2.2.2.2.2.2.2.2.2.2.2.2.2.1, T.2.2.2.2.2.2.2.2.2.2.2.2.2.2.2.2.2.2.2.2.2.2.2.2.2.2.2.2.2.2.2.2.2.2.2.2.2.2.2.2.2.2.2.2.2.2.2.2.2.2.2.2.2.2.2.2.2.2.2.2.2.2.2]
@[reducible] def v64 : List SK := [.val (.int .u8), .val (.int .u8), .val (.int .u8), .val (.int .u8), .val (.int .u8), .val (.int .u8), .val (.int .u8), .val (.int .u8), .val (.int .u8), .val (.int .u8), .val (.int .u8), .val (.int .u8), .val (.int .u8), .val (.int .u8), .val (.int .u8), .val (.int .u8), .val (.int .u8), .val (.int .u8), .val (.int .u8), .val (.int .u8), .val (.int .u8), .val (.int .u8), .val (.int .u8), .val (.int .u8), .val (.int .u8), .val (.int .u8), .val (.int .u8), .val (.int .u8), .val (.int .u8), .val (.int .u8), .val (.int .u8), .val (.int .u8), .val (.int .u8), .val (.int .u8), .val (.int .u8), .val (.int .u8), .val (.int .u8), .val (.int .u8), .val (.int .u8), .val (.int .u8), .val (.int .u8), .val (.int .u8), .val (.int .u8), .val (.int .u8), .val (.int .u8), .val (.int .u8), .val (.int .u8), .val (.int .u8), .val (.int .u8), .val (.int .u8), .val (.int .u8), .val (.int .u8), .val (.int .u8), .val (.int .u8), .val (.int .u8), .val (.int .u8), .val (.int .u8), .val (.int .u8), .val (.int .u8), .val (.int .u8), .val (.int .u8), .val (.int .u8), .val (.int .u8), .val (.int .u8)]
def sp0 (f : Nat) : List LSpec × List Nat := ([], [])
noncomputable def geo_Check (d0 : Int) : Option Int :=
 (bif (Dat.ilt d0 1) then some 2
 else (bif (Dat.pickB false true (Dat.igt d0 6)) then some 2
 else some 0))
noncomputable def p_geo_Check : PFn := { args := [(.int .i64)], res := [(.int .i64)], fn := geo_Check }
theorem pd_geo_Check : PureD Try.prog cfg 61 p_geo_Check := fnD sp0 (l := []) cfgOk cfgGlob .nil (fun d => by kernel_rfl)
noncomputable def geo_Leaves (d0 : Int) : Option (Int × Int) :=
 Dat.bind (geo_Check d0) fun x1 =>
 (bif (Dat.ine x1 0) then some (0, x1)
 else if (Dat.Neg d0) then none
 else Dat.bnd (Dat.shl .i64 1 d0) fun x4 =>
 some (x4, 0))
noncomputable def p_geo_Leaves : PFn := { args := [(.int .i64)], res := [(.int .i64), (.int .i64)], fn := geo_Leaves }
theorem pd_geo_Leaves : PureD Try.prog cfg 43 p_geo_Leaves := fnD sp0 (l := [(61, p_geo_Check)]) cfgOk cfgGlob (.cons pd_geo_Check .nil) (fun d => by kernel_rfl)
noncomputable def slot_size (d0 : Int × (Int × (Int × (Int × Unit)))) : Option Int :=
 Dat.bnd (Dat.wrap .i64 (Dat.add 8 d0.2.1)) fun x1 =>
 some x1
noncomputable def p_slot_size : PFn := { args := [(.pair (.int .i64) (.pair (.int .i64) (.pair (.int .i64) (.pair (.int .i64) .unit))))], res := [(.int .i64)], fn := slot_size }
theorem pd_slot_size : PureD Try.prog cfg 44 p_slot_size := fnD sp0 (l := []) cfgOk cfgGlob .nil (fun d => by kernel_rfl)
noncomputable def slot_Slots (d0 : Int × (Int × (Int × (Int × Unit)))) : Option (Int × Int) :=
 (bif (Dat.ilt d0.1 1) then some (0, 8)
 else (bif (Dat.pickB false true (Dat.igt d0.1 64)) then some (0, 8)
 else (bif (Dat.pickB false true (Dat.ilt d0.2.1 1)) then some (0, 8)
 else (bif (Dat.pickB false true (Dat.igt d0.2.1 32)) then some (0, 8)
 else Dat.bind (geo_Leaves d0.2.2.1) fun x1 =>
 (bif (Dat.ine x1.2 0) then some (0, 8)
 else (bif (Dat.pickB false true (Dat.ilt x1.1 d0.1)) then some (0, 8)
 else Dat.loop (fun (s2 : Int) k3 =>
 (bif (Dat.ile s2 4) then Dat.bind (slot_size (d0.1, (d0.2.1, (d0.2.2.1, (d0.2.2.2.1, ()))))) fun x4 =>
 Dat.bnd (Dat.wrap .i64 (Dat.mul s2 x4)) fun x5 =>
 Dat.bnd (Dat.wrap .i64 (Dat.add x5 64)) fun x6 =>
 (bif (Dat.ieq d0.2.2.2.1 x6) then some (s2, 0)
 else Dat.bnd (Dat.wrap .i64 (Dat.add s2 1)) fun x7 =>
 k3 x7)
 else some (0, 8))) 1))))))
noncomputable def p_slot_Slots : PFn := { args := [(.pair (.int .i64) (.pair (.int .i64) (.pair (.int .i64) (.pair (.int .i64) .unit))))], res := [(.int .i64), (.int .i64)], fn := slot_Slots }
def sp24_24 : List LSpec × List Nat := ([{ id := 2400, known := true, toks := [], items := [.slot 6 (.val (.int .i64))], junk := [39, 40, 43, 44, 45, 46, 47, 48, 49, 50, 51, 2, 3, 41, 42], tails := [] }], [])
def spt24 : Tab (List LSpec × List Nat) := (.node .leaf none (.node (.node (.node .leaf none (.node .leaf (some sp24_24) .leaf)) none .leaf) none .leaf))
def spf24 (f : Nat) : List LSpec × List Nat := (spt24.get f).getD ([], [])
theorem pd_slot_Slots : PureD Try.prog cfg 24 p_slot_Slots := fnD spf24 (l := [(43, p_geo_Leaves), (44, p_slot_size)]) cfgOk cfgGlob (.cons pd_geo_Leaves (.cons pd_slot_size .nil)) (fun d => by kernel_rfl)
noncomputable def slot_None (d0 : Int × (Int × (Int × (Int × Unit)))) : Option (List Int × Int) :=
 Dat.bind (slot_Slots (d0.1, (d0.2.1, (d0.2.2.1, (d0.2.2.2.1, ()))))) fun x1 =>
 (bif (Dat.ine x1.2 0) then some (([] : List Int), x1.2)
 else Dat.bind (slot_size (d0.1, (d0.2.1, (d0.2.2.1, (d0.2.2.2.1, ()))))) fun x2 =>
 if (Dat.MkOk x2 x2 1) then if (Dat.Le (Dat.addN 0 (Dat.toN x2)) (Dat.len (Dat.rep (α := Int) (Dat.toN x2) 0))) then some ((Dat.seg (Dat.rep (α := Int) (Dat.toN x2) 0) 0 (Dat.toN x2)), 0)
 else none
 else none)
noncomputable def p_slot_None : PFn := { args := [(.pair (.int .i64) (.pair (.int .i64) (.pair (.int .i64) (.pair (.int .i64) .unit))))], res := [(.list (.int .u8)), (.int .i64)], fn := slot_None }
theorem pd_slot_None : PureD Try.prog cfg 25 p_slot_None := fnD sp0 (l := [(24, p_slot_Slots), (44, p_slot_size)]) cfgOk cfgGlob (.cons pd_slot_Slots (.cons pd_slot_size .nil)) (fun d => by kernel_rfl)
noncomputable def math_bits_Mul64 (d0 : Int × Int) : Option (Int × Int) :=
 Dat.bnd (Dat.band .u64 d0.1 4294967295) fun x1 =>
 if (Dat.Neg 32) then none
 else Dat.bnd (Dat.shr .u64 d0.1 32) fun x4 =>
 Dat.bnd (Dat.band .u64 d0.2 4294967295) fun x5 =>
 if (Dat.Neg 32) then none
 else Dat.bnd (Dat.shr .u64 d0.2 32) fun x8 =>
 Dat.bnd (Dat.wrap .u64 (Dat.mul x1 x5)) fun x9 =>
 Dat.bnd (Dat.wrap .u64 (Dat.mul x4 x5)) fun x10 =>
 if (Dat.Neg 32) then none
 else Dat.bnd (Dat.shr .u64 x9 32) fun x13 =>
 Dat.bnd (Dat.wrap .u64 (Dat.add x10 x13)) fun x14 =>
 Dat.bnd (Dat.band .u64 x14 4294967295) fun x15 =>
 if (Dat.Neg 32) then none
 else Dat.bnd (Dat.shr .u64 x14 32) fun x18 =>
 Dat.bnd (Dat.wrap .u64 (Dat.mul x1 x8)) fun x19 =>
 Dat.bnd (Dat.wrap .u64 (Dat.add x15 x19)) fun x20 =>
 Dat.bnd (Dat.wrap .u64 (Dat.mul x4 x8)) fun x21 =>
 Dat.bnd (Dat.wrap .u64 (Dat.add x21 x18)) fun x22 =>
 if (Dat.Neg 32) then none
 else Dat.bnd (Dat.shr .u64 x20 32) fun x25 =>
 Dat.bnd (Dat.wrap .u64 (Dat.add x22 x25)) fun x26 =>
 Dat.bnd (Dat.wrap .u64 (Dat.mul d0.1 d0.2)) fun x27 =>
 some (x26, x27)
noncomputable def p_math_bits_Mul64 : PFn := { args := [(.int .u64), (.int .u64)], res := [(.int .u64), (.int .u64)], fn := math_bits_Mul64 }
theorem pd_math_bits_Mul64 : PureD Try.prog cfg 71 p_math_bits_Mul64 := fnD sp0 (l := []) cfgOk cfgGlob .nil (fun d => by kernel_rfl)
noncomputable def math_bits_Mul (d0 : Int × Int) : Option (Int × Int) :=
 Dat.bind (math_bits_Mul64 (d0.1, d0.2)) fun x1 =>
 some (x1.1, x1.2)
noncomputable def p_math_bits_Mul : PFn := { args := [(.int .u64), (.int .u64)], res := [(.int .u64), (.int .u64)], fn := math_bits_Mul }
theorem pd_math_bits_Mul : PureD Try.prog cfg 65 p_math_bits_Mul := fnD sp0 (l := [(71, p_math_bits_Mul64)]) cfgOk cfgGlob (.cons pd_math_bits_Mul64 .nil) (fun d => by kernel_rfl)
noncomputable def slices_Repeat_int_int (d0 : List Int × Int) : Option (List Int) :=
 (bif (Dat.ilt d0.2 0) then none
 else Dat.bnd (Dat.wrap .u64 (Dat.ofN (Dat.len d0.1))) fun x1 =>
 Dat.bnd (Dat.wrap .u64 d0.2) fun x2 =>
 Dat.bind (math_bits_Mul (x1, x2)) fun x3 =>
 (bif (Dat.igt x3.1 0) then none
 else (bif (Dat.pickB false true (Dat.igt x3.2 9223372036854775807)) then none
 else Dat.bnd (Dat.wrap .i64 x3.2) fun x4 =>
 if (Dat.MkOk x4 x4 8) then if (Dat.Le (Dat.addN 0 (Dat.toN x4)) (Dat.len (Dat.rep (α := Int) (Dat.toN x4) 0))) then Dat.loop (fun (s9 : Int × (List Int)) k10 =>
 (bif (Dat.ilt s9.1 (Dat.ofN (Dat.toN x4))) then if (Dat.Bd s9.1 (Dat.toN x4)) then if (Dat.Lt (Dat.toN s9.1) (Dat.toN x4)) then if (Dat.Bd s9.1 (Dat.toN x4)) then if (Dat.Lt 0 (Dat.toN x4)) then if (Dat.Le (Dat.addN (Dat.addN 0 0) (Dat.subN (Dat.toN s9.1) 0)) (Dat.len s9.2)) then if (Dat.Le (Dat.addN (Dat.addN 0 (Dat.toN s9.1)) (Dat.subN (Dat.toN x4) (Dat.toN s9.1))) (Dat.len s9.2)) then Dat.bnd (Dat.wrap .i64 (Dat.add s9.1 (Dat.ofN (Dat.minN (Dat.len (Dat.seg s9.2 (Dat.addN 0 0) (Dat.subN (Dat.toN s9.1) 0))) (Dat.subN (Dat.toN x4) (Dat.toN s9.1)))))) fun x23 =>
 k10 (x23, (Dat.put s9.2 (Dat.addN 0 (Dat.toN s9.1)) (Dat.take (Dat.minN (Dat.len (Dat.seg s9.2 (Dat.addN 0 0) (Dat.subN (Dat.toN s9.1) 0))) (Dat.subN (Dat.toN x4) (Dat.toN s9.1))) (Dat.seg s9.2 (Dat.addN 0 0) (Dat.subN (Dat.toN s9.1) 0)))))
 else none
 else none
 else if (Dat.Le (Dat.addN (Dat.addN 0 (Dat.toN s9.1)) (Dat.subN (Dat.toN x4) (Dat.toN s9.1))) (Dat.len s9.2)) then Dat.bnd (Dat.wrap .i64 (Dat.add s9.1 (Dat.ofN (Dat.minN (Dat.len ([] : List Int)) (Dat.subN (Dat.toN x4) (Dat.toN s9.1)))))) fun x26 =>
 k10 (x26, (Dat.put s9.2 (Dat.addN 0 (Dat.toN s9.1)) (Dat.take (Dat.minN (Dat.len ([] : List Int)) (Dat.subN (Dat.toN x4) (Dat.toN s9.1))) ([] : List Int))))
 else none
 else none
 else if (Dat.Bd s9.1 (Dat.toN x4)) then if (Dat.Lt 0 (Dat.toN x4)) then if (Dat.Le (Dat.addN (Dat.addN 0 0) (Dat.subN (Dat.toN s9.1) 0)) (Dat.len s9.2)) then none
 else none
 else none
 else none
 else none
 else if (Dat.Le (Dat.addN 0 (Dat.toN x4)) (Dat.len s9.2)) then some (Dat.seg s9.2 0 (Dat.toN x4))
 else none)) ((Dat.ofN (Dat.minN (Dat.len d0.1) (Dat.toN x4))), (Dat.put (Dat.rep (α := Int) (Dat.toN x4) 0) 0 (Dat.take (Dat.minN (Dat.len d0.1) (Dat.toN x4)) d0.1)))
 else none
 else none)))
noncomputable def p_slices_Repeat_int_int : PFn := { args := [(.list (.int .i64)), (.int .i64)], res := [(.list (.int .i64))], fn := slices_Repeat_int_int }
def sp47_47 : List LSpec × List Nat := ([{ id := 4700, known := true, toks := [], items := [.slot 8 (.val (.int .i64)), .vec 1000007 (.int .i64)], junk := [34, 35, 36, 37, 38, 39, 40, 41, 42, 43, 44, 45, 46], tails := [] }], [])
def spt47 : Tab (List LSpec × List Nat) := (.node (.node (.node (.node (.node .leaf none (.node .leaf (some sp47_47) .leaf)) none .leaf) none .leaf) none .leaf) none .leaf)
def spf47 (f : Nat) : List LSpec × List Nat := (spt47.get f).getD ([], [])
noncomputable def o_slices_Repeat_int_int : OFn := { args := [(.list (.int .i64)), (.int .i64)], ores := [(.own (.int .i64))], fn := slices_Repeat_int_int }
theorem od_slices_Repeat_int_int : OwnD Try.prog cfg 47 o_slices_Repeat_int_int ∧ PureD Try.prog cfg 47 o_slices_Repeat_int_int.pfn := fnO spf47 [] (l := [(65, p_math_bits_Mul)]) (lo := []) cfgOk cfgGlob (.cons pd_math_bits_Mul .nil) .nil (fun d => by kernel_rfl)
theorem pd_slices_Repeat_int_int : PureD Try.prog cfg 47 p_slices_Repeat_int_int := od_slices_Repeat_int_int.2
noncomputable def num_together (d0 : List Int × (Int × Int)) : Option (Int × Int) :=
 (bif (Dat.igt (Dat.ofN (Dat.len d0.1)) 64) then some (0, 2)
 else Dat.loop (fun (s1 : Int × Int) k2 =>
 (bif (Dat.ilt s1.1 (Dat.ofN (Dat.len d0.1))) then if (Dat.Ix s1.1 (Dat.len d0.1)) then Dat.bnd (Dat.get d0.1 (Dat.toN s1.1) 0) fun x5 =>
 (bif (Dat.ilt x5 d0.2.1) then some (0, 2)
 else (bif (Dat.pickB false true (Dat.igt x5 d0.2.2)) then some (0, 2)
 else Dat.bnd (Dat.wrap .i64 (Dat.add s1.2 x5)) fun x6 =>
 (bif (Dat.bnot (Dat.ile x6 65536)) then some (0, 2)
 else Dat.bnd (Dat.wrap .i64 (Dat.add s1.1 1)) fun x7 =>
 k2 (x7, x6))))
 else none
 else some (s1.2, 0))) (0, 0))
noncomputable def p_num_together : PFn := { args := [(.list (.int .i64)), (.int .i64), (.int .i64)], res := [(.int .i64), (.int .i64)], fn := num_together }
def sp62_62 : List LSpec × List Nat := ([{ id := 6200, known := true, toks := [], items := [.slot 18 (.val (.int .i64)), .cells 1000008 [.val (.int .i64)]], junk := [19, 20, 21, 11, 22, 23, 24, 25, 6, 7, 26], tails := [] }], [])
def spt62 : Tab (List LSpec × List Nat) := (.node .leaf none (.node .leaf none (.node .leaf none (.node .leaf none (.node .leaf none (.node .leaf (some sp62_62) .leaf))))))
def spf62 (f : Nat) : List LSpec × List Nat := (spt62.get f).getD ([], [])
theorem pd_num_together : PureD Try.prog cfg 62 p_num_together := fnD spf62 (l := []) cfgOk cfgGlob .nil (fun d => by kernel_rfl)
noncomputable def num_Size (d0 : List Int) : Option (Int × Int) :=
 Dat.bind (num_together (d0, (0, 65536))) fun x1 =>
 some (x1.1, x1.2)
noncomputable def p_num_Size : PFn := { args := [(.list (.int .i64))], res := [(.int .i64), (.int .i64)], fn := num_Size }
theorem pd_num_Size : PureD Try.prog cfg 66 p_num_Size := fnD sp0 (l := [(62, p_num_together)]) cfgOk cfgGlob (.cons pd_num_together .nil) (fun d => by kernel_rfl)
noncomputable def slices_Clone_byte_byte (d0 : List Int) : Option (List Int) :=
 if (Dat.Le (Dat.addN 0 0) (Dat.len ([] : List Int))) then if (Dat.EqN (Dat.len d0) 0) then if (Dat.Le (Dat.addN 0 0) (Dat.len ([] : List Int))) then some (Dat.seg ([] : List Int) 0 0)
 else none
 else if (Dat.Big (Dat.len (Dat.seg ([] : List Int) 0 0)) (Dat.len d0) 1) then none
 else Dat.bnd (Dat.app (Dat.seg ([] : List Int) 0 0) d0) fun x9 =>
 if (Dat.Le (Dat.addN 0 (Dat.len x9)) (Dat.len x9)) then some (Dat.seg x9 0 (Dat.len x9))
 else none
 else none
noncomputable def p_slices_Clone_byte_byte : PFn := { args := [(.list (.int .u8))], res := [(.list (.int .u8))], fn := slices_Clone_byte_byte }
noncomputable def cx58 : CloneX Try.prog cfg 58 5 (.int .u8) := clx xf58 5 (xf58.body.cOps.getD 0 ⟨none, .move (.tmp 0), 0, "", #[], none⟩) (xf58.body.cOps.getD 1 ⟨none, .move (.tmp 0), 0, "", #[], none⟩) (by kernel_rfl) (by kernel_rfl) (by kernel_rfl) (by kernel_rfl) (by kernel_rfl) (by kernel_rfl) (by kernel_rfl) (by kernel_rfl) (by kernel_rfl)
def sp58_58 : List LSpec × List Nat := ([], [3])
def spt58 : Tab (List LSpec × List Nat) := (.node .leaf none (.node .leaf none (.node (.node .leaf none (.node .leaf none (.node .leaf (some sp58_58) .leaf))) none .leaf)))
def spf58 (f : Nat) : List LSpec × List Nat := (spt58.get f).getD ([], [])
theorem pd_slices_Clone_byte_byte : PureD Try.prog cfg 58 p_slices_Clone_byte_byte := cloneD spf58 cfgOk cfgGlob cx58 (of_decide_eq_true (by kernel_rfl)) (by kernel_rfl) (by kernel_rfl) (by kernel_rfl) (fun d => by kernel_rfl) (fun d => by kernel_rfl) (by kernel_rfl) (fun d r h => by
  unfold slices_Clone_byte_byte at h
  split at h
  · split at h
    · rename_i e
      have h1 := Option.some.inj h
      rw [← h1]
      exact (List.length_eq_zero_iff.1 e).symm
    · split at h
      · cases h
      · simp only [Dat.bnd] at h
        split at h
        · have h1 : (d.drop 0).take d.length = r := Option.some.inj h
          rw [← h1]
          simp
        · cases h
  · cases h)
noncomputable def o_slices_Clone_byte_byte : OFn := { args := [(.list (.int .u8))], ores := [(.own (.int .u8))], fn := slices_Clone_byte_byte }
theorem od_slices_Clone_byte_byte : OwnD Try.prog cfg 58 o_slices_Clone_byte_byte ∧ True := ⟨cloneO spf58 cfgOk cfgGlob cx58 (of_decide_eq_true (by kernel_rfl)) (by kernel_rfl) (by kernel_rfl) (by kernel_rfl) (fun d => by kernel_rfl) (fun d => by kernel_rfl) (by kernel_rfl) (fun d r h => by
  unfold slices_Clone_byte_byte at h
  split at h
  · split at h
    · rename_i e
      have h1 := Option.some.inj h
      rw [← h1]
      exact (List.length_eq_zero_iff.1 e).symm
    · split at h
      · cases h
      · simp only [Dat.bnd] at h
        split at h
        · have h1 : (d.drop 0).take d.length = r := Option.some.inj h
          rw [← h1]
          simp
        · cases h
  · cases h), trivial⟩
noncomputable def num_Cut (d0 : List Int × (List Int)) : Option ((List (List Int)) × Int) :=
 Dat.bind (num_Size d0.2) fun x1 =>
 (bif (Dat.ine x1.2 0) then some (([] : List (List Int)), x1.2)
 else (bif (Dat.ine (Dat.ofN (Dat.len d0.1)) x1.1) then some (([] : List (List Int)), 10)
 else Dat.bind (slices_Clone_byte_byte d0.1) fun x2 =>
 if (Dat.MkOk (Dat.ofN (Dat.len d0.2)) (Dat.ofN (Dat.len d0.2)) 24) then Dat.loop (fun (s5 : Int × (Int × (List (List Int)))) k6 =>
 (bif (Dat.ilt s5.2.1 (Dat.ofN (Dat.len d0.2))) then if (Dat.Ix s5.2.1 (Dat.len d0.2)) then Dat.bnd (Dat.get d0.2 (Dat.toN s5.2.1) 0) fun x9 =>
 Dat.bnd (Dat.wrap .i64 (Dat.add s5.1 x9)) fun x10 =>
 Dat.bnd (Dat.wrap .i64 (Dat.add s5.1 x9)) fun x11 =>
 if (Dat.Bd x11 (Dat.len x2)) then if (Dat.Bd x10 (Dat.toN x11)) then if (Dat.Bd s5.1 (Dat.toN x10)) then Dat.bnd (Dat.slice x2 (Dat.toN s5.1) (Dat.toN x10)) fun x18 =>
 if (Dat.In s5.2.1 (Dat.toN (Dat.ofN (Dat.len d0.2)))) then if (Dat.Lt (Dat.addN 0 (Dat.toN s5.2.1)) (Dat.len s5.2.2)) then Dat.bnd (Dat.set s5.2.2 (Dat.addN 0 (Dat.toN s5.2.1)) x18) fun x23 =>
 Dat.bnd (Dat.wrap .i64 (Dat.add s5.1 x9)) fun x24 =>
 Dat.bnd (Dat.wrap .i64 (Dat.add s5.2.1 1)) fun x25 =>
 k6 (x24, (x25, x23))
 else none
 else none
 else none
 else none
 else none
 else none
 else if (Dat.Le (Dat.addN 0 (Dat.toN (Dat.ofN (Dat.len d0.2)))) (Dat.len s5.2.2)) then some ((Dat.seg s5.2.2 0 (Dat.toN (Dat.ofN (Dat.len d0.2)))), 0)
 else none)) (0, (0, (Dat.rep (α := List Int) (Dat.toN (Dat.ofN (Dat.len d0.2))) ([] : List Int))))
 else none))
noncomputable def p_num_Cut : PFn := { args := [(.list (.int .u8)), (.list (.int .i64))], res := [(.list (.list (.int .u8))), (.int .i64)], fn := num_Cut }
def sp48_48 : List LSpec × List Nat := ([{ id := 4800, known := true, toks := [], items := [.slot 10 (.val (.int .i64)), .slot 32 (.val (.int .i64)), .vec 1000009 (.list (.int .u8))], junk := [33, 34, 35, 36, 11, 12, 37, 38, 39, 40, 41, 42, 43, 44, 45, 46, 47, 48, 49, 50, 51, 52], tails := [] }], [])
def spt48 : Tab (List LSpec × List Nat) := (.node .leaf none (.node (.node (.node (.node .leaf none (.node .leaf (some sp48_48) .leaf)) none .leaf) none .leaf) none .leaf))
def spf48 (f : Nat) : List LSpec × List Nat := (spt48.get f).getD ([], [])
theorem pd_num_Cut : PureD Try.prog cfg 48 p_num_Cut := fnD spf48 (l := [(66, p_num_Size), (58, p_slices_Clone_byte_byte)]) cfgOk cfgGlob (.cons pd_num_Size (.cons pd_slices_Clone_byte_byte .nil)) (fun d => by kernel_rfl)
noncomputable def num_Cut_r (d0 : List Int × (List Int)) : Option (((List (List Int)) × (List (List (MixE Int)))) × ((MixE (MixE Int)) × Int)) :=
 Dat.bind (num_Size d0.2) fun x1 =>
 (bif (Dat.ine x1.2 0) then some ((([] : List (List Int)), ([] : List (List (MixE Int)))), ((Dat.xnil (α := MixE Int) ), x1.2))
 else (bif (Dat.ine (Dat.ofN (Dat.len d0.1)) x1.1) then some ((([] : List (List Int)), ([] : List (List (MixE Int)))), ((Dat.xnil (α := MixE Int) ), 10))
 else Dat.bind (slices_Clone_byte_byte d0.1) fun x2 =>
 if (Dat.EqN (Dat.len x2) 0) then if (Dat.MkOk (Dat.ofN (Dat.len d0.2)) (Dat.ofN (Dat.len d0.2)) 24) then if (Dat.Le (Dat.addN 0 (Dat.toN (Dat.ofN (Dat.len d0.2)))) (Dat.len (Dat.rep (α := List Int) (Dat.toN (Dat.ofN (Dat.len d0.2))) ([] : List Int)))) then Dat.bind (Dat.mapO (fun e9 =>
 some (Dat.xdata e9)) (Dat.seg (Dat.rep (α := List Int) (Dat.toN (Dat.ofN (Dat.len d0.2))) ([] : List Int)) 0 (Dat.toN (Dat.ofN (Dat.len d0.2))))) fun x10 =>
 Dat.loop (fun (s11 : Int × (Int × ((MixE Int) × ((List (List Int)) × ((MixE (MixE Int)) × (List (List (MixE Int)))))))) k12 =>
 (bif (Dat.ilt s11.2.1 (Dat.ofN (Dat.len d0.2))) then if (Dat.Ix s11.2.1 (Dat.len d0.2)) then Dat.bnd (Dat.get d0.2 (Dat.toN s11.2.1) 0) fun x15 =>
 Dat.bnd (Dat.wrap .i64 (Dat.add s11.1 x15)) fun x16 =>
 Dat.bnd (Dat.wrap .i64 (Dat.add s11.1 x15)) fun x17 =>
 if (Dat.XCut s11.2.2.2.1 s11.2.2.1) then if (Dat.Bd x17 (Dat.xlen s11.2.2.1)) then if (Dat.Bd x16 (Dat.toN x17)) then if (Dat.Bd s11.1 (Dat.toN x16)) then Dat.bnd (Dat.xcut s11.2.2.1 (Dat.toN s11.1) (Dat.toN x16)) fun x26 =>
 if (Dat.Ix s11.2.1 (Dat.xlen s11.2.2.2.2.1)) then if (Dat.XPt s11.2.2.2.2.2 s11.2.2.2.2.1 (Dat.toN s11.2.1)) then if (Dat.XPt s11.2.2.2.2.2 s11.2.2.2.2.1 (Dat.toN s11.2.1)) then Dat.bnd (Dat.xset s11.2.2.2.2.2 s11.2.2.2.2.1 (Dat.toN s11.2.1) x26) fun x33 =>
 Dat.bnd (Dat.wrap .i64 (Dat.add s11.1 x15)) fun x34 =>
 Dat.bnd (Dat.wrap .i64 (Dat.add s11.2.1 1)) fun x35 =>
 k12 (x34, (x35, (s11.2.2.1, (s11.2.2.2.1, (s11.2.2.2.2.1, x33)))))
 else none
 else none
 else none
 else none
 else none
 else none
 else none
 else none
 else some ((s11.2.2.2.1, s11.2.2.2.2.2), (s11.2.2.2.2.1, 0)))) (0, (0, ((Dat.xdata x2), (([] : List (List Int)), ((Dat.xnew (α := MixE Int) 0 (Dat.toN (Dat.ofN (Dat.len d0.2)))), (x10 :: ([] : List (List (MixE Int)))))))))
 else none
 else none
 else if (Dat.MkOk (Dat.ofN (Dat.len d0.2)) (Dat.ofN (Dat.len d0.2)) 24) then if (Dat.Le (Dat.addN 0 (Dat.len x2)) (Dat.len x2)) then if (Dat.Le (Dat.addN 0 (Dat.toN (Dat.ofN (Dat.len d0.2)))) (Dat.len (Dat.rep (α := List Int) (Dat.toN (Dat.ofN (Dat.len d0.2))) ([] : List Int)))) then Dat.bind (Dat.mapO (fun e42 =>
 some (Dat.xdata e42)) (Dat.seg (Dat.rep (α := List Int) (Dat.toN (Dat.ofN (Dat.len d0.2))) ([] : List Int)) 0 (Dat.toN (Dat.ofN (Dat.len d0.2))))) fun x43 =>
 Dat.loop (fun (s44 : Int × (Int × ((MixE Int) × ((List (List Int)) × ((MixE (MixE Int)) × (List (List (MixE Int)))))))) k45 =>
 (bif (Dat.ilt s44.2.1 (Dat.ofN (Dat.len d0.2))) then if (Dat.Ix s44.2.1 (Dat.len d0.2)) then Dat.bnd (Dat.get d0.2 (Dat.toN s44.2.1) 0) fun x48 =>
 Dat.bnd (Dat.wrap .i64 (Dat.add s44.1 x48)) fun x49 =>
 Dat.bnd (Dat.wrap .i64 (Dat.add s44.1 x48)) fun x50 =>
 if (Dat.XCut s44.2.2.2.1 s44.2.2.1) then if (Dat.Bd x50 (Dat.xlen s44.2.2.1)) then if (Dat.Bd x49 (Dat.toN x50)) then if (Dat.Bd s44.1 (Dat.toN x49)) then Dat.bnd (Dat.xcut s44.2.2.1 (Dat.toN s44.1) (Dat.toN x49)) fun x59 =>
 if (Dat.Ix s44.2.1 (Dat.xlen s44.2.2.2.2.1)) then if (Dat.XPt s44.2.2.2.2.2 s44.2.2.2.2.1 (Dat.toN s44.2.1)) then if (Dat.XPt s44.2.2.2.2.2 s44.2.2.2.2.1 (Dat.toN s44.2.1)) then Dat.bnd (Dat.xset s44.2.2.2.2.2 s44.2.2.2.2.1 (Dat.toN s44.2.1) x59) fun x66 =>
 Dat.bnd (Dat.wrap .i64 (Dat.add s44.1 x48)) fun x67 =>
 Dat.bnd (Dat.wrap .i64 (Dat.add s44.2.1 1)) fun x68 =>
 k45 (x67, (x68, (s44.2.2.1, (s44.2.2.2.1, (s44.2.2.2.2.1, x66)))))
 else none
 else none
 else none
 else none
 else none
 else none
 else none
 else none
 else some ((s44.2.2.2.1, s44.2.2.2.2.2), (s44.2.2.2.2.1, 0)))) (0, (0, ((Dat.xnew (α := Int) 0 (Dat.len x2)), (((Dat.seg x2 0 (Dat.len x2)) :: ([] : List (List Int))), ((Dat.xnew (α := MixE Int) 0 (Dat.toN (Dat.ofN (Dat.len d0.2)))), (x43 :: ([] : List (List (MixE Int)))))))))
 else none
 else none
 else none))
def sp100048_48 : List LSpec × List Nat := ([{ id := 4800, known := true, toks := [(8000008, (.int .u8)), (8000009, (.mix 1000008 (.int .u8)))], items := [.slot 10 (.val (.int .i64)), .slot 32 (.val (.int .i64)), .slot 8 (.val (.mix 1000008 (.int .u8))), .rows 1000008 (.int .u8), .slot 9 (.val (.mix 1000009 (.mix 1000008 (.int .u8)))), .rows 1000009 (.mix 1000008 (.int .u8))], junk := [33, 34, 35, 36, 11, 12, 37, 38, 39, 40, 41, 42, 43, 44, 45, 46, 47, 48, 49, 50, 51, 52], tails := [] }], [])
def spt100048 : Tab (List LSpec × List Nat) := (.node .leaf none (.node (.node (.node (.node .leaf none (.node .leaf (some sp100048_48) .leaf)) none .leaf) none .leaf) none .leaf))
def spf100048 (f : Nat) : List LSpec × List Nat := (spt100048.get f).getD ([], [])
noncomputable def r_num_Cut_r : RFn := { args := [(.list (.int .u8)), (.list (.int .i64))], objs := [(.int .u8), (.mix 0 (.int .u8))], res := [(.mix 1 (.mix 0 (.int .u8))), (.int .i64)], fn := num_Cut_r }
theorem rd_num_Cut_r : OwnR Try.prog cfg 48 r_num_Cut_r := fnR spf100048 [] (l := [(66, p_num_Size), (58, p_slices_Clone_byte_byte)]) (lo := [(58, o_slices_Clone_byte_byte)]) (lr := []) cfgOk cfgGlob (.cons pd_num_Size (.cons pd_slices_Clone_byte_byte .nil)) (.cons od_slices_Clone_byte_byte.1 .nil) .nil (fun d => by kernel_rfl)
noncomputable def bucket_cut (d0 : (Int × (Int × (Int × (Int × Unit)))) × (List Int)) : Option ((List (List Int)) × Int) :=
 Dat.bind (slot_Slots (d0.1.1, (d0.1.2.1, (d0.1.2.2.1, (d0.1.2.2.2.1, ()))))) fun x1 =>
 (bif (Dat.ine x1.2 0) then some (([] : List (List Int)), x1.2)
 else Dat.bind (slot_None (d0.1.1, (d0.1.2.1, (d0.1.2.2.1, (d0.1.2.2.2.1, ()))))) fun x2 =>
 (bif (Dat.ine x2.2 0) then some (([] : List (List Int)), x2.2)
 else if (Dat.Le (Dat.addN 0 1) (Dat.len ((Dat.ofN (Dat.len x2.1)) :: ([] : List Int)))) then Dat.bind (slices_Repeat_int_int ((Dat.seg ((Dat.ofN (Dat.len x2.1)) :: ([] : List Int)) 0 1), x1.1)) fun x5 =>
 if (Dat.EqN (Dat.len x5) 0) then if (Dat.Le (Dat.addN 0 2) (Dat.len (32 :: (32 :: ([] : List Int))))) then if (Dat.Big (Dat.len x5) (Dat.len (Dat.seg (32 :: (32 :: ([] : List Int))) 0 2)) 8) then none
 else none
 else none
 else if (Dat.Le (Dat.addN 0 2) (Dat.len (32 :: (32 :: ([] : List Int))))) then if (Dat.Le (Dat.addN 0 (Dat.len x5)) (Dat.len x5)) then if (Dat.Big (Dat.len (Dat.seg x5 0 (Dat.len x5))) (Dat.len (Dat.seg (32 :: (32 :: ([] : List Int))) 0 2)) 8) then none
 else Dat.bnd (Dat.app (Dat.seg x5 0 (Dat.len x5)) (Dat.seg (32 :: (32 :: ([] : List Int))) 0 2)) fun x18 =>
 Dat.bind (num_Cut (d0.2, x18)) fun x19 =>
 some (x19.1, x19.2)
 else none
 else none
 else none))
noncomputable def p_bucket_cut : PFn := { args := [(.pair (.int .i64) (.pair (.int .i64) (.pair (.int .i64) (.pair (.int .i64) .unit)))), (.list (.int .u8))], res := [(.list (.list (.int .u8))), (.int .i64)], fn := bucket_cut }
theorem pd_bucket_cut : PureD Try.prog cfg 28 p_bucket_cut := fnDa sp0 [] (l := [(24, p_slot_Slots), (25, p_slot_None), (47, p_slices_Repeat_int_int), (48, p_num_Cut)]) (lo := [(47, o_slices_Repeat_int_int)]) cfgOk cfgGlob (.cons pd_slot_Slots (.cons pd_slot_None (.cons pd_slices_Repeat_int_int (.cons pd_num_Cut .nil)))) (.cons od_slices_Repeat_int_int.1 .nil) (fun d => by kernel_rfl)
noncomputable def slot_parts (d0 : Int × (Int × (Int × (Int × Unit)))) : Option (List Int) :=
 if (Dat.EqN (Dat.len (Dat.rep 3 0)) (Dat.len (4 :: (4 :: (d0.2.1 :: ([] : List Int)))))) then if (Dat.EqN (Dat.len (4 :: (4 :: (d0.2.1 :: ([] : List Int))))) 3) then some (4 :: (4 :: (d0.2.1 :: ([] : List Int))))
 else none
 else none
noncomputable def p_slot_parts : PFn := { args := [(.pair (.int .i64) (.pair (.int .i64) (.pair (.int .i64) (.pair (.int .i64) .unit))))], res := [(.arr 3 (.int .i64))], fn := slot_parts }
theorem pd_slot_parts : PureD Try.prog cfg 45 p_slot_parts := fnD sp0 (l := []) cfgOk cfgGlob .nil (fun d => by kernel_rfl)
noncomputable def bytes_Equal (d0 : List Int × (List Int)) : Option Bool :=
 Dat.bnd (Dat.str d0.1) fun x1 =>
 Dat.bnd (Dat.str d0.2) fun x2 =>
 some (Dat.seq x1 x2)
noncomputable def p_bytes_Equal : PFn := { args := [(.list (.int .u8)), (.list (.int .u8))], res := [.bool], fn := bytes_Equal }
theorem pd_bytes_Equal : PureD Try.prog cfg 50 p_bytes_Equal := fnD sp0 (l := []) cfgOk cfgGlob .nil (fun d => by kernel_rfl)
noncomputable def num_shiftTogether (d0 : List Int) : Option Int :=
 Dat.loop (fun (s1 : Int × Int) k2 =>
 (bif (Dat.ilt s1.2 (Dat.ofN (Dat.len d0))) then if (Dat.Ix s1.2 (Dat.len d0)) then Dat.bnd (Dat.get d0 (Dat.toN s1.2) 0) fun x5 =>
 Dat.bnd (Dat.wrap .u64 x5) fun x6 =>
 Dat.bnd (Dat.wrap .i64 (Dat.mul 8 s1.2)) fun x7 =>
 if (Dat.Neg x7) then none
 else Dat.bnd (Dat.shl .u64 x6 x7) fun x10 =>
 Dat.bnd (Dat.bor .u64 s1.1 x10) fun x11 =>
 Dat.bnd (Dat.wrap .i64 (Dat.add s1.2 1)) fun x12 =>
 k2 (x11, x12)
 else none
 else some s1.1)) (0, 0)
noncomputable def p_num_shiftTogether : PFn := { args := [(.list (.int .u8))], res := [(.int .u64)], fn := num_shiftTogether }
def sp72_72 : List LSpec × List Nat := ([{ id := 7200, known := true, toks := [], items := [.slot 3 (.val (.int .u64)), .slot 7 (.val (.int .i64))], junk := [8, 9, 4, 10, 11, 12, 13, 14, 15, 16, 17, 18, 19, 20], tails := [] }], [])
def spt72 : Tab (List LSpec × List Nat) := (.node .leaf none (.node (.node (.node .leaf none (.node (.node (.node .leaf (some sp72_72) .leaf) none .leaf) none .leaf)) none .leaf) none .leaf))
def spf72 (f : Nat) : List LSpec × List Nat := (spt72.get f).getD ([], [])
theorem pd_num_shiftTogether : PureD Try.prog cfg 72 p_num_shiftTogether := fnD spf72 (l := []) cfgOk cfgGlob .nil (fun d => by kernel_rfl)
noncomputable def num_Take (d0 : List Int × (List Int)) : Option (List Int × Int) :=
 Dat.bind (num_together (d0.2, (1, 8))) fun x1 =>
 (bif (Dat.ine x1.2 0) then some (([] : List Int), x1.2)
 else Dat.bind (num_Cut (d0.1, d0.2)) fun x2 =>
 (bif (Dat.ine x2.2 0) then some (([] : List Int), x2.2)
 else if (Dat.MkOk (Dat.ofN (Dat.len x2.1)) (Dat.ofN (Dat.len x2.1)) 8) then Dat.loop (fun (s5 : Int × (List Int)) k6 =>
 (bif (Dat.ilt s5.1 (Dat.ofN (Dat.len x2.1))) then if (Dat.Ix s5.1 (Dat.len x2.1)) then Dat.bnd (Dat.get x2.1 (Dat.toN s5.1) ([] : List Int)) fun x9 =>
 Dat.bind (num_shiftTogether x9) fun x10 =>
 if (Dat.In s5.1 (Dat.toN (Dat.ofN (Dat.len x2.1)))) then if (Dat.Lt (Dat.addN 0 (Dat.toN s5.1)) (Dat.len s5.2)) then Dat.bnd (Dat.set s5.2 (Dat.addN 0 (Dat.toN s5.1)) x10) fun x15 =>
 Dat.bnd (Dat.wrap .i64 (Dat.add s5.1 1)) fun x16 =>
 k6 (x16, x15)
 else none
 else none
 else none
 else if (Dat.Le (Dat.addN 0 (Dat.toN (Dat.ofN (Dat.len x2.1)))) (Dat.len s5.2)) then some ((Dat.seg s5.2 0 (Dat.toN (Dat.ofN (Dat.len x2.1)))), 0)
 else none)) (0, (Dat.rep (α := Int) (Dat.toN (Dat.ofN (Dat.len x2.1))) 0))
 else none))
noncomputable def p_num_Take : PFn := { args := [(.list (.int .u8)), (.list (.int .i64))], res := [(.list (.int .u64)), (.int .i64)], fn := num_Take }
def sp67_67 : List LSpec × List Nat := ([{ id := 6700, known := true, toks := [], items := [.slot 35 (.val (.int .i64)), .vec 1000010 (.int .u64)], junk := [36, 37, 38, 39, 11, 12, 40, 41, 42, 43, 44, 45], tails := [] }], [])
def spt67 : Tab (List LSpec × List Nat) := (.node (.node (.node .leaf none (.node (.node (.node (.node .leaf (some sp67_67) .leaf) none .leaf) none .leaf) none .leaf)) none .leaf) none .leaf)
def spf67 (f : Nat) : List LSpec × List Nat := (spt67.get f).getD ([], [])
noncomputable def o_num_Take : OFn := { args := [(.list (.int .u8)), (.list (.int .i64))], ores := [(.own (.int .u64)), (.plain (.int .i64))], fn := num_Take }
theorem od_num_Take : OwnD Try.prog cfg 67 o_num_Take ∧ PureD Try.prog cfg 67 o_num_Take.pfn := fnO spf67 [] (l := [(62, p_num_together), (48, p_num_Cut), (72, p_num_shiftTogether)]) (lo := []) cfgOk cfgGlob (.cons pd_num_together (.cons pd_num_Cut (.cons pd_num_shiftTogether .nil))) .nil (fun d => by kernel_rfl)
theorem pd_num_Take : PureD Try.prog cfg 67 p_num_Take := od_num_Take.2
noncomputable def slot_Check (d0 : (Int × (Int × (Int × (Int × Unit)))) × LBk) : Option Int :=
 Dat.bind (slot_Slots (d0.1.1, (d0.1.2.1, (d0.1.2.2.1, (d0.1.2.2.2.1, ()))))) fun x1 =>
 (bif (Dat.ine x1.2 0) then some x1.2
 else Dat.bind (geo_Leaves d0.1.2.2.1) fun x2 =>
 (bif (Dat.ilt d0.2.1 0) then some 8
 else (bif (Dat.pickB false true (Dat.ige d0.2.1 d0.1.1)) then some 8
 else (bif (Dat.pickB false true (Dat.ilt d0.2.2.1 0)) then some 8
 else (bif (Dat.pickB false true (Dat.ige d0.2.2.1 x2.1)) then some 8
 else (bif (Dat.pickB false true (Dat.ine (Dat.ofN (Dat.len d0.2.2.2.1)) d0.1.2.1)) then some 8
 else some 0))))))
noncomputable def p_slot_Check : PFn := { args := [(.pair (.int .i64) (.pair (.int .i64) (.pair (.int .i64) (.pair (.int .i64) .unit)))), (.pair (.int .i64) (.pair (.int .i64) (.pair (.list (.int .u8)) .unit)))], res := [(.int .i64)], fn := slot_Check }
theorem pd_slot_Check : PureD Try.prog cfg 31 p_slot_Check := fnD sp0 (l := [(24, p_slot_Slots), (43, p_geo_Leaves)]) cfgOk cfgGlob (.cons pd_slot_Slots (.cons pd_geo_Leaves .nil)) (fun d => by kernel_rfl)
noncomputable def slot_Read (d0 : (Int × (Int × (Int × (Int × Unit)))) × (List Int)) : Option (LBk × (Bool × Int)) :=
 Dat.bind (slot_None (d0.1.1, (d0.1.2.1, (d0.1.2.2.1, (d0.1.2.2.2.1, ()))))) fun x1 =>
 (bif (Dat.ine x1.2 0) then some ((0, (0, (([] : List Int), ()))), (false, x1.2))
 else Dat.bind (slot_parts (d0.1.1, (d0.1.2.1, (d0.1.2.2.1, (d0.1.2.2.2.1, ()))))) fun x2 =>
 if (Dat.EqN (Dat.len (Dat.rep 3 0)) 3) then if (Dat.Le 3 (Dat.len (Dat.norm 3 x2 0))) then if (Dat.Lt 0 3) then if (Dat.Le (Dat.addN 0 (Dat.subN 3 0)) (Dat.len (Dat.norm 3 x2 0))) then Dat.bind (num_Cut_r (d0.2, (Dat.seg (Dat.norm 3 x2 0) 0 (Dat.subN 3 0)))) fun x11 =>
 (bif (Dat.ine x11.2.2 0) then some ((0, (0, (([] : List Int), ()))), (false, x11.2.2))
 else Dat.bind (bytes_Equal (d0.2, x1.1)) fun x12 =>
 (bif x12 then some ((0, (0, (([] : List Int), ()))), (false, 0))
 else if (Dat.Ix 0 (Dat.xlen x11.2.1)) then if (Dat.XPt x11.1.2 x11.2.1 (Dat.toN 0)) then if (Dat.XPt x11.1.2 x11.2.1 (Dat.toN 0)) then Dat.bnd (Dat.xat x11.1.2 x11.2.1 (Dat.toN 0) (MixE.nil : MixE Int)) fun x19 =>
 Dat.bnd (Dat.wrap .i64 (Dat.add 0 1)) fun x20 =>
 if (Dat.XOk x11.1.1 x19) then Dat.bnd (Dat.xget x11.1.1 x19) fun x23 =>
 if (Dat.Le (Dat.addN 0 1) (Dat.len (4 :: ([] : List Int)))) then Dat.bind (num_Take (x23, (Dat.seg (4 :: ([] : List Int)) 0 1))) fun x26 =>
 if (Dat.EqN (Dat.len x26.1) 0) then if (Dat.Ix 0 (Dat.len x26.1)) then Dat.bnd (Dat.get x26.1 (Dat.toN 0) 0) fun x31 =>
 if (Dat.Ix x20 (Dat.xlen x11.2.1)) then if (Dat.XPt x11.1.2 x11.2.1 (Dat.toN x20)) then if (Dat.XPt x11.1.2 x11.2.1 (Dat.toN x20)) then Dat.bnd (Dat.xat x11.1.2 x11.2.1 (Dat.toN x20) (MixE.nil : MixE Int)) fun x38 =>
 Dat.bnd (Dat.wrap .i64 (Dat.add x20 1)) fun x39 =>
 if (Dat.XOk x11.1.1 x38) then Dat.bnd (Dat.xget x11.1.1 x38) fun x42 =>
 if (Dat.Le (Dat.addN 0 1) (Dat.len (4 :: ([] : List Int)))) then Dat.bind (num_Take (x42, (Dat.seg (4 :: ([] : List Int)) 0 1))) fun x45 =>
 if (Dat.EqN (Dat.len x45.1) 0) then if (Dat.Ix 0 (Dat.len x45.1)) then Dat.bnd (Dat.get x45.1 (Dat.toN 0) 0) fun x50 =>
 Dat.bnd (Dat.wrap .i64 x31) fun x51 =>
 Dat.bnd (Dat.wrap .i64 (Dat.sub x51 1)) fun x52 =>
 Dat.bnd (Dat.wrap .i64 x50) fun x53 =>
 if (Dat.Ix x39 (Dat.xlen x11.2.1)) then if (Dat.XPt x11.1.2 x11.2.1 (Dat.toN x39)) then if (Dat.XPt x11.1.2 x11.2.1 (Dat.toN x39)) then Dat.bnd (Dat.xat x11.1.2 x11.2.1 (Dat.toN x39) (MixE.nil : MixE Int)) fun x60 =>
 Dat.bnd (Dat.wrap .i64 (Dat.add x39 1)) fun x61 =>
 if (Dat.XOk x11.1.1 x60) then Dat.bnd (Dat.xget x11.1.1 x60) fun x64 =>
 Dat.bind (slot_Check ((d0.1.1, (d0.1.2.1, (d0.1.2.2.1, (d0.1.2.2.2.1, ())))), (x52, (x53, (x64, ()))))) fun x65 =>
 (bif (Dat.ine x65 0) then some ((0, (0, (([] : List Int), ()))), (false, x65))
 else if (Dat.XW x11.1.1 x60) then Dat.bnd (Dat.xget x11.1.1 x60) fun x68 =>
 some ((x52, (x53, (x68, ()))), (true, 0))
 else none)
 else none
 else none
 else none
 else none
 else none
 else if (Dat.In 0 (Dat.len x45.1)) then if (Dat.Lt (Dat.addN 0 (Dat.toN 0)) (Dat.len x45.1)) then Dat.bnd (Dat.get x45.1 (Dat.addN 0 (Dat.toN 0)) 0) fun x73 =>
 Dat.bnd (Dat.wrap .i64 x31) fun x74 =>
 Dat.bnd (Dat.wrap .i64 (Dat.sub x74 1)) fun x75 =>
 Dat.bnd (Dat.wrap .i64 x73) fun x76 =>
 if (Dat.Ix x39 (Dat.xlen x11.2.1)) then if (Dat.XPt x11.1.2 x11.2.1 (Dat.toN x39)) then if (Dat.XPt x11.1.2 x11.2.1 (Dat.toN x39)) then Dat.bnd (Dat.xat x11.1.2 x11.2.1 (Dat.toN x39) (MixE.nil : MixE Int)) fun x83 =>
 Dat.bnd (Dat.wrap .i64 (Dat.add x39 1)) fun x84 =>
 if (Dat.XOk x11.1.1 x83) then Dat.bnd (Dat.xget x11.1.1 x83) fun x87 =>
 Dat.bind (slot_Check ((d0.1.1, (d0.1.2.1, (d0.1.2.2.1, (d0.1.2.2.2.1, ())))), (x75, (x76, (x87, ()))))) fun x88 =>
 (bif (Dat.ine x88 0) then some ((0, (0, (([] : List Int), ()))), (false, x88))
 else if (Dat.XW x11.1.1 x83) then Dat.bnd (Dat.xget x11.1.1 x83) fun x91 =>
 some ((x75, (x76, (x91, ()))), (true, 0))
 else none)
 else none
 else none
 else none
 else none
 else none
 else none
 else none
 else none
 else none
 else none
 else none
 else none
 else if (Dat.In 0 (Dat.len x26.1)) then if (Dat.Lt (Dat.addN 0 (Dat.toN 0)) (Dat.len x26.1)) then Dat.bnd (Dat.get x26.1 (Dat.addN 0 (Dat.toN 0)) 0) fun x96 =>
 if (Dat.Ix x20 (Dat.xlen x11.2.1)) then if (Dat.XPt x11.1.2 x11.2.1 (Dat.toN x20)) then if (Dat.XPt x11.1.2 x11.2.1 (Dat.toN x20)) then Dat.bnd (Dat.xat x11.1.2 x11.2.1 (Dat.toN x20) (MixE.nil : MixE Int)) fun x103 =>
 Dat.bnd (Dat.wrap .i64 (Dat.add x20 1)) fun x104 =>
 if (Dat.XOk x11.1.1 x103) then Dat.bnd (Dat.xget x11.1.1 x103) fun x107 =>
 if (Dat.Le (Dat.addN 0 1) (Dat.len (4 :: ([] : List Int)))) then Dat.bind (num_Take (x107, (Dat.seg (4 :: ([] : List Int)) 0 1))) fun x110 =>
 if (Dat.EqN (Dat.len x110.1) 0) then if (Dat.Ix 0 (Dat.len x110.1)) then Dat.bnd (Dat.get x110.1 (Dat.toN 0) 0) fun x115 =>
 Dat.bnd (Dat.wrap .i64 x96) fun x116 =>
 Dat.bnd (Dat.wrap .i64 (Dat.sub x116 1)) fun x117 =>
 Dat.bnd (Dat.wrap .i64 x115) fun x118 =>
 if (Dat.Ix x104 (Dat.xlen x11.2.1)) then if (Dat.XPt x11.1.2 x11.2.1 (Dat.toN x104)) then if (Dat.XPt x11.1.2 x11.2.1 (Dat.toN x104)) then Dat.bnd (Dat.xat x11.1.2 x11.2.1 (Dat.toN x104) (MixE.nil : MixE Int)) fun x125 =>
 Dat.bnd (Dat.wrap .i64 (Dat.add x104 1)) fun x126 =>
 if (Dat.XOk x11.1.1 x125) then Dat.bnd (Dat.xget x11.1.1 x125) fun x129 =>
 Dat.bind (slot_Check ((d0.1.1, (d0.1.2.1, (d0.1.2.2.1, (d0.1.2.2.2.1, ())))), (x117, (x118, (x129, ()))))) fun x130 =>
 (bif (Dat.ine x130 0) then some ((0, (0, (([] : List Int), ()))), (false, x130))
 else if (Dat.XW x11.1.1 x125) then Dat.bnd (Dat.xget x11.1.1 x125) fun x133 =>
 some ((x117, (x118, (x133, ()))), (true, 0))
 else none)
 else none
 else none
 else none
 else none
 else none
 else if (Dat.In 0 (Dat.len x110.1)) then if (Dat.Lt (Dat.addN 0 (Dat.toN 0)) (Dat.len x110.1)) then Dat.bnd (Dat.get x110.1 (Dat.addN 0 (Dat.toN 0)) 0) fun x138 =>
 Dat.bnd (Dat.wrap .i64 x96) fun x139 =>
 Dat.bnd (Dat.wrap .i64 (Dat.sub x139 1)) fun x140 =>
 Dat.bnd (Dat.wrap .i64 x138) fun x141 =>
 if (Dat.Ix x104 (Dat.xlen x11.2.1)) then if (Dat.XPt x11.1.2 x11.2.1 (Dat.toN x104)) then if (Dat.XPt x11.1.2 x11.2.1 (Dat.toN x104)) then Dat.bnd (Dat.xat x11.1.2 x11.2.1 (Dat.toN x104) (MixE.nil : MixE Int)) fun x148 =>
 Dat.bnd (Dat.wrap .i64 (Dat.add x104 1)) fun x149 =>
 if (Dat.XOk x11.1.1 x148) then Dat.bnd (Dat.xget x11.1.1 x148) fun x152 =>
 Dat.bind (slot_Check ((d0.1.1, (d0.1.2.1, (d0.1.2.2.1, (d0.1.2.2.2.1, ())))), (x140, (x141, (x152, ()))))) fun x153 =>
 (bif (Dat.ine x153 0) then some ((0, (0, (([] : List Int), ()))), (false, x153))
 else if (Dat.XW x11.1.1 x148) then Dat.bnd (Dat.xget x11.1.1 x148) fun x156 =>
 some ((x140, (x141, (x156, ()))), (true, 0))
 else none)
 else none
 else none
 else none
 else none
 else none
 else none
 else none
 else none
 else none
 else none
 else none
 else none
 else none
 else none
 else none
 else none
 else none
 else none))
 else none
 else Dat.bind (num_Cut_r (d0.2, ([] : List Int))) fun x157 =>
 (bif (Dat.ine x157.2.2 0) then some ((0, (0, (([] : List Int), ()))), (false, x157.2.2))
 else Dat.bind (bytes_Equal (d0.2, x1.1)) fun x158 =>
 (bif x158 then some ((0, (0, (([] : List Int), ()))), (false, 0))
 else if (Dat.Ix 0 (Dat.xlen x157.2.1)) then if (Dat.XPt x157.1.2 x157.2.1 (Dat.toN 0)) then if (Dat.XPt x157.1.2 x157.2.1 (Dat.toN 0)) then Dat.bnd (Dat.xat x157.1.2 x157.2.1 (Dat.toN 0) (MixE.nil : MixE Int)) fun x165 =>
 Dat.bnd (Dat.wrap .i64 (Dat.add 0 1)) fun x166 =>
 if (Dat.XOk x157.1.1 x165) then Dat.bnd (Dat.xget x157.1.1 x165) fun x169 =>
 if (Dat.Le (Dat.addN 0 1) (Dat.len (4 :: ([] : List Int)))) then Dat.bind (num_Take (x169, (Dat.seg (4 :: ([] : List Int)) 0 1))) fun x172 =>
 if (Dat.EqN (Dat.len x172.1) 0) then if (Dat.Ix 0 (Dat.len x172.1)) then Dat.bnd (Dat.get x172.1 (Dat.toN 0) 0) fun x177 =>
 if (Dat.Ix x166 (Dat.xlen x157.2.1)) then if (Dat.XPt x157.1.2 x157.2.1 (Dat.toN x166)) then if (Dat.XPt x157.1.2 x157.2.1 (Dat.toN x166)) then Dat.bnd (Dat.xat x157.1.2 x157.2.1 (Dat.toN x166) (MixE.nil : MixE Int)) fun x184 =>
 Dat.bnd (Dat.wrap .i64 (Dat.add x166 1)) fun x185 =>
 if (Dat.XOk x157.1.1 x184) then Dat.bnd (Dat.xget x157.1.1 x184) fun x188 =>
 if (Dat.Le (Dat.addN 0 1) (Dat.len (4 :: ([] : List Int)))) then Dat.bind (num_Take (x188, (Dat.seg (4 :: ([] : List Int)) 0 1))) fun x191 =>
 if (Dat.EqN (Dat.len x191.1) 0) then if (Dat.Ix 0 (Dat.len x191.1)) then Dat.bnd (Dat.get x191.1 (Dat.toN 0) 0) fun x196 =>
 Dat.bnd (Dat.wrap .i64 x177) fun x197 =>
 Dat.bnd (Dat.wrap .i64 (Dat.sub x197 1)) fun x198 =>
 Dat.bnd (Dat.wrap .i64 x196) fun x199 =>
 if (Dat.Ix x185 (Dat.xlen x157.2.1)) then if (Dat.XPt x157.1.2 x157.2.1 (Dat.toN x185)) then if (Dat.XPt x157.1.2 x157.2.1 (Dat.toN x185)) then Dat.bnd (Dat.xat x157.1.2 x157.2.1 (Dat.toN x185) (MixE.nil : MixE Int)) fun x206 =>
 Dat.bnd (Dat.wrap .i64 (Dat.add x185 1)) fun x207 =>
 if (Dat.XOk x157.1.1 x206) then Dat.bnd (Dat.xget x157.1.1 x206) fun x210 =>
 Dat.bind (slot_Check ((d0.1.1, (d0.1.2.1, (d0.1.2.2.1, (d0.1.2.2.2.1, ())))), (x198, (x199, (x210, ()))))) fun x211 =>
 (bif (Dat.ine x211 0) then some ((0, (0, (([] : List Int), ()))), (false, x211))
 else if (Dat.XW x157.1.1 x206) then Dat.bnd (Dat.xget x157.1.1 x206) fun x214 =>
 some ((x198, (x199, (x214, ()))), (true, 0))
 else none)
 else none
 else none
 else none
 else none
 else none
 else if (Dat.In 0 (Dat.len x191.1)) then if (Dat.Lt (Dat.addN 0 (Dat.toN 0)) (Dat.len x191.1)) then Dat.bnd (Dat.get x191.1 (Dat.addN 0 (Dat.toN 0)) 0) fun x219 =>
 Dat.bnd (Dat.wrap .i64 x177) fun x220 =>
 Dat.bnd (Dat.wrap .i64 (Dat.sub x220 1)) fun x221 =>
 Dat.bnd (Dat.wrap .i64 x219) fun x222 =>
 if (Dat.Ix x185 (Dat.xlen x157.2.1)) then if (Dat.XPt x157.1.2 x157.2.1 (Dat.toN x185)) then if (Dat.XPt x157.1.2 x157.2.1 (Dat.toN x185)) then Dat.bnd (Dat.xat x157.1.2 x157.2.1 (Dat.toN x185) (MixE.nil : MixE Int)) fun x229 =>
 Dat.bnd (Dat.wrap .i64 (Dat.add x185 1)) fun x230 =>
 if (Dat.XOk x157.1.1 x229) then Dat.bnd (Dat.xget x157.1.1 x229) fun x233 =>
 Dat.bind (slot_Check ((d0.1.1, (d0.1.2.1, (d0.1.2.2.1, (d0.1.2.2.2.1, ())))), (x221, (x222, (x233, ()))))) fun x234 =>
 (bif (Dat.ine x234 0) then some ((0, (0, (([] : List Int), ()))), (false, x234))
 else if (Dat.XW x157.1.1 x229) then Dat.bnd (Dat.xget x157.1.1 x229) fun x237 =>
 some ((x221, (x222, (x237, ()))), (true, 0))
 else none)
 else none
 else none
 else none
 else none
 else none
 else none
 else none
 else none
 else none
 else none
 else none
 else none
 else if (Dat.In 0 (Dat.len x172.1)) then if (Dat.Lt (Dat.addN 0 (Dat.toN 0)) (Dat.len x172.1)) then Dat.bnd (Dat.get x172.1 (Dat.addN 0 (Dat.toN 0)) 0) fun x242 =>
 if (Dat.Ix x166 (Dat.xlen x157.2.1)) then if (Dat.XPt x157.1.2 x157.2.1 (Dat.toN x166)) then if (Dat.XPt x157.1.2 x157.2.1 (Dat.toN x166)) then Dat.bnd (Dat.xat x157.1.2 x157.2.1 (Dat.toN x166) (MixE.nil : MixE Int)) fun x249 =>
 Dat.bnd (Dat.wrap .i64 (Dat.add x166 1)) fun x250 =>
 if (Dat.XOk x157.1.1 x249) then Dat.bnd (Dat.xget x157.1.1 x249) fun x253 =>
 if (Dat.Le (Dat.addN 0 1) (Dat.len (4 :: ([] : List Int)))) then Dat.bind (num_Take (x253, (Dat.seg (4 :: ([] : List Int)) 0 1))) fun x256 =>
 if (Dat.EqN (Dat.len x256.1) 0) then if (Dat.Ix 0 (Dat.len x256.1)) then Dat.bnd (Dat.get x256.1 (Dat.toN 0) 0) fun x261 =>
 Dat.bnd (Dat.wrap .i64 x242) fun x262 =>
 Dat.bnd (Dat.wrap .i64 (Dat.sub x262 1)) fun x263 =>
 Dat.bnd (Dat.wrap .i64 x261) fun x264 =>
 if (Dat.Ix x250 (Dat.xlen x157.2.1)) then if (Dat.XPt x157.1.2 x157.2.1 (Dat.toN x250)) then if (Dat.XPt x157.1.2 x157.2.1 (Dat.toN x250)) then Dat.bnd (Dat.xat x157.1.2 x157.2.1 (Dat.toN x250) (MixE.nil : MixE Int)) fun x271 =>
 Dat.bnd (Dat.wrap .i64 (Dat.add x250 1)) fun x272 =>
 if (Dat.XOk x157.1.1 x271) then Dat.bnd (Dat.xget x157.1.1 x271) fun x275 =>
 Dat.bind (slot_Check ((d0.1.1, (d0.1.2.1, (d0.1.2.2.1, (d0.1.2.2.2.1, ())))), (x263, (x264, (x275, ()))))) fun x276 =>
 (bif (Dat.ine x276 0) then some ((0, (0, (([] : List Int), ()))), (false, x276))
 else if (Dat.XW x157.1.1 x271) then Dat.bnd (Dat.xget x157.1.1 x271) fun x279 =>
 some ((x263, (x264, (x279, ()))), (true, 0))
 else none)
 else none
 else none
 else none
 else none
 else none
 else if (Dat.In 0 (Dat.len x256.1)) then if (Dat.Lt (Dat.addN 0 (Dat.toN 0)) (Dat.len x256.1)) then Dat.bnd (Dat.get x256.1 (Dat.addN 0 (Dat.toN 0)) 0) fun x284 =>
 Dat.bnd (Dat.wrap .i64 x242) fun x285 =>
 Dat.bnd (Dat.wrap .i64 (Dat.sub x285 1)) fun x286 =>
 Dat.bnd (Dat.wrap .i64 x284) fun x287 =>
 if (Dat.Ix x250 (Dat.xlen x157.2.1)) then if (Dat.XPt x157.1.2 x157.2.1 (Dat.toN x250)) then if (Dat.XPt x157.1.2 x157.2.1 (Dat.toN x250)) then Dat.bnd (Dat.xat x157.1.2 x157.2.1 (Dat.toN x250) (MixE.nil : MixE Int)) fun x294 =>
 Dat.bnd (Dat.wrap .i64 (Dat.add x250 1)) fun x295 =>
 if (Dat.XOk x157.1.1 x294) then Dat.bnd (Dat.xget x157.1.1 x294) fun x298 =>
 Dat.bind (slot_Check ((d0.1.1, (d0.1.2.1, (d0.1.2.2.1, (d0.1.2.2.2.1, ())))), (x286, (x287, (x298, ()))))) fun x299 =>
 (bif (Dat.ine x299 0) then some ((0, (0, (([] : List Int), ()))), (false, x299))
 else if (Dat.XW x157.1.1 x294) then Dat.bnd (Dat.xget x157.1.1 x294) fun x302 =>
 some ((x286, (x287, (x302, ()))), (true, 0))
 else none)
 else none
 else none
 else none
 else none
 else none
 else none
 else none
 else none
 else none
 else none
 else none
 else none
 else none
 else none
 else none
 else none
 else none
 else none))
 else none
 else none)
noncomputable def p_slot_Read : PFn := { args := [(.pair (.int .i64) (.pair (.int .i64) (.pair (.int .i64) (.pair (.int .i64) .unit)))), (.list (.int .u8))], res := [(.pair (.int .i64) (.pair (.int .i64) (.pair (.list (.int .u8)) .unit))), .bool, (.int .i64)], fn := slot_Read }
noncomputable def o_slot_Read : OFn := { args := [(.pair (.int .i64) (.pair (.int .i64) (.pair (.int .i64) (.pair (.int .i64) .unit)))), (.list (.int .u8))], ores := [(.pair (.plain (.int .i64)) (.pair (.plain (.int .i64)) (.pair (.own (.int .u8)) (.plain .unit)))), (.plain .bool), (.plain (.int .i64))], fn := slot_Read }
theorem od_slot_Read : OwnD Try.prog cfg 30 o_slot_Read ∧ PureD Try.prog cfg 30 o_slot_Read.pfn := fnOr sp0 [] (l := [(25, p_slot_None), (45, p_slot_parts), (50, p_bytes_Equal), (67, p_num_Take), (31, p_slot_Check)]) (lo := [(67, o_num_Take)]) (lr := [(48, r_num_Cut_r)]) cfgOk cfgGlob (.cons pd_slot_None (.cons pd_slot_parts (.cons pd_bytes_Equal (.cons pd_num_Take (.cons pd_slot_Check .nil))))) (.cons od_num_Take.1 .nil) (.cons rd_num_Cut_r .nil) (fun d => by kernel_rfl)
theorem pd_slot_Read : PureD Try.prog cfg 30 p_slot_Read := od_slot_Read.2
noncomputable def bucket_Check (d0 : (Int × (Int × (Int × (Int × Unit)))) × (List LBk × (List Int × (List Int × Unit)))) : Option Int :=
 Dat.bind (slot_Slots (d0.1.1, (d0.1.2.1, (d0.1.2.2.1, (d0.1.2.2.2.1, ()))))) fun x1 =>
 (bif (Dat.ine x1.2 0) then some x1.2
 else (bif (Dat.igt (Dat.ofN (Dat.len d0.2.1)) x1.1) then some 8
 else Dat.loop (fun (s2 : Int × (List (Int × Int))) k3 =>
 (bif (Dat.ilt s2.1 (Dat.ofN (Dat.len d0.2.1))) then if (Dat.Ix s2.1 (Dat.len d0.2.1)) then Dat.bnd (Dat.get d0.2.1 (Dat.toN s2.1) (0, (0, (([] : List Int), ())))) fun x6 =>
 Dat.bnd (Dat.mget s2.2 x6.1) fun x7 =>
 Dat.bnd (Dat.wrap .i64 (Dat.add x7 1)) fun x8 =>
 Dat.bnd (Dat.mput s2.2 x6.1 x8) fun x9 =>
 Dat.bind (slot_Check ((d0.1.1, (d0.1.2.1, (d0.1.2.2.1, (d0.1.2.2.2.1, ())))), (x6.1, (x6.2.1, (x6.2.2.1, ()))))) fun x10 =>
 (bif (Dat.ine x10 0) then some 8
 else Dat.bnd (Dat.mget x9 x6.1) fun x11 =>
 (bif (Dat.pickB false true (Dat.igt x11 1)) then some 8
 else Dat.bnd (Dat.wrap .i64 (Dat.add s2.1 1)) fun x12 =>
 k3 (x12, x9)))
 else none
 else some 0)) (0, ([] : List (Int × Int)))))
noncomputable def p_bucket_Check : PFn := { args := [(.pair (.int .i64) (.pair (.int .i64) (.pair (.int .i64) (.pair (.int .i64) .unit)))), (.pair (.list (.pair (.int .i64) (.pair (.int .i64) (.pair (.list (.int .u8)) .unit)))) (.pair (.arr 32 (.int .u8)) (.pair (.arr 32 (.int .u8)) .unit)))], res := [(.int .i64)], fn := bucket_Check }
def sp13_13 : List LSpec × List Nat := ([{ id := 1300, known := true, toks := [], items := [.slot 28 (.val (.int .i64)), .map 1000007 .i64 .i64], junk := [29, 30, 31, 9, 32, 33, 34, 35, 36, 37, 38, 39, 40, 41, 42, 43, 44, 45, 46, 47, 4, 48], tails := [] }], [])
def spt13 : Tab (List LSpec × List Nat) := (.node (.node .leaf none (.node .leaf none (.node .leaf (some sp13_13) .leaf))) none .leaf)
def spf13 (f : Nat) : List LSpec × List Nat := (spt13.get f).getD ([], [])
theorem pd_bucket_Check : PureD Try.prog cfg 13 p_bucket_Check := fnD spf13 (l := [(24, p_slot_Slots), (31, p_slot_Check)]) cfgOk cfgGlob (.cons pd_slot_Slots (.cons pd_slot_Check .nil)) (fun d => by kernel_rfl)
noncomputable def bucket_Read_r (d0 : (Int × (Int × (Int × (Int × Unit)))) × (List Int)) : Option (((List (List Int)) × (List (List MBk))) × (((MixE MBk) × (List Int × (List Int × Unit))) × Int)) :=
 Dat.bind (bucket_cut ((d0.1.1, (d0.1.2.1, (d0.1.2.2.1, (d0.1.2.2.2.1, ())))), d0.2)) fun x1 =>
 (bif (Dat.ine x1.2 0) then some ((([] : List (List Int)), ([] : List (List MBk))), (((Dat.xnil (α := MBk) ), (z32n, (z32n, ()))), x1.2))
 else Dat.bnd (Dat.wrap .i64 (Dat.sub (Dat.ofN (Dat.len x1.1)) 2)) fun x2 =>
 if (Dat.Ix x2 (Dat.len x1.1)) then Dat.bnd (Dat.get x1.1 (Dat.toN x2) ([] : List Int)) fun x5 =>
 if (Dat.Le 32 (Dat.len x5)) then Dat.bnd (Dat.wrap .i64 (Dat.add x2 1)) fun x8 =>
 if (Dat.Ix x8 (Dat.len x1.1)) then Dat.bnd (Dat.get x1.1 (Dat.toN x8) ([] : List Int)) fun x11 =>
 if (Dat.Le 32 (Dat.len x11)) then if (Dat.Bd x2 (Dat.len x1.1)) then Dat.bnd (Dat.slice x1.1 0 (Dat.toN x2)) fun x16 =>
 Dat.loop (fun (s17 : Int × (Bool × ((List (List MBk)) × ((List (List Int)) × ((MixE MBk) × (Int × (Int × (Int × (Int × (Int × (Int × (Int × (Int × (Int × (Int × (Int × (Int × (Int × (Int × (Int × (Int × (Int × (Int × (Int × (Int × (Int × (Int × (Int × (Int × (Int × (Int × (Int × (Int × (Int × (Int × (Int × (Int × (Int × (Int × (Int × (Int × (Int × (Int × (Int × (Int × (Int × (Int × (Int × (Int × (Int × (Int × (Int × (Int × (Int × (Int × (Int × (Int × (Int × (Int × (Int × (Int × (Int × (Int × (Int × (Int × (Int × (Int × (Int × Int)))))))))))))))))))))))))))))))))))))))))))))))))))))))))))))))))))) k18 =>
 (bif (Dat.ilt s17.1 (Dat.ofN (Dat.len x16))) then if (Dat.Ix s17.1 (Dat.len x16)) then Dat.bnd (Dat.get x16 (Dat.toN s17.1) ([] : List Int)) fun x21 =>
 Dat.bind (slot_Read ((d0.1.1, (d0.1.2.1, (d0.1.2.2.1, (d0.1.2.2.2.1, ())))), x21)) fun x22 =>
 Dat.bnd (Dat.app s17.2.2.2.1 (x22.1.2.2.1 :: ([] : List (List Int)))) fun x23 =>
 (bif (Dat.ine x22.2.2 0) then some ((([] : List (List Int)), ([] : List (List MBk))), (((Dat.xnil (α := MBk) ), (z32n, (z32n, ()))), 8))
 else (bif x22.2.1 then (bif (Dat.pickB false true (Dat.pickB true s17.2.1 false)) then some ((([] : List (List Int)), ([] : List (List MBk))), (((Dat.xnil (α := MBk) ), (z32n, (z32n, ()))), 8))
 else (bif (Dat.bnot x22.2.1) then Dat.bnd (Dat.wrap .i64 (Dat.add s17.1 1)) fun x24 =>
 k18 (x24, (true, (s17.2.2.1, (x23, s17.2.2.2.2))))
 else if (Dat.XGr s17.2.2.1 s17.2.2.2.2.1) then if (Dat.EqN (Dat.len ((x22.1.1, (x22.1.2.1, ((Dat.xrow (Dat.len s17.2.2.2.1) x22.1.2.2.1), ()))) :: ([] : List MBk))) 0) then Dat.bnd (Dat.wrap .i64 (Dat.add s17.1 1)) fun x29 =>
 k18 (x29, (s17.2.1, (s17.2.2.1, (x23, s17.2.2.2.2))))
 else if (Dat.Big (Dat.xlen s17.2.2.2.2.1) (Dat.len ((x22.1.1, (x22.1.2.1, ((Dat.xrow (Dat.len s17.2.2.2.1) x22.1.2.2.1), ()))) :: ([] : List MBk))) 40) then none
 else Dat.bnd (Dat.xapp s17.2.2.1 s17.2.2.2.2.1 ((x22.1.1, (x22.1.2.1, ((Dat.xrow (Dat.len s17.2.2.2.1) x22.1.2.2.1), ()))) :: ([] : List MBk))) fun x32 =>
 Dat.bnd (Dat.xlong s17.2.2.2.2.1 (Dat.len ((x22.1.1, (x22.1.2.1, ((Dat.xrow (Dat.len s17.2.2.2.1) x22.1.2.2.1), ()))) :: ([] : List MBk)))) fun x33 =>
 Dat.bnd (Dat.wrap .i64 (Dat.add s17.1 1)) fun x34 =>
 k18 (x34, (s17.2.1, (x32, (x23, (x33, s17.2.2.2.2.2)))))
 else none))
 else (bif (Dat.bnot x22.2.1) then Dat.bnd (Dat.wrap .i64 (Dat.add s17.1 1)) fun x35 =>
 k18 (x35, (true, (s17.2.2.1, (x23, s17.2.2.2.2))))
 else if (Dat.XGr s17.2.2.1 s17.2.2.2.2.1) then if (Dat.EqN (Dat.len ((x22.1.1, (x22.1.2.1, ((Dat.xrow (Dat.len s17.2.2.2.1) x22.1.2.2.1), ()))) :: ([] : List MBk))) 0) then Dat.bnd (Dat.wrap .i64 (Dat.add s17.1 1)) fun x40 =>
 k18 (x40, (s17.2.1, (s17.2.2.1, (x23, s17.2.2.2.2))))
 else if (Dat.Big (Dat.xlen s17.2.2.2.2.1) (Dat.len ((x22.1.1, (x22.1.2.1, ((Dat.xrow (Dat.len s17.2.2.2.1) x22.1.2.2.1), ()))) :: ([] : List MBk))) 40) then none
 else Dat.bnd (Dat.xapp s17.2.2.1 s17.2.2.2.2.1 ((x22.1.1, (x22.1.2.1, ((Dat.xrow (Dat.len s17.2.2.2.1) x22.1.2.2.1), ()))) :: ([] : List MBk))) fun x43 =>
 Dat.bnd (Dat.xlong s17.2.2.2.2.1 (Dat.len ((x22.1.1, (x22.1.2.1, ((Dat.xrow (Dat.len s17.2.2.2.1) x22.1.2.2.1), ()))) :: ([] : List MBk)))) fun x44 =>
 Dat.bnd (Dat.wrap .i64 (Dat.add s17.1 1)) fun x45 =>
 k18 (x45, (s17.2.1, (x43, (x23, (x44, s17.2.2.2.2.2)))))
 else none)))
 else none
 else if (Dat.XOk s17.2.2.1 s17.2.2.2.2.1) then Dat.bind (Dat.mapO (fun e48 =>
 if (Dat.XOk s17.2.2.2.1 e48.2.2.1) then Dat.bnd (Dat.xget s17.2.2.2.1 e48.2.2.1) fun x51 =>
 some (e48.1, (e48.2.1, (x51, e48.2.2.2)))
 else none) (Dat.xget s17.2.2.1 s17.2.2.2.2.1)) fun x52 =>
 Dat.bind (bucket_Check ((d0.1.1, (d0.1.2.1, (d0.1.2.2.1, (d0.1.2.2.2.1, ())))), (x52, ((p32 s17.2.2.2.2.2), ((p64 s17.2.2.2.2.2), ()))))) fun x53 =>
 (bif (Dat.ine x53 0) then some ((([] : List (List Int)), ([] : List (List MBk))), (((Dat.xnil (α := MBk) ), (z32n, (z32n, ()))), x53))
 else some ((s17.2.2.2.1, s17.2.2.1), ((s17.2.2.2.2.1, ((p32 s17.2.2.2.2.2), ((p64 s17.2.2.2.2.2), ()))), 0)))
 else none)) (0, (false, ((([] : List MBk) :: ([] : List (List MBk))), (([] : List (List Int)), ((Dat.xnew (α := MBk) 0 0), ((Dat.get x5 0 0), ((Dat.get x5 1 0), ((Dat.get x5 2 0), ((Dat.get x5 3 0), ((Dat.get x5 4 0), ((Dat.get x5 5 0), ((Dat.get x5 6 0), ((Dat.get x5 7 0), ((Dat.get x5 8 0), ((Dat.get x5 9 0), ((Dat.get x5 10 0), ((Dat.get x5 11 0), ((Dat.get x5 12 0), ((Dat.get x5 13 0), ((Dat.get x5 14 0), ((Dat.get x5 15 0), ((Dat.get x5 16 0), ((Dat.get x5 17 0), ((Dat.get x5 18 0), ((Dat.get x5 19 0), ((Dat.get x5 20 0), ((Dat.get x5 21 0), ((Dat.get x5 22 0), ((Dat.get x5 23 0), ((Dat.get x5 24 0), ((Dat.get x5 25 0), ((Dat.get x5 26 0), ((Dat.get x5 27 0), ((Dat.get x5 28 0), ((Dat.get x5 29 0), ((Dat.get x5 30 0), ((Dat.get x5 31 0), ((Dat.get x11 0 0), ((Dat.get x11 1 0), ((Dat.get x11 2 0), ((Dat.get x11 3 0), ((Dat.get x11 4 0), ((Dat.get x11 5 0), ((Dat.get x11 6 0), ((Dat.get x11 7 0), ((Dat.get x11 8 0), ((Dat.get x11 9 0), ((Dat.get x11 10 0), ((Dat.get x11 11 0), ((Dat.get x11 12 0), ((Dat.get x11 13 0), ((Dat.get x11 14 0), ((Dat.get x11 15 0), ((Dat.get x11 16 0), ((Dat.get x11 17 0), ((Dat.get x11 18 0), ((Dat.get x11 19 0), ((Dat.get x11 20 0), ((Dat.get x11 21 0), ((Dat.get x11 22 0), ((Dat.get x11 23 0), ((Dat.get x11 24 0), ((Dat.get x11 25 0), ((Dat.get x11 26 0), ((Dat.get x11 27 0), ((Dat.get x11 28 0), ((Dat.get x11 29 0), ((Dat.get x11 30 0), (Dat.get x11 31 0)))))))))))))))))))))))))))))))))))))))))))))))))))))))))))))))))))))
 else none
 else none
 else none
 else none
 else none)
def sp100011_49 : List LSpec × List Nat := ([{ id := 4900, known := true, toks := [(9000000, (.int .u8)), (7003000, (.pair (.int .i64) (.pair (.int .i64) (.pair (.mix 20000001 (.int .u8)) .unit))))], items := [.slot 7 (.val (.int .i64)), .cells 4 [.val .bool], .rows 2003000 (.pair (.int .i64) (.pair (.int .i64) (.pair (.mix 12003000 (.int .u8)) .unit))), .rows 12003000 (.int .u8), .cells 3 ([.val (.mix 2003000 (.pair (.int .i64) (.pair (.int .i64) (.pair (.mix 12003000 (.int .u8)) .unit))))] ++ v64)], junk := [8, 9, 10, 4, 11, 12, 13, 14, 15], tails := [] }], [])
def spt100011 : Tab (List LSpec × List Nat) := (.node (.node .leaf none (.node (.node (.node .leaf none (.node .leaf (some sp100011_49) .leaf)) none .leaf) none .leaf)) none .leaf)
def spf100011 (f : Nat) : List LSpec × List Nat := (spt100011.get f).getD ([], [])
noncomputable def r_bucket_Read_r : RFn := { args := [(.pair (.int .i64) (.pair (.int .i64) (.pair (.int .i64) (.pair (.int .i64) .unit)))), (.list (.int .u8))], objs := [(.int .u8), (.pair (.int .i64) (.pair (.int .i64) (.pair (.mix 0 (.int .u8)) .unit)))], res := [(.pair (.mix 1 (.pair (.int .i64) (.pair (.int .i64) (.pair (.mix 0 (.int .u8)) .unit)))) (.pair (.arr 32 (.int .u8)) (.pair (.arr 32 (.int .u8)) .unit))), (.int .i64)], fn := bucket_Read_r }
theorem rd_bucket_Read_r : OwnR Try.prog cfg 11 r_bucket_Read_r := fnR spf100011 [] (l := [(28, p_bucket_cut), (30, p_slot_Read), (13, p_bucket_Check)]) (lo := [(30, o_slot_Read)]) (lr := []) cfgOk cfgGlob (.cons pd_bucket_cut (.cons pd_slot_Read (.cons pd_bucket_Check .nil))) (.cons od_slot_Read.1 .nil) .nil (fun d => by kernel_rfl)
noncomputable def ref07_May (d0 : Int) : Option Bool :=
 (bif (Dat.ige d0 1) then some (Dat.pickB true (Dat.ile d0 6) false)
 else some false)
noncomputable def p_ref07_May : PFn := { args := [(.int .i64)], res := [.bool], fn := ref07_May }
theorem pd_ref07_May : PureD Try.prog cfg 54 p_ref07_May := fnD sp0 (l := []) cfgOk cfgGlob .nil (fun d => by kernel_rfl)
noncomputable def ref07_Many (d0 : Int) : Option Int :=
 Dat.loop (fun (s1 : Int × Int) k2 =>
 (bif (Dat.ilt s1.2 d0) then Dat.bnd (Dat.wrap .i64 (Dat.mul 2 s1.1)) fun x3 =>
 Dat.bnd (Dat.wrap .i64 (Dat.add s1.2 1)) fun x4 =>
 k2 (x3, x4)
 else some s1.1)) (1, 0)
noncomputable def p_ref07_Many : PFn := { args := [(.int .i64)], res := [(.int .i64)], fn := ref07_Many }
def sp55_55 : List LSpec × List Nat := ([{ id := 5500, known := true, toks := [], items := [.slot 3 (.val (.int .i64)), .slot 4 (.val (.int .i64))], junk := [5, 6, 7, 10, 11, 8, 9], tails := [] }], [])
def spt55 : Tab (List LSpec × List Nat) := (.node (.node (.node (.node .leaf none (.node .leaf none (.node .leaf (some sp55_55) .leaf))) none .leaf) none .leaf) none .leaf)
def spf55 (f : Nat) : List LSpec × List Nat := (spt55.get f).getD ([], [])
theorem pd_ref07_Many : PureD Try.prog cfg 55 p_ref07_Many := fnD spf55 (l := []) cfgOk cfgGlob .nil (fun d => by kernel_rfl)
noncomputable def ref09_Many (d0 : Int × (Int × (Int × (Int × Unit)))) : Option Int :=
 (bif (Dat.ilt d0.1 1) then some 0
 else (bif (Dat.pickB false true (Dat.igt d0.1 64)) then some 0
 else (bif (Dat.pickB false true (Dat.ilt d0.2.1 1)) then some 0
 else (bif (Dat.pickB false true (Dat.igt d0.2.1 32)) then some 0
 else Dat.bind (ref07_May d0.2.2.1) fun x1 =>
 (bif (Dat.pickB false true (Dat.bnot x1)) then some 0
 else Dat.bind (ref07_Many d0.2.2.1) fun x2 =>
 (bif (Dat.pickB false true (Dat.ilt x2 d0.1)) then some 0
 else Dat.loop (fun (s3 : Int) k4 =>
 (bif (Dat.ile s3 4) then Dat.bnd (Dat.wrap .i64 (Dat.add 8 d0.2.1)) fun x5 =>
 Dat.bnd (Dat.wrap .i64 (Dat.mul s3 x5)) fun x6 =>
 Dat.bnd (Dat.wrap .i64 (Dat.add x6 64)) fun x7 =>
 (bif (Dat.ieq d0.2.2.2.1 x7) then some s3
 else Dat.bnd (Dat.wrap .i64 (Dat.add s3 1)) fun x8 =>
 k4 x8)
 else some 0)) 1))))))
noncomputable def p_ref09_Many : PFn := { args := [(.pair (.int .i64) (.pair (.int .i64) (.pair (.int .i64) (.pair (.int .i64) .unit))))], res := [(.int .i64)], fn := ref09_Many }
def sp34_34 : List LSpec × List Nat := ([{ id := 3400, known := true, toks := [], items := [.slot 3 (.val (.int .i64))], junk := [36, 37, 40, 41, 42, 43, 44, 45, 46, 47, 48, 49, 2, 38, 39], tails := [] }], [])
def spt34 : Tab (List LSpec × List Nat) := (.node .leaf none (.node .leaf none (.node (.node (.node (.node .leaf (some sp34_34) .leaf) none .leaf) none .leaf) none .leaf)))
def spf34 (f : Nat) : List LSpec × List Nat := (spt34.get f).getD ([], [])
theorem pd_ref09_Many : PureD Try.prog cfg 34 p_ref09_Many := fnD spf34 (l := [(54, p_ref07_May), (55, p_ref07_Many)]) cfgOk cfgGlob (.cons pd_ref07_May (.cons pd_ref07_Many .nil)) (fun d => by kernel_rfl)
noncomputable def ref10_digest (d0 : List Int × Int) : Option (List Int) :=
 Dat.loop (fun (s1 : Int × (List Int)) k2 =>
 (bif (Dat.ilt s1.1 32) then Dat.bnd (Dat.wrap .i64 (Dat.add d0.2 s1.1)) fun x3 =>
 if (Dat.Ix x3 (Dat.len d0.1)) then Dat.bnd (Dat.get d0.1 (Dat.toN x3) 0) fun x6 =>
 if (Dat.In s1.1 32) then if (Dat.Lt (Dat.toN s1.1) (Dat.len s1.2)) then Dat.bnd (Dat.set s1.2 (Dat.toN s1.1) x6) fun x11 =>
 Dat.bnd (Dat.wrap .i64 (Dat.add s1.1 1)) fun x12 =>
 k2 (x12, x11)
 else none
 else none
 else none
 else if (Dat.EqN (Dat.len s1.2) 32) then if (Dat.EqN (Dat.len (Dat.rep 32 0)) 32) then if (Dat.EqN (Dat.len (Dat.norm 32 s1.2 0)) 32) then some (Dat.norm 32 s1.2 0)
 else none
 else none
 else none)) (0, (Dat.rep 32 0))
noncomputable def p_ref10_digest : PFn := { args := [(.list (.int .u8)), (.int .i64)], res := [(.arr 32 (.int .u8))], fn := ref10_digest }
def sp41_41 : List LSpec × List Nat := ([{ id := 4100, known := true, toks := [], items := [.slot 6 (.val (.int .i64)), .vec 1000005 (.int .u8)], junk := [7, 8, 11, 12, 13, 14, 15, 16, 17, 18, 9, 10], tails := [] }], [])
def spt41 : Tab (List LSpec × List Nat) := (.node (.node .leaf none (.node (.node .leaf none (.node (.node .leaf (some sp41_41) .leaf) none .leaf)) none .leaf)) none .leaf)
def spf41 (f : Nat) : List LSpec × List Nat := (spt41.get f).getD ([], [])
theorem pd_ref10_digest : PureD Try.prog cfg 41 p_ref10_digest := fnD spf41 (l := []) cfgOk cfgGlob .nil (fun d => by kernel_rfl)
noncomputable def ref01_Same (d0 : List Int × (List Int)) : Option Bool :=
 Dat.bnd (Dat.str d0.1) fun x1 =>
 Dat.bnd (Dat.str d0.2) fun x2 =>
 some (Dat.seq x1 x2)
noncomputable def p_ref01_Same : PFn := { args := [(.list (.int .u8)), (.list (.int .u8))], res := [.bool], fn := ref01_Same }
theorem pd_ref01_Same : PureD Try.prog cfg 18 p_ref01_Same := fnD sp0 (l := []) cfgOk cfgGlob .nil (fun d => by kernel_rfl)
noncomputable def ref01_Number (d0 : List Int) : Option Int :=
 Dat.bnd (Dat.wrap .i64 (Dat.sub (Dat.ofN (Dat.len d0)) 1)) fun x1 =>
 Dat.loop (fun (s2 : Int × Int) k3 =>
 (bif (Dat.ige s2.2 0) then Dat.bnd (Dat.wrap .u64 (Dat.mul 256 s2.1)) fun x4 =>
 if (Dat.Ix s2.2 (Dat.len d0)) then Dat.bnd (Dat.get d0 (Dat.toN s2.2) 0) fun x7 =>
 Dat.bnd (Dat.wrap .u64 x7) fun x8 =>
 Dat.bnd (Dat.wrap .u64 (Dat.add x4 x8)) fun x9 =>
 Dat.bnd (Dat.wrap .i64 (Dat.sub s2.2 1)) fun x10 =>
 k3 (x9, x10)
 else none
 else some s2.1)) (0, x1)
noncomputable def p_ref01_Number : PFn := { args := [(.list (.int .u8))], res := [(.int .u64)], fn := ref01_Number }
def sp60_60 : List LSpec × List Nat := ([{ id := 6000, known := true, toks := [], items := [.slot 3 (.val (.int .u64)), .slot 4 (.val (.int .i64))], junk := [8, 9, 12, 13, 14, 15, 16, 17, 18, 19, 10, 11], tails := [] }], [])
def spt60 : Tab (List LSpec × List Nat) := (.node .leaf none (.node (.node .leaf none (.node .leaf none (.node .leaf none (.node .leaf (some sp60_60) .leaf)))) none .leaf))
def spf60 (f : Nat) : List LSpec × List Nat := (spt60.get f).getD ([], [])
theorem pd_ref01_Number : PureD Try.prog cfg 60 p_ref01_Number := fnD spf60 (l := []) cfgOk cfgGlob .nil (fun d => by kernel_rfl)
noncomputable def ref09_May (d0 : (Int × (Int × (Int × (Int × Unit)))) × LBk) : Option Bool :=
 (bif (Dat.ige d0.2.1 0) then (bif (Dat.pickB true (Dat.ilt d0.2.1 d0.1.1) false) then (bif (Dat.pickB true (Dat.ige d0.2.2.1 0) false) then Dat.bind (ref07_Many d0.1.2.2.1) fun x1 =>
 (bif (Dat.pickB true (Dat.ilt d0.2.2.1 x1) false) then some (Dat.pickB true (Dat.ieq (Dat.ofN (Dat.len d0.2.2.2.1)) d0.1.2.1) false)
 else some false)
 else some false)
 else some false)
 else some false)
noncomputable def p_ref09_May : PFn := { args := [(.pair (.int .i64) (.pair (.int .i64) (.pair (.int .i64) (.pair (.int .i64) .unit)))), (.pair (.int .i64) (.pair (.int .i64) (.pair (.list (.int .u8)) .unit)))], res := [.bool], fn := ref09_May }
theorem pd_ref09_May : PureD Try.prog cfg 56 p_ref09_May := fnD sp0 (l := [(55, p_ref07_Many)]) cfgOk cfgGlob (.cons pd_ref07_Many .nil) (fun d => by kernel_rfl)
noncomputable def ref09_Read (d0 : (Int × (Int × (Int × (Int × Unit)))) × (List Int)) : Option (LBk × (Bool × Int)) :=
 Dat.bind (ref09_Many (d0.1.1, (d0.1.2.1, (d0.1.2.2.1, (d0.1.2.2.2.1, ()))))) fun x1 =>
 (bif (Dat.ilt x1 1) then some ((0, (0, (([] : List Int), ()))), (false, 8))
 else Dat.bnd (Dat.wrap .i64 (Dat.add 8 d0.1.2.1)) fun x2 =>
 (bif (Dat.ine (Dat.ofN (Dat.len d0.2)) x2) then some ((0, (0, (([] : List Int), ()))), (false, 10))
 else Dat.bnd (Dat.wrap .i64 (Dat.add 8 d0.1.2.1)) fun x3 =>
 if (Dat.MkOk x3 x3 1) then if (Dat.Le (Dat.addN 0 (Dat.toN x3)) (Dat.len (Dat.rep (α := Int) (Dat.toN x3) 0))) then Dat.bind (ref01_Same (d0.2, (Dat.seg (Dat.rep (α := Int) (Dat.toN x3) 0) 0 (Dat.toN x3)))) fun x8 =>
 (bif x8 then some ((0, (0, (([] : List Int), ()))), (false, 0))
 else if (Dat.Bd 4 (Dat.len d0.2)) then Dat.bnd (Dat.slice d0.2 0 (Dat.toN 4)) fun x11 =>
 if (Dat.Bd 8 (Dat.len d0.2)) then if (Dat.Bd 4 (Dat.toN 8)) then Dat.bnd (Dat.slice d0.2 (Dat.toN 4) (Dat.toN 8)) fun x16 =>
 Dat.bind (ref01_Number x11) fun x17 =>
 Dat.bind (ref01_Number x16) fun x18 =>
 Dat.bnd (Dat.wrap .i64 x17) fun x19 =>
 Dat.bnd (Dat.wrap .i64 (Dat.sub x19 1)) fun x20 =>
 Dat.bnd (Dat.wrap .i64 x18) fun x21 =>
 if (Dat.Bd 8 (Dat.len d0.2)) then Dat.bnd (Dat.slice d0.2 (Dat.toN 8) (Dat.len d0.2)) fun x24 =>
 if (Dat.Le (Dat.addN 0 0) (Dat.len ([] : List Int))) then if (Dat.Big (Dat.len (Dat.seg ([] : List Int) 0 0)) (Dat.len x24) 1) then none
 else Dat.bnd (Dat.app (Dat.seg ([] : List Int) 0 0) x24) fun x29 =>
 Dat.bind (ref09_May ((d0.1.1, (d0.1.2.1, (d0.1.2.2.1, (d0.1.2.2.2.1, ())))), (x20, (x21, (x29, ()))))) fun x30 =>
 (bif (Dat.bnot x30) then some ((0, (0, (([] : List Int), ()))), (false, 8))
 else some ((x20, (x21, (x29, ()))), (true, 0)))
 else none
 else none
 else none
 else none
 else none)
 else none
 else none))
noncomputable def p_ref09_Read : PFn := { args := [(.pair (.int .i64) (.pair (.int .i64) (.pair (.int .i64) (.pair (.int .i64) .unit)))), (.list (.int .u8))], res := [(.pair (.int .i64) (.pair (.int .i64) (.pair (.list (.int .u8)) .unit))), .bool, (.int .i64)], fn := ref09_Read }
theorem pd_ref09_Read : PureD Try.prog cfg 42 p_ref09_Read := fnD sp0 (l := [(34, p_ref09_Many), (18, p_ref01_Same), (60, p_ref01_Number), (56, p_ref09_May)]) cfgOk cfgGlob (.cons pd_ref09_Many (.cons pd_ref01_Same (.cons pd_ref01_Number (.cons pd_ref09_May .nil)))) (fun d => by kernel_rfl)
noncomputable def ref10_May (d0 : (Int × (Int × (Int × (Int × Unit)))) × (List LBk × (List Int × (List Int × Unit)))) : Option Bool :=
 Dat.bind (ref09_Many (d0.1.1, (d0.1.2.1, (d0.1.2.2.1, (d0.1.2.2.2.1, ()))))) fun x1 =>
 (bif (Dat.igt (Dat.ofN (Dat.len d0.2.1)) x1) then some false
 else Dat.loop (fun (s2 : Int) k3 =>
 (bif (Dat.ilt s2 (Dat.ofN (Dat.len d0.2.1))) then if (Dat.Ix s2 (Dat.len d0.2.1)) then Dat.bnd (Dat.get d0.2.1 (Dat.toN s2) (0, (0, (([] : List Int), ())))) fun x6 =>
 Dat.bind (ref09_May ((d0.1.1, (d0.1.2.1, (d0.1.2.2.1, (d0.1.2.2.2.1, ())))), (x6.1, (x6.2.1, (x6.2.2.1, ()))))) fun x7 =>
 (bif (Dat.bnot x7) then some false
 else Dat.loop (fun (s8 : Int) k9 =>
 (bif (Dat.ilt s8 s2) then if (Dat.Ix s8 (Dat.len d0.2.1)) then Dat.bnd (Dat.get d0.2.1 (Dat.toN s8) (0, (0, (([] : List Int), ())))) fun x12 =>
 if (Dat.Ix s2 (Dat.len d0.2.1)) then Dat.bnd (Dat.get d0.2.1 (Dat.toN s2) (0, (0, (([] : List Int), ())))) fun x15 =>
 (bif (Dat.ieq x12.1 x15.1) then some false
 else Dat.bnd (Dat.wrap .i64 (Dat.add s8 1)) fun x16 =>
 k9 x16)
 else none
 else none
 else Dat.bnd (Dat.wrap .i64 (Dat.add s2 1)) fun x17 =>
 k3 x17)) 0)
 else none
 else some true)) 0)
noncomputable def p_ref10_May : PFn := { args := [(.pair (.int .i64) (.pair (.int .i64) (.pair (.int .i64) (.pair (.int .i64) .unit)))), (.pair (.list (.pair (.int .i64) (.pair (.int .i64) (.pair (.list (.int .u8)) .unit)))) (.pair (.arr 32 (.int .u8)) (.pair (.arr 32 (.int .u8)) .unit)))], res := [.bool], fn := ref10_May }
def sp35_35 : List LSpec × List Nat := ([{ id := 3500, known := true, toks := [], items := [.slot 5 (.val (.int .i64))], junk := [13, 14, 15, 16, 17, 20, 21, 22, 23, 24, 25, 26, 27, 4, 6, 28, 29, 30, 33, 34, 35, 36, 37, 38, 39, 40, 41, 42, 43, 44, 45, 31, 32, 18, 19], tails := [] }, { id := 3501, known := true, toks := [], items := [.slot 6 (.val (.int .i64))], junk := [28, 29, 30, 33, 34, 35, 36, 37, 38, 39, 40, 41, 42, 43, 44, 45, 4, 31, 32], tails := [] }], [])
def spt35 : Tab (List LSpec × List Nat) := (.node (.node (.node .leaf none (.node (.node (.node .leaf (some sp35_35) .leaf) none .leaf) none .leaf)) none .leaf) none .leaf)
def spf35 (f : Nat) : List LSpec × List Nat := (spt35.get f).getD ([], [])
theorem pd_ref10_May : PureD Try.prog cfg 35 p_ref10_May := fnD spf35 (l := [(34, p_ref09_Many), (56, p_ref09_May)]) cfgOk cfgGlob (.cons pd_ref09_Many (.cons pd_ref09_May .nil)) (fun d => by kernel_rfl)
noncomputable def ref01_Total (d0 : List Int) : Option Int :=
 (bif (Dat.igt (Dat.ofN (Dat.len d0)) 64) then some (-1)
 else Dat.loop (fun (s1 : Int × Int) k2 =>
 (bif (Dat.ilt s1.2 (Dat.ofN (Dat.len d0))) then if (Dat.Ix s1.2 (Dat.len d0)) then Dat.bnd (Dat.get d0 (Dat.toN s1.2) 0) fun x5 =>
 (bif (Dat.ilt x5 0) then some (-1)
 else if (Dat.Ix s1.2 (Dat.len d0)) then Dat.bnd (Dat.get d0 (Dat.toN s1.2) 0) fun x8 =>
 (bif (Dat.pickB false true (Dat.igt x8 65536)) then some (-1)
 else if (Dat.Ix s1.2 (Dat.len d0)) then Dat.bnd (Dat.get d0 (Dat.toN s1.2) 0) fun x11 =>
 Dat.bnd (Dat.wrap .i64 (Dat.add s1.1 x11)) fun x12 =>
 Dat.bnd (Dat.wrap .i64 (Dat.add s1.2 1)) fun x13 =>
 k2 (x12, x13)
 else none)
 else none)
 else none
 else (bif (Dat.igt s1.1 65536) then some (-1)
 else some s1.1))) (0, 0))
noncomputable def p_ref01_Total : PFn := { args := [(.list (.int .i64))], res := [(.int .i64)], fn := ref01_Total }
def sp75_75 : List LSpec × List Nat := ([{ id := 7500, known := true, toks := [], items := [.slot 3 (.val (.int .i64)), .slot 4 (.val (.int .i64))], junk := [8, 9, 10, 11, 14, 15, 16, 17, 18, 19, 20, 21, 22, 23, 24, 25, 2, 26, 27, 28, 29, 30, 31, 12, 13], tails := [] }], [])
def spt75 : Tab (List LSpec × List Nat) := (.node (.node (.node .leaf none (.node .leaf none (.node (.node (.node .leaf (some sp75_75) .leaf) none .leaf) none .leaf))) none .leaf) none .leaf)
def spf75 (f : Nat) : List LSpec × List Nat := (spt75.get f).getD ([], [])
theorem pd_ref01_Total : PureD Try.prog cfg 75 p_ref01_Total := fnD spf75 (l := []) cfgOk cfgGlob .nil (fun d => by kernel_rfl)
noncomputable def ref01_numbers (d0 : List Int) : Option Bool :=
 Dat.loop (fun (s1 : Int) k2 =>
 (bif (Dat.ilt s1 (Dat.ofN (Dat.len d0))) then if (Dat.Ix s1 (Dat.len d0)) then Dat.bnd (Dat.get d0 (Dat.toN s1) 0) fun x5 =>
 (bif (Dat.ilt x5 1) then some false
 else if (Dat.Ix s1 (Dat.len d0)) then Dat.bnd (Dat.get d0 (Dat.toN s1) 0) fun x8 =>
 (bif (Dat.pickB false true (Dat.igt x8 8)) then some false
 else Dat.bnd (Dat.wrap .i64 (Dat.add s1 1)) fun x9 =>
 k2 x9)
 else none)
 else none
 else Dat.bind (ref01_Total d0) fun x10 =>
 some (Dat.ige x10 0))) 0
noncomputable def p_ref01_numbers : PFn := { args := [(.list (.int .i64))], res := [.bool], fn := ref01_numbers }
def sp73_73 : List LSpec × List Nat := ([{ id := 7300, known := true, toks := [], items := [.slot 3 (.val (.int .i64))], junk := [4, 5, 6, 7, 10, 11, 12, 13, 14, 15, 16, 17, 18, 19, 20, 21, 2, 8, 9], tails := [] }], [])
def spt73 : Tab (List LSpec × List Nat) := (.node (.node .leaf none (.node (.node .leaf none (.node (.node (.node .leaf (some sp73_73) .leaf) none .leaf) none .leaf)) none .leaf)) none .leaf)
def spf73 (f : Nat) : List LSpec × List Nat := (spt73.get f).getD ([], [])
theorem pd_ref01_numbers : PureD Try.prog cfg 73 p_ref01_numbers := fnD spf73 (l := [(75, p_ref01_Total)]) cfgOk cfgGlob (.cons pd_ref01_Total .nil) (fun d => by kernel_rfl)
noncomputable def ref01_Digits (d0 : Int × Int) : Option (List Int × Bool) :=
 if (Dat.EqN 0 (Dat.len ([] : List Int))) then Dat.loop (fun (s3 : List Int × (Int × Int)) k4 =>
 (bif (Dat.ilt s3.2.2 d0.2) then if (Dat.IsZ 256) then none
 else Dat.bnd (Dat.tmod s3.2.1 256) fun x7 =>
 Dat.bnd (Dat.wrap .u8 x7) fun x8 =>
 if (Dat.Le (Dat.addN 0 1) (Dat.len (x8 :: ([] : List Int)))) then if (Dat.Big (Dat.len s3.1) (Dat.len (Dat.seg (x8 :: ([] : List Int)) 0 1)) 1) then none
 else if (Dat.EqN (Dat.len s3.1) (Dat.len s3.1)) then Dat.bnd (Dat.app s3.1 (Dat.seg (x8 :: ([] : List Int)) 0 1)) fun x15 =>
 if (Dat.IsZ 256) then none
 else Dat.bnd (Dat.wrap .u64 (Dat.tdiv s3.2.1 256)) fun x18 =>
 Dat.bnd (Dat.wrap .i64 (Dat.add s3.2.2 1)) fun x19 =>
 if (Dat.EqN (Dat.len x15) (Dat.len x15)) then k4 (x15, (x18, x19))
 else none
 else none
 else none
 else some (s3.1, (Dat.ieq s3.2.1 0)))) (([] : List Int), (d0.1, 0))
 else none
noncomputable def p_ref01_Digits : PFn := { args := [(.int .u64), (.int .i64)], res := [(.list (.int .u8)), .bool], fn := ref01_Digits }
def sp74_74 : List LSpec × List Nat := ([{ id := 7400, known := true, toks := [(6, (.int .u8))], items := [.slot 6 (.slt (.int .u8) (some 1000006) false), .slot 0 (.val (.int .u64)), .slot 7 (.val (.int .i64))], junk := [8, 9, 10, 13, 14, 15, 16, 17, 18, 19, 20, 11, 12], tails := [(1000006, 6)] }], [])
def spt74 : Tab (List LSpec × List Nat) := (.node .leaf none (.node .leaf none (.node (.node .leaf none (.node (.node (.node .leaf (some sp74_74) .leaf) none .leaf) none .leaf)) none .leaf)))
def spf74 (f : Nat) : List LSpec × List Nat := (spt74.get f).getD ([], [])
theorem pd_ref01_Digits : PureD Try.prog cfg 74 p_ref01_Digits := fnD spf74 (l := []) cfgOk cfgGlob .nil (fun d => by kernel_rfl)
noncomputable def ref01_Put (d0 : List Int × (List Int)) : Option (List Int × Int) :=
 Dat.bind (ref01_numbers d0.2) fun x1 =>
 (bif (Dat.bnot x1) then some (([] : List Int), 2)
 else (bif (Dat.pickB false true (Dat.ine (Dat.ofN (Dat.len d0.1)) (Dat.ofN (Dat.len d0.2)))) then some (([] : List Int), 2)
 else if (Dat.EqN 0 (Dat.len ([] : List Int))) then Dat.loop (fun (s4 : List Int × Int) k5 =>
 (bif (Dat.ilt s4.2 (Dat.ofN (Dat.len d0.1))) then if (Dat.Ix s4.2 (Dat.len d0.1)) then Dat.bnd (Dat.get d0.1 (Dat.toN s4.2) 0) fun x8 =>
 if (Dat.Ix s4.2 (Dat.len d0.2)) then Dat.bnd (Dat.get d0.2 (Dat.toN s4.2) 0) fun x11 =>
 Dat.bind (ref01_Digits (x8, x11)) fun x12 =>
 (bif (Dat.bnot x12.2) then some (([] : List Int), 4)
 else if (Dat.Big (Dat.len s4.1) (Dat.len x12.1) 1) then none
 else if (Dat.EqN (Dat.len s4.1) (Dat.len s4.1)) then Dat.bnd (Dat.app s4.1 x12.1) fun x17 =>
 Dat.bnd (Dat.wrap .i64 (Dat.add s4.2 1)) fun x18 =>
 if (Dat.EqN (Dat.len x17) (Dat.len x17)) then k5 (x17, x18)
 else none
 else none)
 else none
 else none
 else if (Dat.EqN (Dat.len s4.1) (Dat.len s4.1)) then some (s4.1, 0)
 else none)) (([] : List Int), 0)
 else none))
noncomputable def p_ref01_Put : PFn := { args := [(.list (.int .u64)), (.list (.int .i64))], res := [(.list (.int .u8)), (.int .i64)], fn := ref01_Put }
def sp68_68 : List LSpec × List Nat := ([{ id := 6800, known := true, toks := [(6, (.int .u8))], items := [.slot 6 (.slt (.int .u8) (some 1000006) false), .slot 7 (.val (.int .i64))], junk := [20, 21, 22, 23, 27, 28, 29, 30, 31, 32, 33, 34, 35, 26, 36, 37, 8, 9, 38, 39, 4, 5, 40, 41, 42, 24, 25], tails := [(1000006, 6)] }], [])
def spt68 : Tab (List LSpec × List Nat) := (.node .leaf none (.node (.node .leaf none (.node (.node (.node (.node .leaf (some sp68_68) .leaf) none .leaf) none .leaf) none .leaf)) none .leaf))
def spf68 (f : Nat) : List LSpec × List Nat := (spt68.get f).getD ([], [])
noncomputable def o_ref01_Put : OFn := { args := [(.list (.int .u64)), (.list (.int .i64))], ores := [(.own (.int .u8)), (.plain (.int .i64))], fn := ref01_Put }
theorem od_ref01_Put : OwnD Try.prog cfg 68 o_ref01_Put ∧ PureD Try.prog cfg 68 o_ref01_Put.pfn := fnO spf68 [] (l := [(73, p_ref01_numbers), (74, p_ref01_Digits)]) (lo := []) cfgOk cfgGlob (.cons pd_ref01_numbers (.cons pd_ref01_Digits .nil)) .nil (fun d => by kernel_rfl)
theorem pd_ref01_Put : PureD Try.prog cfg 68 p_ref01_Put := od_ref01_Put.2
noncomputable def ref09_Of (d0 : LBk) : Option (List Int) :=
 Dat.bnd (Dat.wrap .i64 (Dat.add d0.1 1)) fun x1 =>
 Dat.bnd (Dat.wrap .u64 x1) fun x2 =>
 Dat.bnd (Dat.wrap .u64 d0.2.1) fun x3 =>
 if (Dat.Le (Dat.addN 0 2) (Dat.len (x2 :: (x3 :: ([] : List Int))))) then if (Dat.Le (Dat.addN 0 2) (Dat.len (4 :: (4 :: ([] : List Int))))) then Dat.bind (ref01_Put ((Dat.seg (x2 :: (x3 :: ([] : List Int))) 0 2), (Dat.seg (4 :: (4 :: ([] : List Int))) 0 2))) fun x8 =>
 if (Dat.EqN (Dat.len x8.1) 0) then if (Dat.Big (Dat.len x8.1) (Dat.len d0.2.2.1) 1) then none
 else none
 else if (Dat.Le (Dat.addN 0 (Dat.len x8.1)) (Dat.len x8.1)) then if (Dat.Big (Dat.len (Dat.seg x8.1 0 (Dat.len x8.1))) (Dat.len d0.2.2.1) 1) then none
 else Dat.bnd (Dat.app (Dat.seg x8.1 0 (Dat.len x8.1)) d0.2.2.1) fun x17 =>
 if (Dat.EqN (Dat.len x17) (Dat.len x17)) then some x17
 else none
 else none
 else none
 else none
noncomputable def p_ref09_Of : PFn := { args := [(.pair (.int .i64) (.pair (.int .i64) (.pair (.list (.int .u8)) .unit)))], res := [(.list (.int .u8))], fn := ref09_Of }
noncomputable def o_ref09_Of : OFn := { args := [(.pair (.int .i64) (.pair (.int .i64) (.pair (.list (.int .u8)) .unit)))], ores := [(.own (.int .u8))], fn := ref09_Of }
theorem od_ref09_Of : OwnD Try.prog cfg 57 o_ref09_Of ∧ PureD Try.prog cfg 57 o_ref09_Of.pfn := fnO sp0 [] (l := [(68, p_ref01_Put)]) (lo := [(68, o_ref01_Put)]) cfgOk cfgGlob (.cons pd_ref01_Put .nil) (.cons od_ref01_Put.1 .nil) (fun d => by kernel_rfl)
theorem pd_ref09_Of : PureD Try.prog cfg 57 p_ref09_Of := od_ref09_Of.2
noncomputable def ref10_Of (d0 : (Int × (Int × (Int × (Int × Unit)))) × (List LBk × (List Int × (List Int × Unit)))) : Option (List Int) :=
 if (Dat.EqN 0 (Dat.len ([] : List Int))) then Dat.loop (fun (s3 : List Int × Int) k4 =>
 Dat.bind (ref09_Many (d0.1.1, (d0.1.2.1, (d0.1.2.2.1, (d0.1.2.2.2.1, ()))))) fun x5 =>
 (bif (Dat.ilt s3.2 x5) then (bif (Dat.ilt s3.2 (Dat.ofN (Dat.len d0.2.1))) then if (Dat.Ix s3.2 (Dat.len d0.2.1)) then Dat.bnd (Dat.get d0.2.1 (Dat.toN s3.2) (0, (0, (([] : List Int), ())))) fun x8 =>
 Dat.bind (ref09_Of (x8.1, (x8.2.1, (x8.2.2.1, ())))) fun x9 =>
 if (Dat.Big (Dat.len s3.1) (Dat.len x9) 1) then none
 else if (Dat.EqN (Dat.len s3.1) (Dat.len s3.1)) then Dat.bnd (Dat.app s3.1 x9) fun x14 =>
 Dat.bnd (Dat.wrap .i64 (Dat.add s3.2 1)) fun x15 =>
 if (Dat.EqN (Dat.len x14) (Dat.len x14)) then k4 (x14, x15)
 else none
 else none
 else none
 else Dat.bnd (Dat.wrap .i64 (Dat.add 8 d0.1.2.1)) fun x18 =>
 if (Dat.ZOk x18 1) then Dat.bnd (Dat.rep (α := Int) (Dat.toN x18) 0) fun x21 =>
 if (Dat.Big (Dat.len s3.1) (Dat.len x21) 1) then none
 else if (Dat.EqN (Dat.len s3.1) (Dat.len s3.1)) then Dat.bnd (Dat.app s3.1 x21) fun x26 =>
 Dat.bnd (Dat.wrap .i64 (Dat.add s3.2 1)) fun x27 =>
 if (Dat.EqN (Dat.len x26) (Dat.len x26)) then k4 (x26, x27)
 else none
 else none
 else none)
 else if (Dat.Big (Dat.len s3.1) (Dat.len (n32 d0.2.2.1)) 1) then none
 else if (Dat.EqN (Dat.len s3.1) (Dat.len s3.1)) then Dat.bnd (Dat.app s3.1 (n32 d0.2.2.1)) fun x34 =>
 if (Dat.Big (Dat.len x34) (Dat.len (n32 d0.2.2.2.1)) 1) then none
 else if (Dat.EqN (Dat.len x34) (Dat.len x34)) then Dat.bnd (Dat.app x34 (n32 d0.2.2.2.1)) fun x39 =>
 some x39
 else none
 else none)) (([] : List Int), 0)
 else none
noncomputable def p_ref10_Of : PFn := { args := [(.pair (.int .i64) (.pair (.int .i64) (.pair (.int .i64) (.pair (.int .i64) .unit)))), (.pair (.list (.pair (.int .i64) (.pair (.int .i64) (.pair (.list (.int .u8)) .unit)))) (.pair (.arr 32 (.int .u8)) (.pair (.arr 32 (.int .u8)) .unit)))], res := [(.list (.int .u8))], fn := ref10_Of }
def sp36_36 : List LSpec × List Nat := ([{ id := 3600, known := true, toks := [(5, (.int .u8))], items := [.slot 5 (.slt (.int .u8) (some 1000005) false), .slot 6 (.val (.int .i64))], junk := [7, 8, 9, 10, 13, 14, 15, 16, 17, 18, 19, 20, 21, 22, 23, 24, 25, 26, 27, 28, 29, 30, 11, 12], tails := [(1000005, 5)] }], [])
def spt36 : Tab (List LSpec × List Nat) := (.node .leaf none (.node (.node .leaf none (.node (.node (.node .leaf (some sp36_36) .leaf) none .leaf) none .leaf)) none .leaf))
def spf36 (f : Nat) : List LSpec × List Nat := (spt36.get f).getD ([], [])
theorem pd_ref10_Of : PureD Try.prog cfg 36 p_ref10_Of := fnD spf36 (l := [(34, p_ref09_Many), (57, p_ref09_Of)]) cfgOk cfgGlob (.cons pd_ref09_Many (.cons pd_ref09_Of .nil)) (fun d => by kernel_rfl)
noncomputable def ref10_Read (d0 : (Int × (Int × (Int × (Int × Unit)))) × (List Int)) : Option ((List LBk × (List Int × (List Int × Unit))) × Int) :=
 Dat.bind (ref09_Many (d0.1.1, (d0.1.2.1, (d0.1.2.2.1, (d0.1.2.2.2.1, ()))))) fun x1 =>
 (bif (Dat.ilt x1 1) then some ((([] : List LBk), (z32n, (z32n, ()))), 8)
 else (bif (Dat.ine (Dat.ofN (Dat.len d0.2)) d0.1.2.2.2.1) then some ((([] : List LBk), (z32n, (z32n, ()))), 10)
 else Dat.bnd (Dat.wrap .i64 (Dat.sub d0.1.2.2.2.1 64)) fun x2 =>
 Dat.bnd (Dat.wrap .i64 (Dat.sub d0.1.2.2.2.1 32)) fun x3 =>
 Dat.bind (ref10_digest (d0.2, x2)) fun x4 =>
 Dat.bind (ref10_digest (d0.2, x3)) fun x5 =>
 if (Dat.EqN 0 (Dat.len ([] : List LBk))) then Dat.loop (fun (s8 : Int × (List LBk × (Int × (Int × (Int × (Int × (Int × (Int × (Int × (Int × (Int × (Int × (Int × (Int × (Int × (Int × (Int × (Int × (Int × (Int × (Int × (Int × (Int × (Int × (Int × (Int × (Int × (Int × (Int × (Int × (Int × (Int × (Int × (Int × (Int × (Int × (Int × (Int × (Int × (Int × (Int × (Int × (Int × (Int × (Int × (Int × (Int × (Int × (Int × (Int × (Int × (Int × (Int × (Int × (Int × (Int × (Int × (Int × (Int × (Int × (Int × (Int × (Int × (Int × (Int × Int))))))))))))))))))))))))))))))))))))))))))))))))))))))))))))))))) k9 =>
 (bif (Dat.ilt s8.1 x1) then Dat.bnd (Dat.wrap .i64 (Dat.add 8 d0.1.2.1)) fun x10 =>
 Dat.bnd (Dat.wrap .i64 (Dat.mul s8.1 x10)) fun x11 =>
 Dat.bnd (Dat.wrap .i64 (Dat.add s8.1 1)) fun x12 =>
 Dat.bnd (Dat.wrap .i64 (Dat.add 8 d0.1.2.1)) fun x13 =>
 Dat.bnd (Dat.wrap .i64 (Dat.mul x12 x13)) fun x14 =>
 if (Dat.Bd x14 (Dat.len d0.2)) then if (Dat.Bd x11 (Dat.toN x14)) then Dat.bnd (Dat.slice d0.2 (Dat.toN x11) (Dat.toN x14)) fun x19 =>
 Dat.bind (ref09_Read ((d0.1.1, (d0.1.2.1, (d0.1.2.2.1, (d0.1.2.2.2.1, ())))), x19)) fun x20 =>
 (bif (Dat.ine x20.2.2 0) then some ((([] : List LBk), (z32n, (z32n, ()))), 8)
 else (bif x20.2.1 then if (Dat.Le (Dat.addN 0 1) (Dat.len ((x20.1.1, (x20.1.2.1, (x20.1.2.2.1, ()))) :: ([] : List LBk)))) then if (Dat.Big (Dat.len s8.2.1) (Dat.len (Dat.seg ((x20.1.1, (x20.1.2.1, (x20.1.2.2.1, ()))) :: ([] : List LBk)) 0 1)) 40) then none
 else if (Dat.EqN (Dat.len s8.2.1) (Dat.len s8.2.1)) then Dat.bnd (Dat.app s8.2.1 (Dat.seg ((x20.1.1, (x20.1.2.1, (x20.1.2.2.1, ()))) :: ([] : List LBk)) 0 1)) fun x27 =>
 Dat.bnd (Dat.wrap .i64 (Dat.add s8.1 1)) fun x28 =>
 if (Dat.EqN (Dat.len x27) (Dat.len x27)) then k9 (x28, (x27, s8.2.2))
 else none
 else none
 else none
 else Dat.bnd (Dat.wrap .i64 (Dat.add s8.1 1)) fun x31 =>
 if (Dat.EqN (Dat.len s8.2.1) (Dat.len s8.2.1)) then k9 (x31, s8.2)
 else none))
 else none
 else none
 else Dat.bind (ref10_May ((d0.1.1, (d0.1.2.1, (d0.1.2.2.1, (d0.1.2.2.2.1, ())))), (s8.2.1, ((p32 s8.2.2), ((p64 s8.2.2), ()))))) fun x34 =>
 (bif (Dat.bnot x34) then some ((([] : List LBk), (z32n, (z32n, ()))), 8)
 else Dat.bind (ref10_Of ((d0.1.1, (d0.1.2.1, (d0.1.2.2.1, (d0.1.2.2.2.1, ())))), (s8.2.1, ((p32 s8.2.2), ((p64 s8.2.2), ()))))) fun x35 =>
 Dat.bind (ref01_Same (x35, d0.2)) fun x36 =>
 (bif (Dat.pickB false true (Dat.bnot x36)) then some ((([] : List LBk), (z32n, (z32n, ()))), 8)
 else some ((s8.2.1, ((p32 s8.2.2), ((p64 s8.2.2), ()))), 0))))) (0, (([] : List LBk), ((Dat.get x4 0 0), ((Dat.get x4 1 0), ((Dat.get x4 2 0), ((Dat.get x4 3 0), ((Dat.get x4 4 0), ((Dat.get x4 5 0), ((Dat.get x4 6 0), ((Dat.get x4 7 0), ((Dat.get x4 8 0), ((Dat.get x4 9 0), ((Dat.get x4 10 0), ((Dat.get x4 11 0), ((Dat.get x4 12 0), ((Dat.get x4 13 0), ((Dat.get x4 14 0), ((Dat.get x4 15 0), ((Dat.get x4 16 0), ((Dat.get x4 17 0), ((Dat.get x4 18 0), ((Dat.get x4 19 0), ((Dat.get x4 20 0), ((Dat.get x4 21 0), ((Dat.get x4 22 0), ((Dat.get x4 23 0), ((Dat.get x4 24 0), ((Dat.get x4 25 0), ((Dat.get x4 26 0), ((Dat.get x4 27 0), ((Dat.get x4 28 0), ((Dat.get x4 29 0), ((Dat.get x4 30 0), ((Dat.get x4 31 0), ((Dat.get x5 0 0), ((Dat.get x5 1 0), ((Dat.get x5 2 0), ((Dat.get x5 3 0), ((Dat.get x5 4 0), ((Dat.get x5 5 0), ((Dat.get x5 6 0), ((Dat.get x5 7 0), ((Dat.get x5 8 0), ((Dat.get x5 9 0), ((Dat.get x5 10 0), ((Dat.get x5 11 0), ((Dat.get x5 12 0), ((Dat.get x5 13 0), ((Dat.get x5 14 0), ((Dat.get x5 15 0), ((Dat.get x5 16 0), ((Dat.get x5 17 0), ((Dat.get x5 18 0), ((Dat.get x5 19 0), ((Dat.get x5 20 0), ((Dat.get x5 21 0), ((Dat.get x5 22 0), ((Dat.get x5 23 0), ((Dat.get x5 24 0), ((Dat.get x5 25 0), ((Dat.get x5 26 0), ((Dat.get x5 27 0), ((Dat.get x5 28 0), ((Dat.get x5 29 0), ((Dat.get x5 30 0), (Dat.get x5 31 0))))))))))))))))))))))))))))))))))))))))))))))))))))))))))))))))))
 else none))
noncomputable def p_ref10_Read : PFn := { args := [(.pair (.int .i64) (.pair (.int .i64) (.pair (.int .i64) (.pair (.int .i64) .unit)))), (.list (.int .u8))], res := [(.pair (.list (.pair (.int .i64) (.pair (.int .i64) (.pair (.list (.int .u8)) .unit)))) (.pair (.arr 32 (.int .u8)) (.pair (.arr 32 (.int .u8)) .unit))), (.int .i64)], fn := ref10_Read }
def sp23_23 : List LSpec × List Nat := ([{ id := 2300, known := true, toks := [(2002000, (.pair (.int .i64) (.pair (.int .i64) (.pair (.list (.int .u8)) .unit))))], items := [.slot 8 (.val (.int .i64)), .cells 1000007 ([.slt (.pair (.int .i64) (.pair (.int .i64) (.pair (.list (.int .u8)) .unit))) (some 2002000) false] ++ v64)], junk := [34, 35, 36, 40, 41, 42, 43, 44, 45, 46, 47, 48, 49, 50, 51, 52, 53, 54, 39, 55, 56, 57, 9, 10, 11, 58, 59, 60, 5, 61, 62, 63, 64, 65, 66, 67, 37, 38], tails := [(2002000, 2002000)] }], [])
def spt23 : Tab (List LSpec × List Nat) := (.node (.node (.node (.node .leaf none (.node .leaf (some sp23_23) .leaf)) none .leaf) none .leaf) none .leaf)
def spf23 (f : Nat) : List LSpec × List Nat := (spt23.get f).getD ([], [])
theorem pd_ref10_Read : PureD Try.prog cfg 23 p_ref10_Read := fnD spf23 (l := [(34, p_ref09_Many), (41, p_ref10_digest), (42, p_ref09_Read), (35, p_ref10_May), (36, p_ref10_Of), (18, p_ref01_Same)]) cfgOk cfgGlob (.cons pd_ref09_Many (.cons pd_ref10_digest (.cons pd_ref09_Read (.cons pd_ref10_May (.cons pd_ref10_Of (.cons pd_ref01_Same .nil)))))) (fun d => by kernel_rfl)
noncomputable def ref09_Same (d0 : LBk × LBk) : Option Bool :=
 (bif (Dat.ieq d0.1.1 d0.2.1) then (bif (Dat.pickB true (Dat.ieq d0.1.2.1 d0.2.2.1) false) then Dat.bind (ref01_Same (d0.1.2.2.1, d0.2.2.2.1)) fun x1 =>
 some (Dat.pickB true x1 false)
 else some false)
 else some false)
noncomputable def p_ref09_Same : PFn := { args := [(.pair (.int .i64) (.pair (.int .i64) (.pair (.list (.int .u8)) .unit))), (.pair (.int .i64) (.pair (.int .i64) (.pair (.list (.int .u8)) .unit)))], res := [.bool], fn := ref09_Same }
theorem pd_ref09_Same : PureD Try.prog cfg 59 p_ref09_Same := fnD sp0 (l := [(18, p_ref01_Same)]) cfgOk cfgGlob (.cons pd_ref01_Same .nil) (fun d => by kernel_rfl)
noncomputable def ref09_SameAll (d0 : List LBk × (List LBk)) : Option Bool :=
 (bif (Dat.ine (Dat.ofN (Dat.len d0.1)) (Dat.ofN (Dat.len d0.2))) then some false
 else Dat.loop (fun (s1 : Int) k2 =>
 (bif (Dat.ilt s1 (Dat.ofN (Dat.len d0.1))) then if (Dat.Ix s1 (Dat.len d0.1)) then Dat.bnd (Dat.get d0.1 (Dat.toN s1) (0, (0, (([] : List Int), ())))) fun x5 =>
 if (Dat.Ix s1 (Dat.len d0.2)) then Dat.bnd (Dat.get d0.2 (Dat.toN s1) (0, (0, (([] : List Int), ())))) fun x8 =>
 Dat.bind (ref09_Same ((x5.1, (x5.2.1, (x5.2.2.1, ()))), (x8.1, (x8.2.1, (x8.2.2.1, ()))))) fun x9 =>
 (bif (Dat.bnot x9) then some false
 else Dat.bnd (Dat.wrap .i64 (Dat.add s1 1)) fun x10 =>
 k2 x10)
 else none
 else none
 else some true)) 0)
noncomputable def p_ref09_SameAll : PFn := { args := [(.list (.pair (.int .i64) (.pair (.int .i64) (.pair (.list (.int .u8)) .unit)))), (.list (.pair (.int .i64) (.pair (.int .i64) (.pair (.list (.int .u8)) .unit))))], res := [.bool], fn := ref09_SameAll }
def sp40_40 : List LSpec × List Nat := ([{ id := 4000, known := true, toks := [], items := [.slot 5 (.val (.int .i64))], junk := [11, 12, 13, 14, 17, 18, 19, 20, 21, 22, 23, 24, 25, 26, 4, 15, 16], tails := [] }], [])
def spt40 : Tab (List LSpec × List Nat) := (.node .leaf none (.node (.node (.node .leaf none (.node (.node .leaf (some sp40_40) .leaf) none .leaf)) none .leaf) none .leaf))
def spf40 (f : Nat) : List LSpec × List Nat := (spt40.get f).getD ([], [])
theorem pd_ref09_SameAll : PureD Try.prog cfg 40 p_ref09_SameAll := fnD spf40 (l := [(59, p_ref09_Same)]) cfgOk cfgGlob (.cons pd_ref09_Same .nil) (fun d => by kernel_rfl)
noncomputable def ref10_Same (d0 : (List LBk × (List Int × (List Int × Unit))) × (List LBk × (List Int × (List Int × Unit)))) : Option Bool :=
 Dat.bind (ref09_SameAll (d0.1.1, d0.2.1)) fun x1 =>
 (bif x1 then (bif (Dat.pickB true (Dat.andB (Dat.ieq (Dat.get d0.1.2.1 0 0) (Dat.get d0.2.2.1 0 0)) (Dat.andB (Dat.ieq (Dat.get d0.1.2.1 1 0) (Dat.get d0.2.2.1 1 0)) (Dat.andB (Dat.ieq (Dat.get d0.1.2.1 2 0) (Dat.get d0.2.2.1 2 0)) (Dat.andB (Dat.ieq (Dat.get d0.1.2.1 3 0) (Dat.get d0.2.2.1 3 0)) (Dat.andB (Dat.ieq (Dat.get d0.1.2.1 4 0) (Dat.get d0.2.2.1 4 0)) (Dat.andB (Dat.ieq (Dat.get d0.1.2.1 5 0) (Dat.get d0.2.2.1 5 0)) (Dat.andB (Dat.ieq (Dat.get d0.1.2.1 6 0) (Dat.get d0.2.2.1 6 0)) (Dat.andB (Dat.ieq (Dat.get d0.1.2.1 7 0) (Dat.get d0.2.2.1 7 0)) (Dat.andB (Dat.ieq (Dat.get d0.1.2.1 8 0) (Dat.get d0.2.2.1 8 0)) (Dat.andB (Dat.ieq (Dat.get d0.1.2.1 9 0) (Dat.get d0.2.2.1 9 0)) (Dat.andB (Dat.ieq (Dat.get d0.1.2.1 10 0) (Dat.get d0.2.2.1 10 0)) (Dat.andB (Dat.ieq (Dat.get d0.1.2.1 11 0) (Dat.get d0.2.2.1 11 0)) (Dat.andB (Dat.ieq (Dat.get d0.1.2.1 12 0) (Dat.get d0.2.2.1 12 0)) (Dat.andB (Dat.ieq (Dat.get d0.1.2.1 13 0) (Dat.get d0.2.2.1 13 0)) (Dat.andB (Dat.ieq (Dat.get d0.1.2.1 14 0) (Dat.get d0.2.2.1 14 0)) (Dat.andB (Dat.ieq (Dat.get d0.1.2.1 15 0) (Dat.get d0.2.2.1 15 0)) (Dat.andB (Dat.ieq (Dat.get d0.1.2.1 16 0) (Dat.get d0.2.2.1 16 0)) (Dat.andB (Dat.ieq (Dat.get d0.1.2.1 17 0) (Dat.get d0.2.2.1 17 0)) (Dat.andB (Dat.ieq (Dat.get d0.1.2.1 18 0) (Dat.get d0.2.2.1 18 0)) (Dat.andB (Dat.ieq (Dat.get d0.1.2.1 19 0) (Dat.get d0.2.2.1 19 0)) (Dat.andB (Dat.ieq (Dat.get d0.1.2.1 20 0) (Dat.get d0.2.2.1 20 0)) (Dat.andB (Dat.ieq (Dat.get d0.1.2.1 21 0) (Dat.get d0.2.2.1 21 0)) (Dat.andB (Dat.ieq (Dat.get d0.1.2.1 22 0) (Dat.get d0.2.2.1 22 0)) (Dat.andB (Dat.ieq (Dat.get d0.1.2.1 23 0) (Dat.get d0.2.2.1 23 0)) (Dat.andB (Dat.ieq (Dat.get d0.1.2.1 24 0) (Dat.get d0.2.2.1 24 0)) (Dat.andB (Dat.ieq (Dat.get d0.1.2.1 25 0) (Dat.get d0.2.2.1 25 0)) (Dat.andB (Dat.ieq (Dat.get d0.1.2.1 26 0) (Dat.get d0.2.2.1 26 0)) (Dat.andB (Dat.ieq (Dat.get d0.1.2.1 27 0) (Dat.get d0.2.2.1 27 0)) (Dat.andB (Dat.ieq (Dat.get d0.1.2.1 28 0) (Dat.get d0.2.2.1 28 0)) (Dat.andB (Dat.ieq (Dat.get d0.1.2.1 29 0) (Dat.get d0.2.2.1 29 0)) (Dat.andB (Dat.ieq (Dat.get d0.1.2.1 30 0) (Dat.get d0.2.2.1 30 0)) (Dat.andB (Dat.ieq (Dat.get d0.1.2.1 31 0) (Dat.get d0.2.2.1 31 0)) true)))))))))))))))))))))))))))))))) false) then some (Dat.pickB true (Dat.andB (Dat.ieq (Dat.get d0.1.2.2.1 0 0) (Dat.get d0.2.2.2.1 0 0)) (Dat.andB (Dat.ieq (Dat.get d0.1.2.2.1 1 0) (Dat.get d0.2.2.2.1 1 0)) (Dat.andB (Dat.ieq (Dat.get d0.1.2.2.1 2 0) (Dat.get d0.2.2.2.1 2 0)) (Dat.andB (Dat.ieq (Dat.get d0.1.2.2.1 3 0) (Dat.get d0.2.2.2.1 3 0)) (Dat.andB (Dat.ieq (Dat.get d0.1.2.2.1 4 0) (Dat.get d0.2.2.2.1 4 0)) (Dat.andB (Dat.ieq (Dat.get d0.1.2.2.1 5 0) (Dat.get d0.2.2.2.1 5 0)) (Dat.andB (Dat.ieq (Dat.get d0.1.2.2.1 6 0) (Dat.get d0.2.2.2.1 6 0)) (Dat.andB (Dat.ieq (Dat.get d0.1.2.2.1 7 0) (Dat.get d0.2.2.2.1 7 0)) (Dat.andB (Dat.ieq (Dat.get d0.1.2.2.1 8 0) (Dat.get d0.2.2.2.1 8 0)) (Dat.andB (Dat.ieq (Dat.get d0.1.2.2.1 9 0) (Dat.get d0.2.2.2.1 9 0)) (Dat.andB (Dat.ieq (Dat.get d0.1.2.2.1 10 0) (Dat.get d0.2.2.2.1 10 0)) (Dat.andB (Dat.ieq (Dat.get d0.1.2.2.1 11 0) (Dat.get d0.2.2.2.1 11 0)) (Dat.andB (Dat.ieq (Dat.get d0.1.2.2.1 12 0) (Dat.get d0.2.2.2.1 12 0)) (Dat.andB (Dat.ieq (Dat.get d0.1.2.2.1 13 0) (Dat.get d0.2.2.2.1 13 0)) (Dat.andB (Dat.ieq (Dat.get d0.1.2.2.1 14 0) (Dat.get d0.2.2.2.1 14 0)) (Dat.andB (Dat.ieq (Dat.get d0.1.2.2.1 15 0) (Dat.get d0.2.2.2.1 15 0)) (Dat.andB (Dat.ieq (Dat.get d0.1.2.2.1 16 0) (Dat.get d0.2.2.2.1 16 0)) (Dat.andB (Dat.ieq (Dat.get d0.1.2.2.1 17 0) (Dat.get d0.2.2.2.1 17 0)) (Dat.andB (Dat.ieq (Dat.get d0.1.2.2.1 18 0) (Dat.get d0.2.2.2.1 18 0)) (Dat.andB (Dat.ieq (Dat.get d0.1.2.2.1 19 0) (Dat.get d0.2.2.2.1 19 0)) (Dat.andB (Dat.ieq (Dat.get d0.1.2.2.1 20 0) (Dat.get d0.2.2.2.1 20 0)) (Dat.andB (Dat.ieq (Dat.get d0.1.2.2.1 21 0) (Dat.get d0.2.2.2.1 21 0)) (Dat.andB (Dat.ieq (Dat.get d0.1.2.2.1 22 0) (Dat.get d0.2.2.2.1 22 0)) (Dat.andB (Dat.ieq (Dat.get d0.1.2.2.1 23 0) (Dat.get d0.2.2.2.1 23 0)) (Dat.andB (Dat.ieq (Dat.get d0.1.2.2.1 24 0) (Dat.get d0.2.2.2.1 24 0)) (Dat.andB (Dat.ieq (Dat.get d0.1.2.2.1 25 0) (Dat.get d0.2.2.2.1 25 0)) (Dat.andB (Dat.ieq (Dat.get d0.1.2.2.1 26 0) (Dat.get d0.2.2.2.1 26 0)) (Dat.andB (Dat.ieq (Dat.get d0.1.2.2.1 27 0) (Dat.get d0.2.2.2.1 27 0)) (Dat.andB (Dat.ieq (Dat.get d0.1.2.2.1 28 0) (Dat.get d0.2.2.2.1 28 0)) (Dat.andB (Dat.ieq (Dat.get d0.1.2.2.1 29 0) (Dat.get d0.2.2.2.1 29 0)) (Dat.andB (Dat.ieq (Dat.get d0.1.2.2.1 30 0) (Dat.get d0.2.2.2.1 30 0)) (Dat.andB (Dat.ieq (Dat.get d0.1.2.2.1 31 0) (Dat.get d0.2.2.2.1 31 0)) true)))))))))))))))))))))))))))))))) false)
 else some false)
 else some false)
noncomputable def p_ref10_Same : PFn := { args := [(.pair (.list (.pair (.int .i64) (.pair (.int .i64) (.pair (.list (.int .u8)) .unit)))) (.pair (.arr 32 (.int .u8)) (.pair (.arr 32 (.int .u8)) .unit))), (.pair (.list (.pair (.int .i64) (.pair (.int .i64) (.pair (.list (.int .u8)) .unit)))) (.pair (.arr 32 (.int .u8)) (.pair (.arr 32 (.int .u8)) .unit)))], res := [.bool], fn := ref10_Same }
theorem pd_ref10_Same : PureD Try.prog cfg 21 p_ref10_Same := fnD sp0 (l := [(40, p_ref09_SameAll)]) cfgOk cfgGlob (.cons pd_ref09_SameAll .nil) (fun d => by kernel_rfl)
noncomputable def law10_BucketReads (d0 : (Int × (Int × (Int × (Int × Unit)))) × (List Int)) : Option Bool :=
 (bif (Dat.igt (Dat.ofN (Dat.len d0.2)) 1000) then some true
 else if (Dat.Le (Dat.addN 0 0) (Dat.len ([] : List Int))) then if (Dat.Big (Dat.len (Dat.seg ([] : List Int) 0 0)) (Dat.len d0.2) 1) then none
 else Dat.bnd (Dat.app (Dat.seg ([] : List Int) 0 0) d0.2) fun x5 =>
 Dat.bind (bucket_Read_r ((d0.1.1, (d0.1.2.1, (d0.1.2.2.1, (d0.1.2.2.2.1, ())))), x5)) fun x6 =>
 Dat.bind (ref10_Read ((d0.1.1, (d0.1.2.1, (d0.1.2.2.1, (d0.1.2.2.2.1, ())))), d0.2)) fun x7 =>
 Dat.join (σ := Bool) (fun k8 =>
 if (Dat.XOk x6.1.2 x6.2.1.1) then Dat.bind (Dat.mapO (fun e11 =>
 if (Dat.XOk x6.1.1 e11.2.2.1) then Dat.bnd (Dat.xget x6.1.1 e11.2.2.1) fun x14 =>
 some (e11.1, (e11.2.1, (x14, e11.2.2.2)))
 else none) (Dat.xget x6.1.2 x6.2.1.1)) fun x15 =>
 Dat.bind (ref10_Same ((x15, ((n32 x6.2.1.2.1), ((n32 x6.2.1.2.2.1), ()))), (x7.1.1, ((n32 x7.1.2.1), ((n32 x7.1.2.2.1), ()))))) fun x16 =>
 (bif x16 then k8 (Dat.pickB true (Dat.ieq x6.2.2 x7.2) false)
 else k8 false)
 else none) fun j17 =>
 Dat.loop (fun (s18 : Int × ((List (List Int)) × (List (List MBk)))) k19 =>
 (bif (Dat.ilt s18.1 (Dat.ofN (Dat.xlen x6.2.1.1))) then if (Dat.Ix s18.1 (Dat.xlen x6.2.1.1)) then if (Dat.XPt s18.2.2 x6.2.1.1 (Dat.toN s18.1)) then if (Dat.XPt s18.2.2 x6.2.1.1 (Dat.toN s18.1)) then if (Dat.XPt s18.2.2 x6.2.1.1 (Dat.toN s18.1)) then Dat.bnd (Dat.xat s18.2.2 x6.2.1.1 (Dat.toN s18.1) (0, (0, ((MixE.nil : MixE Int), ())))) fun x28 =>
 Dat.bnd (Dat.xset s18.2.2 x6.2.1.1 (Dat.toN s18.1) ((-7), (x28.2.1, (x28.2.2.1, ())))) fun x29 =>
 Dat.loop (fun (s30 : Int × (List (List Int))) k31 =>
 if (Dat.Ix s18.1 (Dat.xlen x6.2.1.1)) then if (Dat.XPt x29 x6.2.1.1 (Dat.toN s18.1)) then if (Dat.XPt x29 x6.2.1.1 (Dat.toN s18.1)) then if (Dat.XPt x29 x6.2.1.1 (Dat.toN s18.1)) then Dat.bnd (Dat.xat x29 x6.2.1.1 (Dat.toN s18.1) (0, (0, ((MixE.nil : MixE Int), ())))) fun x40 =>
 (bif (Dat.ilt s30.1 (Dat.ofN (Dat.xlen x40.2.2.1))) then if (Dat.Ix s18.1 (Dat.xlen x6.2.1.1)) then if (Dat.XPt x29 x6.2.1.1 (Dat.toN s18.1)) then if (Dat.XPt x29 x6.2.1.1 (Dat.toN s18.1)) then if (Dat.XPt x29 x6.2.1.1 (Dat.toN s18.1)) then Dat.bnd (Dat.xat x29 x6.2.1.1 (Dat.toN s18.1) (0, (0, ((MixE.nil : MixE Int), ())))) fun x49 =>
 if (Dat.Ix s18.1 (Dat.xlen x6.2.1.1)) then if (Dat.XPt x29 x6.2.1.1 (Dat.toN s18.1)) then if (Dat.XPt x29 x6.2.1.1 (Dat.toN s18.1)) then if (Dat.XPt x29 x6.2.1.1 (Dat.toN s18.1)) then Dat.bnd (Dat.xat x29 x6.2.1.1 (Dat.toN s18.1) (0, (0, ((MixE.nil : MixE Int), ())))) fun x58 =>
 if (Dat.Ix s30.1 (Dat.xlen x58.2.2.1)) then if (Dat.XPt s30.2 x58.2.2.1 (Dat.toN s30.1)) then if (Dat.XPt s30.2 x58.2.2.1 (Dat.toN s30.1)) then Dat.bnd (Dat.xat s30.2 x58.2.2.1 (Dat.toN s30.1) 0) fun x65 =>
 Dat.bnd (Dat.wrap .u8 (Dat.add x65 1)) fun x66 =>
 if (Dat.Ix s30.1 (Dat.xlen x49.2.2.1)) then if (Dat.XPt s30.2 x49.2.2.1 (Dat.toN s30.1)) then if (Dat.XPt s30.2 x49.2.2.1 (Dat.toN s30.1)) then Dat.bnd (Dat.xset s30.2 x49.2.2.1 (Dat.toN s30.1) x66) fun x73 =>
 Dat.bnd (Dat.wrap .i64 (Dat.add s30.1 1)) fun x74 =>
 k31 (x74, x73)
 else none
 else none
 else none
 else none
 else none
 else none
 else none
 else none
 else none
 else none
 else none
 else none
 else none
 else none
 else Dat.bnd (Dat.wrap .i64 (Dat.add s18.1 1)) fun x75 =>
 k19 (x75, (s30.2, x29)))
 else none
 else none
 else none
 else none) (0, s18.2.1)
 else none
 else none
 else none
 else none
 else Dat.join (σ := Bool) (fun k76 =>
 (bif j17 then Dat.bind (ref01_Same (x5, d0.2)) fun x77 =>
 k76 (Dat.pickB true x77 false)
 else k76 false)) fun j78 =>
 some j78)) (0, (x6.1.1, x6.1.2))
 else none)
noncomputable def p_law10_BucketReads : PFn := { args := [(.pair (.int .i64) (.pair (.int .i64) (.pair (.int .i64) (.pair (.int .i64) .unit)))), (.list (.int .u8))], res := [.bool], fn := law10_BucketReads }
def sp5_69 : List LSpec × List Nat := ([uk 5069000, { id := 5069001, known := true, toks := [], items := [.slot 13 (.val .bool)], junk := [6, 7, 8, 9, 10, 11, 12], tails := [] }, uk 5069002, uk 5069003, uk 5069004, uk 5069005], [])
def sp5_22 : List LSpec × List Nat := ([{ id := 2200, known := true, toks := [], items := [.slot 2 (.val (.int .i64)), .rows 12005000 (.int .u8), .rows 2005000 (.pair (.int .i64) (.pair (.int .i64) (.pair (.mix 12005000 (.int .u8)) .unit)))], junk := [4, 5, 6, 7, 8, 11, 12, 13, 14, 15, 3, 16, 17, 18, 19, 20, 21, 22, 23, 24, 27, 28, 29, 30, 31, 32, 33, 34, 35, 36, 37, 38, 39, 40, 41, 42, 43, 44, 25, 26, 9, 10], tails := [] }, { id := 2201, known := true, toks := [], items := [.slot 3 (.val (.int .i64)), .rows 11000006 (.int .u8)], junk := [16, 17, 18, 19, 20, 21, 22, 23, 24, 27, 28, 29, 30, 31, 32, 33, 34, 35, 36, 37, 38, 39, 40, 41, 42, 43, 44, 25, 26], tails := [] }], [])
def sp5_5 : List LSpec × List Nat := ([uk 5005000, uk 5005001, uk 5005002, uk 5005003, uk 5005004, uk 5005005, uk 5005006, { id := 5005007, known := true, toks := [], items := [.slot 10 (.val .bool)], junk := [29, 30, 31, 32, 33, 34, 35, 36], tails := [] }, uk 5005008, { id := 5005009, known := true, toks := [], items := [.slot 4 (.val .bool)], junk := [39, 40, 41, 42, 43, 44], tails := [] }], [])
def spt5 : Tab (List LSpec × List Nat) := (.node (.node .leaf none (.node .leaf (some sp5_5) (.node (.node (.node (.node .leaf (some sp5_69) .leaf) none .leaf) none .leaf) none .leaf))) none (.node .leaf none (.node .leaf none (.node (.node .leaf (some sp5_22) .leaf) none .leaf))))
def spf5 (f : Nat) : List LSpec × List Nat := (spt5.get f).getD ([], [])
theorem pd_law10_BucketReads : PureD Try.prog cfg 5 p_law10_BucketReads := fnDr spf5 [] (l := [(23, p_ref10_Read), (21, p_ref10_Same), (18, p_ref01_Same)]) (lo := []) (lr := [(11, r_bucket_Read_r)]) cfgOk cfgGlob (.cons pd_ref10_Read (.cons pd_ref10_Same (.cons pd_ref01_Same .nil))) .nil (.cons rd_bucket_Read_r .nil) (fun d => by kernel_rfl)
end Go.Proofs.Ythhjkmefpmmleaa
