/- The functions of the program, as functions on plain data. -/
import Derived.Test.YtpmejooihjdapaaDoorCfg
import Derived.Test.YtpmejooihjdapaaDoorM5
import Derived.ProofKit
namespace Go.Proofs.YtpmejooihjdapaaDoor
open Go.Eng
set_option linter.unusedVariables false
set_option maxRecDepth 100000
def sp0 (f : Nat) : List LSpec × List Nat := ([], [])

/-- thimblerig/sha.Check -/
noncomputable def sha_Check (d0 : (List (Int)) × ((List (Int)) × ((Int) × (Unit)))) : Option (Int) :=
 (bif (Dat.ige d0.2.2.1 72057594037927936) then some 8
 else Dat.bnd (Dat.wrap .u64 (Dat.ofN (Dat.len d0.2.1))) fun (x1 : Int) =>
 if (Dat.IsZ 64) then none
 else Dat.bnd (Dat.tmod d0.2.2.1 64) fun (x4 : Int) =>
 (bif (Dat.pickB false true (Dat.ine x1 x4)) then some 8
 else some 0))
noncomputable def p_sha_Check : PFn := { args := [(.pair (.arr 8 (.int .u32)) (.pair (.list (.int .u8)) (.pair (.int .u64) .unit)))], res := [(.int .i64)], fn := sha_Check }
theorem pd_sha_Check : PureD Tryd.prog cfg 13 p_sha_Check := fnD sp0 (l := []) cfgOk cfgGlob .nil (fun d => by kernel_rfl)

/-- math/bits.RotateLeft32 -/
noncomputable def math_bits_RotateLeft32 (d0 : (Int) × (Int)) : Option (Int) :=
 Dat.bnd (Dat.wrap .u64 d0.2) fun (x1 : Int) =>
 Dat.bnd (Dat.band .u64 x1 31) fun (x2 : Int) =>
 if (Dat.Neg x2) then none
 else Dat.bnd (Dat.shl .u32 d0.1 x2) fun (x5 : Int) =>
 Dat.bnd (Dat.wrap .u64 (Dat.sub 32 x2)) fun (x6 : Int) =>
 if (Dat.Neg x6) then none
 else Dat.bnd (Dat.shr .u32 d0.1 x6) fun (x9 : Int) =>
 Dat.bnd (Dat.bor .u32 x5 x9) fun (x10 : Int) =>
 some x10
noncomputable def p_math_bits_RotateLeft32 : PFn := { args := [(.int .u32), (.int .i64)], res := [(.int .u32)], fn := math_bits_RotateLeft32 }
theorem pd_math_bits_RotateLeft32 : PureD Tryd.prog cfg 35 p_math_bits_RotateLeft32 := fnD sp0 (l := []) cfgOk cfgGlob .nil (fun d => by kernel_rfl)

/-- (thimblerig/sha.amounts).of -/
noncomputable def sha_amounts_of (d0 : ((List (Int)) × ((Bool) × (Unit))) × (Int)) : Option (Int) :=
 if (Dat.In 2 3) then Dat.bnd (Dat.wrap .i64 (Dat.sub 0 (Dat.get d0.1.1 2 0))) fun (x3 : Int) =>
 Dat.bind (math_bits_RotateLeft32 (d0.2, x3)) fun (x4 : Int) =>
 (bif d0.1.2.1 then if (Dat.In 2 3) then if (Dat.Neg (Dat.get d0.1.1 2 0)) then none
 else Dat.bnd (Dat.shr .u32 d0.2 (Dat.get d0.1.1 2 0)) fun (x9 : Int) =>
 if (Dat.In 0 3) then Dat.bnd (Dat.wrap .i64 (Dat.sub 0 (Dat.get d0.1.1 0 0))) fun (x12 : Int) =>
 if (Dat.In 1 3) then Dat.bnd (Dat.wrap .i64 (Dat.sub 0 (Dat.get d0.1.1 1 0))) fun (x15 : Int) =>
 Dat.bind (math_bits_RotateLeft32 (d0.2, x12)) fun (x16 : Int) =>
 Dat.bind (math_bits_RotateLeft32 (d0.2, x15)) fun (x17 : Int) =>
 Dat.bnd (Dat.bxor .u32 x16 x17) fun (x18 : Int) =>
 Dat.bnd (Dat.bxor .u32 x18 x9) fun (x19 : Int) =>
 some x19
 else none
 else none
 else none
 else if (Dat.In 0 3) then Dat.bnd (Dat.wrap .i64 (Dat.sub 0 (Dat.get d0.1.1 0 0))) fun (x22 : Int) =>
 if (Dat.In 1 3) then Dat.bnd (Dat.wrap .i64 (Dat.sub 0 (Dat.get d0.1.1 1 0))) fun (x25 : Int) =>
 Dat.bind (math_bits_RotateLeft32 (d0.2, x22)) fun (x26 : Int) =>
 Dat.bind (math_bits_RotateLeft32 (d0.2, x25)) fun (x27 : Int) =>
 Dat.bnd (Dat.bxor .u32 x26 x27) fun (x28 : Int) =>
 Dat.bnd (Dat.bxor .u32 x28 x4) fun (x29 : Int) =>
 some x29
 else none
 else none)
 else none
noncomputable def p_sha_amounts_of : PFn := { args := [(.pair (.arr 3 (.int .i64)) (.pair .bool .unit)), (.int .u32)], res := [(.int .u32)], fn := sha_amounts_of }
theorem pd_sha_amounts_of : PureD Tryd.prog cfg 31 p_sha_amounts_of := fnD sp0 (l := [(35, p_math_bits_RotateLeft32)]) cfgOk cfgGlob (.cons pd_math_bits_RotateLeft32 .nil) (fun d => by kernel_rfl)

/-- thimblerig/sha.spread -/
noncomputable def sha_spread (d0 : List (Int)) : Option (List (Int)) :=
 Dat.loop (fun (s1 : (Int) × (List (Int))) k2 =>
 (bif (Dat.ilt s1.1 64) then (bif (Dat.ilt s1.1 16) then Dat.bnd (Dat.wrap .i64 (Dat.mul 4 s1.1)) fun (x3 : Int) =>
 if (Dat.In x3 64) then if (Dat.Lt (Dat.toN x3) (Dat.len (Dat.norm 64 d0 0))) then Dat.bnd (Dat.get (Dat.norm 64 d0 0) (Dat.toN x3) 0) fun (x8 : Int) =>
 Dat.bnd (Dat.wrap .u32 x8) fun (x9 : Int) =>
 if (Dat.Neg 24) then none
 else Dat.bnd (Dat.shl .u32 x9 24) fun (x12 : Int) =>
 Dat.bnd (Dat.wrap .i64 (Dat.mul 4 s1.1)) fun (x13 : Int) =>
 Dat.bnd (Dat.wrap .i64 (Dat.add x13 1)) fun (x14 : Int) =>
 if (Dat.In x14 64) then if (Dat.Lt (Dat.toN x14) (Dat.len (Dat.norm 64 d0 0))) then Dat.bnd (Dat.get (Dat.norm 64 d0 0) (Dat.toN x14) 0) fun (x19 : Int) =>
 Dat.bnd (Dat.wrap .u32 x19) fun (x20 : Int) =>
 if (Dat.Neg 16) then none
 else Dat.bnd (Dat.shl .u32 x20 16) fun (x23 : Int) =>
 Dat.bnd (Dat.bor .u32 x12 x23) fun (x24 : Int) =>
 Dat.bnd (Dat.wrap .i64 (Dat.mul 4 s1.1)) fun (x25 : Int) =>
 Dat.bnd (Dat.wrap .i64 (Dat.add x25 2)) fun (x26 : Int) =>
 if (Dat.In x26 64) then if (Dat.Lt (Dat.toN x26) (Dat.len (Dat.norm 64 d0 0))) then Dat.bnd (Dat.get (Dat.norm 64 d0 0) (Dat.toN x26) 0) fun (x31 : Int) =>
 Dat.bnd (Dat.wrap .u32 x31) fun (x32 : Int) =>
 if (Dat.Neg 8) then none
 else Dat.bnd (Dat.shl .u32 x32 8) fun (x35 : Int) =>
 Dat.bnd (Dat.bor .u32 x24 x35) fun (x36 : Int) =>
 Dat.bnd (Dat.wrap .i64 (Dat.mul 4 s1.1)) fun (x37 : Int) =>
 Dat.bnd (Dat.wrap .i64 (Dat.add x37 3)) fun (x38 : Int) =>
 if (Dat.In x38 64) then if (Dat.Lt (Dat.toN x38) (Dat.len (Dat.norm 64 d0 0))) then Dat.bnd (Dat.get (Dat.norm 64 d0 0) (Dat.toN x38) 0) fun (x43 : Int) =>
 Dat.bnd (Dat.wrap .u32 x43) fun (x44 : Int) =>
 Dat.bnd (Dat.bor .u32 x36 x44) fun (x45 : Int) =>
 if (Dat.In s1.1 64) then if (Dat.Lt (Dat.toN s1.1) (Dat.len s1.2)) then Dat.bnd (Dat.set s1.2 (Dat.toN s1.1) x45) fun (x50 : List (Int)) =>
 Dat.bnd (Dat.wrap .i64 (Dat.add s1.1 1)) fun (x51 : Int) =>
 k2 (x51, x50)
 else none
 else none
 else none
 else none
 else none
 else none
 else none
 else none
 else none
 else none
 else Dat.bnd (Dat.wrap .i64 (Dat.sub s1.1 16)) fun (x52 : Int) =>
 if (Dat.In x52 64) then if (Dat.Lt (Dat.toN x52) (Dat.len s1.2)) then Dat.bnd (Dat.get s1.2 (Dat.toN x52) 0) fun (x57 : Int) =>
 Dat.bnd (Dat.wrap .i64 (Dat.sub s1.1 7)) fun (x58 : Int) =>
 if (Dat.In x58 64) then if (Dat.Lt (Dat.toN x58) (Dat.len s1.2)) then Dat.bnd (Dat.get s1.2 (Dat.toN x58) 0) fun (x63 : Int) =>
 Dat.bnd (Dat.wrap .u32 (Dat.add x57 x63)) fun (x64 : Int) =>
 Dat.bnd (Dat.wrap .i64 (Dat.sub s1.1 15)) fun (x65 : Int) =>
 if (Dat.In x65 64) then if (Dat.Lt (Dat.toN x65) (Dat.len s1.2)) then Dat.bnd (Dat.get s1.2 (Dat.toN x65) 0) fun (x70 : Int) =>
 Dat.bnd (Dat.wrap .i64 (Dat.sub s1.1 2)) fun (x71 : Int) =>
 if (Dat.In x71 64) then if (Dat.Lt (Dat.toN x71) (Dat.len s1.2)) then Dat.bnd (Dat.get s1.2 (Dat.toN x71) 0) fun (x76 : Int) =>
 Dat.bind (sha_amounts_of (((7 :: (18 :: (3 :: ([] : List (Int))))), (true, ())), x70)) fun (x77 : Int) =>
 Dat.bnd (Dat.wrap .u32 (Dat.add x64 x77)) fun (x78 : Int) =>
 Dat.bind (sha_amounts_of (((17 :: (19 :: (10 :: ([] : List (Int))))), (true, ())), x76)) fun (x79 : Int) =>
 Dat.bnd (Dat.wrap .u32 (Dat.add x78 x79)) fun (x80 : Int) =>
 if (Dat.In s1.1 64) then if (Dat.Lt (Dat.toN s1.1) (Dat.len s1.2)) then Dat.bnd (Dat.set s1.2 (Dat.toN s1.1) x80) fun (x85 : List (Int)) =>
 Dat.bnd (Dat.wrap .i64 (Dat.add s1.1 1)) fun (x86 : Int) =>
 k2 (x86, x85)
 else none
 else none
 else none
 else none
 else none
 else none
 else none
 else none
 else none
 else none)
 else if (Dat.EqN (Dat.len s1.2) 64) then if (Dat.EqN (Dat.len (Dat.rep 64 0)) 64) then if (Dat.EqN (Dat.len (Dat.norm 64 s1.2 0)) 64) then some (Dat.norm 64 s1.2 0)
 else none
 else none
 else none)) (0, (Dat.rep 64 0))
noncomputable def p_sha_spread : PFn := { args := [(.arr 64 (.int .u8))], res := [(.arr 64 (.int .u32))], fn := sha_spread }
def sp28_28 : List LSpec × List Nat := ([{ id := 2800, known := true, toks := [], items := [.slot 11 (.val (.int .i64)), .vec 1000005 (.int .u32)], junk := [12, 13, 6, 14, 15, 16, 17, 18, 19, 20, 21, 22, 23, 24, 25, 26, 27, 28, 29, 30, 31, 32, 33, 34, 35, 36, 37, 38, 39, 40, 41, 42, 43, 44, 45, 46, 47, 48, 49, 50, 51, 52, 53, 54, 55, 56, 57, 58, 59, 60, 61, 62, 63, 64, 65, 66, 67, 68, 69, 70, 71, 72], tails := [] }], [])
def spt28 : Tab (List LSpec × List Nat) := (.node .leaf none (.node (.node .leaf none (.node .leaf none (.node .leaf (some sp28_28) .leaf))) none .leaf))
def spf28 (f : Nat) : List LSpec × List Nat := (spt28.get f).getD ([], [])
theorem pd_sha_spread : PureD Tryd.prog cfg 28 p_sha_spread := fnD spf28 (l := [(31, p_sha_amounts_of)]) cfgOk cfgGlob (.cons pd_sha_amounts_of .nil) (fun d => by kernel_rfl)

/-- thimblerig/sha.round -/
noncomputable def sha_round (d0 : (List (Int)) × (Int)) : Option (List (Int)) :=
 if (Dat.In 0 8) then if (Dat.Lt (Dat.toN 0) (Dat.len (Dat.norm 8 d0.1 0))) then Dat.bnd (Dat.get (Dat.norm 8 d0.1 0) (Dat.toN 0) 0) fun (x5 : Int) =>
 if (Dat.In 1 8) then if (Dat.Lt (Dat.toN 1) (Dat.len (Dat.norm 8 d0.1 0))) then Dat.bnd (Dat.get (Dat.norm 8 d0.1 0) (Dat.toN 1) 0) fun (x10 : Int) =>
 if (Dat.In 2 8) then if (Dat.Lt (Dat.toN 2) (Dat.len (Dat.norm 8 d0.1 0))) then Dat.bnd (Dat.get (Dat.norm 8 d0.1 0) (Dat.toN 2) 0) fun (x15 : Int) =>
 if (Dat.In 3 8) then if (Dat.Lt (Dat.toN 3) (Dat.len (Dat.norm 8 d0.1 0))) then Dat.bnd (Dat.get (Dat.norm 8 d0.1 0) (Dat.toN 3) 0) fun (x20 : Int) =>
 if (Dat.In 4 8) then if (Dat.Lt (Dat.toN 4) (Dat.len (Dat.norm 8 d0.1 0))) then Dat.bnd (Dat.get (Dat.norm 8 d0.1 0) (Dat.toN 4) 0) fun (x25 : Int) =>
 if (Dat.In 5 8) then if (Dat.Lt (Dat.toN 5) (Dat.len (Dat.norm 8 d0.1 0))) then Dat.bnd (Dat.get (Dat.norm 8 d0.1 0) (Dat.toN 5) 0) fun (x30 : Int) =>
 if (Dat.In 6 8) then if (Dat.Lt (Dat.toN 6) (Dat.len (Dat.norm 8 d0.1 0))) then Dat.bnd (Dat.get (Dat.norm 8 d0.1 0) (Dat.toN 6) 0) fun (x35 : Int) =>
 if (Dat.In 7 8) then if (Dat.Lt (Dat.toN 7) (Dat.len (Dat.norm 8 d0.1 0))) then Dat.bnd (Dat.get (Dat.norm 8 d0.1 0) (Dat.toN 7) 0) fun (x40 : Int) =>
 Dat.bind (sha_amounts_of (((6 :: (11 :: (25 :: ([] : List (Int))))), (false, ())), x25)) fun (x41 : Int) =>
 Dat.bnd (Dat.wrap .u32 (Dat.add x40 x41)) fun (x42 : Int) =>
 Dat.bnd (Dat.band .u32 x25 x30) fun (x43 : Int) =>
 Dat.bnd (Dat.bxor .u32 4294967295 x25) fun (x44 : Int) =>
 Dat.bnd (Dat.band .u32 x44 x35) fun (x45 : Int) =>
 Dat.bnd (Dat.bxor .u32 x43 x45) fun (x46 : Int) =>
 Dat.bnd (Dat.wrap .u32 (Dat.add x42 x46)) fun (x47 : Int) =>
 Dat.bnd (Dat.wrap .u32 (Dat.add x47 d0.2)) fun (x48 : Int) =>
 Dat.bind (sha_amounts_of (((2 :: (13 :: (22 :: ([] : List (Int))))), (false, ())), x5)) fun (x49 : Int) =>
 Dat.bnd (Dat.band .u32 x5 x10) fun (x50 : Int) =>
 Dat.bnd (Dat.band .u32 x5 x15) fun (x51 : Int) =>
 Dat.bnd (Dat.bxor .u32 x50 x51) fun (x52 : Int) =>
 Dat.bnd (Dat.band .u32 x10 x15) fun (x53 : Int) =>
 Dat.bnd (Dat.bxor .u32 x52 x53) fun (x54 : Int) =>
 Dat.bnd (Dat.wrap .u32 (Dat.add x49 x54)) fun (x55 : Int) =>
 Dat.bnd (Dat.wrap .u32 (Dat.add x48 x55)) fun (x56 : Int) =>
 Dat.bnd (Dat.wrap .u32 (Dat.add x20 x48)) fun (x57 : Int) =>
 if (Dat.EqN (Dat.len (Dat.rep 8 0)) (Dat.len (x56 :: (x5 :: (x10 :: (x15 :: (x57 :: (x25 :: (x30 :: (x35 :: ([] : List (Int)))))))))))) then if (Dat.EqN (Dat.len (x56 :: (x5 :: (x10 :: (x15 :: (x57 :: (x25 :: (x30 :: (x35 :: ([] : List (Int))))))))))) 8) then some (x56 :: (x5 :: (x10 :: (x15 :: (x57 :: (x25 :: (x30 :: (x35 :: ([] : List (Int))))))))))
 else none
 else none
 else none
 else none
 else none
 else none
 else none
 else none
 else none
 else none
 else none
 else none
 else none
 else none
 else none
 else none
 else none
 else none
noncomputable def p_sha_round : PFn := { args := [(.arr 8 (.int .u32)), (.int .u32)], res := [(.arr 8 (.int .u32))], fn := sha_round }
theorem pd_sha_round : PureD Tryd.prog cfg 29 p_sha_round := fnD sp0 (l := [(31, p_sha_amounts_of)]) cfgOk cfgGlob (.cons pd_sha_amounts_of .nil) (fun d => by kernel_rfl)

/-- thimblerig/sha.turn -/
noncomputable def sha_turn (d0 : (List (Int)) × (List (Int))) : Option (List (Int)) :=
 if (Dat.EqN (Dat.len (Dat.norm 64 d0.2 0)) 64) then Dat.bind (sha_spread (Dat.norm 64 d0.2 0)) fun (x3 : List (Int)) =>
 if (Dat.EqN (Dat.len (Dat.rep 64 0)) 64) then if (Dat.EqN (Dat.len (Dat.norm 8 d0.1 0)) 8) then if (Dat.EqN (Dat.len (Dat.rep 8 0)) 8) then Dat.loop (fun (s10 : (Int) × (List (Int))) k11 =>
 (bif (Dat.ilt s10.1 64) then if (Dat.EqN (Dat.len s10.2) 8) then if (Dat.In s10.1 64) then Dat.bnd (Dat.get gl0 (Dat.toN s10.1) 0) fun (x16 : Int) =>
 if (Dat.In s10.1 64) then if (Dat.Lt (Dat.toN s10.1) (Dat.len (Dat.norm 64 x3 0))) then Dat.bnd (Dat.get (Dat.norm 64 x3 0) (Dat.toN s10.1) 0) fun (x21 : Int) =>
 Dat.bnd (Dat.wrap .u32 (Dat.add x16 x21)) fun (x22 : Int) =>
 Dat.bind (sha_round (s10.2, x22)) fun (x23 : List (Int)) =>
 if (Dat.EqN (Dat.len s10.2) 8) then Dat.bnd (Dat.wrap .i64 (Dat.add s10.1 1)) fun (x26 : Int) =>
 k11 (x26, (Dat.norm 8 x23 0))
 else none
 else none
 else none
 else none
 else none
 else Dat.loop (fun (s27 : (Int) × (List (Int))) k28 =>
 (bif (Dat.ilt s27.1 8) then if (Dat.In s27.1 8) then if (Dat.Lt (Dat.toN s27.1) (Dat.len s27.2)) then Dat.bnd (Dat.get s27.2 (Dat.toN s27.1) 0) fun (x33 : Int) =>
 if (Dat.In s27.1 8) then if (Dat.Lt (Dat.toN s27.1) (Dat.len s10.2)) then Dat.bnd (Dat.get s10.2 (Dat.toN s27.1) 0) fun (x38 : Int) =>
 Dat.bnd (Dat.wrap .u32 (Dat.add x33 x38)) fun (x39 : Int) =>
 if (Dat.In s27.1 8) then if (Dat.Lt (Dat.toN s27.1) (Dat.len s27.2)) then Dat.bnd (Dat.set s27.2 (Dat.toN s27.1) x39) fun (x44 : List (Int)) =>
 Dat.bnd (Dat.wrap .i64 (Dat.add s27.1 1)) fun (x45 : Int) =>
 k28 (x45, x44)
 else none
 else none
 else none
 else none
 else none
 else none
 else if (Dat.EqN (Dat.len s27.2) 8) then if (Dat.EqN (Dat.len (Dat.rep 8 0)) 8) then if (Dat.EqN (Dat.len (Dat.norm 8 s27.2 0)) 8) then some (Dat.norm 8 s27.2 0)
 else none
 else none
 else none)) (0, (Dat.norm 8 d0.1 0)))) (0, (Dat.norm 8 (Dat.norm 8 d0.1 0) 0))
 else none
 else none
 else none
 else none
noncomputable def p_sha_turn : PFn := { args := [(.arr 8 (.int .u32)), (.arr 64 (.int .u8))], res := [(.arr 8 (.int .u32))], fn := sha_turn }
def sp22_22 : List LSpec × List Nat := ([{ id := 2200, known := true, toks := [], items := [.slot 12 (.val (.int .i64)), .vec 1000006 (.int .u32)], junk := [13, 14, 7, 15, 16, 17, 18, 19, 20, 21, 22, 23, 24], tails := [] }, { id := 2201, known := true, toks := [], items := [.slot 25 (.val (.int .i64)), .vec 1000002 (.int .u32)], junk := [26, 27, 8, 28, 29, 30, 31, 32, 33, 34, 35, 36], tails := [] }], [])
def spt22 : Tab (List LSpec × List Nat) := (.node .leaf none (.node .leaf none (.node .leaf none (.node (.node .leaf (some sp22_22) .leaf) none .leaf))))
def spf22 (f : Nat) : List LSpec × List Nat := (spt22.get f).getD ([], [])
theorem pd_sha_turn : PureD Tryd.prog cfg 22 p_sha_turn := fnD spf22 (l := [(28, p_sha_spread), (29, p_sha_round)]) cfgOk cfgGlob (.cons pd_sha_spread (.cons pd_sha_round .nil)) (fun d => by kernel_rfl)

/-- slices.Clone(()byte,byte) -/
noncomputable def slices_Clone_byte_byte (d0 : List (Int)) : Option (List (Int)) :=
 if (Dat.Le (Dat.addN 0 0) (Dat.len ([] : List (Int)))) then if (Dat.Big (Dat.len (Dat.seg ([] : List (Int)) 0 0)) (Dat.len d0) 1) then none
 else Dat.bnd (Dat.app (Dat.seg ([] : List (Int)) 0 0) d0) fun (x5 : List (Int)) =>
 some x5
 else none
noncomputable def p_slices_Clone_byte_byte : PFn := { args := [(.list (.int .u8))], res := [(.list (.int .u8))], fn := slices_Clone_byte_byte }
noncomputable def cx23 : CloneX Tryd.prog cfg 23 5 (.int .u8) := clx xf23 5 (xf23.body.cOps.getD 0 ⟨none, .move (.tmp 0), 0, "", #[], none⟩) (xf23.body.cOps.getD 1 ⟨none, .move (.tmp 0), 0, "", #[], none⟩) (by kernel_rfl) (by kernel_rfl) (by kernel_rfl) (by kernel_rfl) (by kernel_rfl) (by kernel_rfl) (by kernel_rfl) (by kernel_rfl) (by kernel_rfl)
theorem pd_slices_Clone_byte_byte : PureD Tryd.prog cfg 23 p_slices_Clone_byte_byte := cloneD sp0 cfgOk cfgGlob cx23 (of_decide_eq_true (by kernel_rfl)) (by kernel_rfl) (by kernel_rfl) (by kernel_rfl) (fun d => by kernel_rfl) (fun d => by kernel_rfl) (by kernel_rfl) (fun d r h => by
  unfold slices_Clone_byte_byte at h
  split at h
  · split at h
    · cases h
    · have h1 : some d = some r := h
      exact (Option.some.inj h1).symm
  · cases h)

/-- thimblerig/sha.More -/
noncomputable def sha_More (d0 : ((List (Int)) × ((List (Int)) × ((Int) × (Unit)))) × (List (Int))) : Option (((List (Int)) × ((List (Int)) × ((Int) × (Unit)))) × (Int)) :=
 Dat.bind (sha_Check (((Dat.get d0.1.1 0 0) :: ((Dat.get d0.1.1 1 0) :: ((Dat.get d0.1.1 2 0) :: ((Dat.get d0.1.1 3 0) :: ((Dat.get d0.1.1 4 0) :: ((Dat.get d0.1.1 5 0) :: ((Dat.get d0.1.1 6 0) :: ((Dat.get d0.1.1 7 0) :: ([] : List (Int)))))))))), (d0.1.2.1, (d0.1.2.2.1, ())))) fun (x1 : Int) =>
 (bif (Dat.ine x1 0) then some (((0 :: (0 :: (0 :: (0 :: (0 :: (0 :: (0 :: (0 :: ([] : List (Int)))))))))), (([] : List (Int)), (0, ()))), x1)
 else Dat.bnd (Dat.wrap .u64 (Dat.ofN (Dat.len d0.2))) fun (x2 : Int) =>
 Dat.bnd (Dat.wrap .u64 (Dat.sub 72057594037927936 d0.1.2.2.1)) fun (x3 : Int) =>
 (bif (Dat.ige x2 x3) then some (((0 :: (0 :: (0 :: (0 :: (0 :: (0 :: (0 :: (0 :: ([] : List (Int)))))))))), (([] : List (Int)), (0, ()))), 4)
 else Dat.bnd (Dat.wrap .u64 (Dat.ofN (Dat.len d0.2))) fun (x4 : Int) =>
 Dat.bnd (Dat.wrap .u64 (Dat.add d0.1.2.2.1 x4)) fun (x5 : Int) =>
 if (Dat.Le 64 (Dat.len (Dat.rep 64 0))) then if (Dat.Lt 0 64) then if (Dat.Le (Dat.addN 0 (Dat.subN 64 0)) (Dat.len (Dat.rep 64 0))) then Dat.loop (fun (s12 : (Int) × ((List (Int)) × (((Int) × ((Int) × ((Int) × ((Int) × ((Int) × ((Int) × ((Int) × ((Int) × ((List (Int)) × (Int)))))))))) × (List (Int))))) k13 =>
 if (Dat.Le 64 (Dat.len s12.2.2.2)) then if (Dat.Bd s12.1 64) then if (Dat.Lt (Dat.toN s12.1) 64) then if (Dat.Le (Dat.addN (Dat.toN s12.1) (Dat.subN 64 (Dat.toN s12.1))) (Dat.len s12.2.2.2)) then Dat.bnd (Dat.wrap .i64 (Dat.add s12.1 (Dat.ofN (Dat.minN (Dat.len s12.2.1) (Dat.subN 64 (Dat.toN s12.1)))))) fun (x22 : Int) =>
 if (Dat.Bd (Dat.ofN (Dat.minN (Dat.len s12.2.1) (Dat.subN 64 (Dat.toN s12.1)))) (Dat.len s12.2.1)) then Dat.bnd (Dat.slice s12.2.1 (Dat.toN (Dat.ofN (Dat.minN (Dat.len s12.2.1) (Dat.subN 64 (Dat.toN s12.1))))) (Dat.len s12.2.1)) fun (x25 : List (Int)) =>
 (bif (Dat.ilt x22 64) then if (Dat.Le 64 (Dat.len (Dat.put s12.2.2.2 (Dat.toN s12.1) (Dat.take (Dat.minN (Dat.len s12.2.1) (Dat.subN 64 (Dat.toN s12.1))) s12.2.1)))) then if (Dat.Bd x22 64) then if (Dat.Lt 0 64) then if (Dat.Le (Dat.addN 0 (Dat.subN (Dat.toN x22) 0)) (Dat.len (Dat.put s12.2.2.2 (Dat.toN s12.1) (Dat.take (Dat.minN (Dat.len s12.2.1) (Dat.subN 64 (Dat.toN s12.1))) s12.2.1)))) then if (Dat.EqN (Dat.len (Dat.seg (Dat.put s12.2.2.2 (Dat.toN s12.1) (Dat.take (Dat.minN (Dat.len s12.2.1) (Dat.subN 64 (Dat.toN s12.1))) s12.2.1)) 0 (Dat.subN (Dat.toN x22) 0))) 0) then if (Dat.Le (Dat.addN 0 (Dat.subN (Dat.toN x22) 0)) (Dat.len (Dat.put s12.2.2.2 (Dat.toN s12.1) (Dat.take (Dat.minN (Dat.len s12.2.1) (Dat.subN 64 (Dat.toN s12.1))) s12.2.1)))) then Dat.bind (slices_Clone_byte_byte (Dat.seg (Dat.put s12.2.2.2 (Dat.toN s12.1) (Dat.take (Dat.minN (Dat.len s12.2.1) (Dat.subN 64 (Dat.toN s12.1))) s12.2.1)) 0 (Dat.subN (Dat.toN x22) 0))) fun (x38 : List (Int)) =>
 if (Dat.EqN (Dat.len x38) 0) then some (((s12.2.2.1.1 :: (s12.2.2.1.2.1 :: (s12.2.2.1.2.2.1 :: (s12.2.2.1.2.2.2.1 :: (s12.2.2.1.2.2.2.2.1 :: (s12.2.2.1.2.2.2.2.2.1 :: (s12.2.2.1.2.2.2.2.2.2.1 :: (s12.2.2.1.2.2.2.2.2.2.2.1 :: ([] : List (Int)))))))))), (x38, (s12.2.2.1.2.2.2.2.2.2.2.2.2, ()))), 0)
 else none
 else none
 else if (Dat.Le (Dat.addN 0 (Dat.subN (Dat.toN x22) 0)) (Dat.len (Dat.put s12.2.2.2 (Dat.toN s12.1) (Dat.take (Dat.minN (Dat.len s12.2.1) (Dat.subN 64 (Dat.toN s12.1))) s12.2.1)))) then if (Dat.Le (Dat.addN 0 0) (Dat.len ([] : List (Int)))) then if (Dat.EqN (Dat.len (Dat.seg (Dat.put s12.2.2.2 (Dat.toN s12.1) (Dat.take (Dat.minN (Dat.len s12.2.1) (Dat.subN 64 (Dat.toN s12.1))) s12.2.1)) 0 (Dat.subN (Dat.toN x22) 0))) 0) then if (Dat.Le (Dat.addN 0 0) (Dat.len ([] : List (Int)))) then some (((s12.2.2.1.1 :: (s12.2.2.1.2.1 :: (s12.2.2.1.2.2.1 :: (s12.2.2.1.2.2.2.1 :: (s12.2.2.1.2.2.2.2.1 :: (s12.2.2.1.2.2.2.2.2.1 :: (s12.2.2.1.2.2.2.2.2.2.1 :: (s12.2.2.1.2.2.2.2.2.2.2.1 :: ([] : List (Int)))))))))), ((Dat.seg ([] : List (Int)) 0 0), (s12.2.2.1.2.2.2.2.2.2.2.2.2, ()))), 0)
 else none
 else if (Dat.Big (Dat.len (Dat.seg ([] : List (Int)) 0 0)) (Dat.len (Dat.seg (Dat.put s12.2.2.2 (Dat.toN s12.1) (Dat.take (Dat.minN (Dat.len s12.2.1) (Dat.subN 64 (Dat.toN s12.1))) s12.2.1)) 0 (Dat.subN (Dat.toN x22) 0))) 1) then none
 else Dat.bnd (Dat.app (Dat.seg ([] : List (Int)) 0 0) (Dat.seg (Dat.put s12.2.2.2 (Dat.toN s12.1) (Dat.take (Dat.minN (Dat.len s12.2.1) (Dat.subN 64 (Dat.toN s12.1))) s12.2.1)) 0 (Dat.subN (Dat.toN x22) 0))) fun (x51 : List (Int)) =>
 if (Dat.Le (Dat.addN 0 (Dat.len x51)) (Dat.len x51)) then some (((s12.2.2.1.1 :: (s12.2.2.1.2.1 :: (s12.2.2.1.2.2.1 :: (s12.2.2.1.2.2.2.1 :: (s12.2.2.1.2.2.2.2.1 :: (s12.2.2.1.2.2.2.2.2.1 :: (s12.2.2.1.2.2.2.2.2.2.1 :: (s12.2.2.1.2.2.2.2.2.2.2.1 :: ([] : List (Int)))))))))), ((Dat.seg x51 0 (Dat.len x51)), (s12.2.2.1.2.2.2.2.2.2.2.2.2, ()))), 0)
 else none
 else none
 else none
 else none
 else if (Dat.EqN (Dat.len ([] : List (Int))) 0) then Dat.bind (slices_Clone_byte_byte ([] : List (Int))) fun (x56 : List (Int)) =>
 if (Dat.EqN (Dat.len x56) 0) then some (((s12.2.2.1.1 :: (s12.2.2.1.2.1 :: (s12.2.2.1.2.2.1 :: (s12.2.2.1.2.2.2.1 :: (s12.2.2.1.2.2.2.2.1 :: (s12.2.2.1.2.2.2.2.2.1 :: (s12.2.2.1.2.2.2.2.2.2.1 :: (s12.2.2.1.2.2.2.2.2.2.2.1 :: ([] : List (Int)))))))))), (x56, (s12.2.2.1.2.2.2.2.2.2.2.2.2, ()))), 0)
 else none
 else if (Dat.EqN (Dat.len ([] : List (Int))) 0) then none
 else if (Dat.Le (Dat.addN 0 0) (Dat.len ([] : List (Int)))) then if (Dat.EqN (Dat.len ([] : List (Int))) 0) then if (Dat.Le (Dat.addN 0 0) (Dat.len ([] : List (Int)))) then some (((s12.2.2.1.1 :: (s12.2.2.1.2.1 :: (s12.2.2.1.2.2.1 :: (s12.2.2.1.2.2.2.1 :: (s12.2.2.1.2.2.2.2.1 :: (s12.2.2.1.2.2.2.2.2.1 :: (s12.2.2.1.2.2.2.2.2.2.1 :: (s12.2.2.1.2.2.2.2.2.2.2.1 :: ([] : List (Int)))))))))), ((Dat.seg ([] : List (Int)) 0 0), (s12.2.2.1.2.2.2.2.2.2.2.2.2, ()))), 0)
 else none
 else if (Dat.Big (Dat.len (Dat.seg ([] : List (Int)) 0 0)) (Dat.len ([] : List (Int))) 1) then none
 else Dat.bnd (Dat.app (Dat.seg ([] : List (Int)) 0 0) ([] : List (Int))) fun (x69 : List (Int)) =>
 if (Dat.Le (Dat.addN 0 (Dat.len x69)) (Dat.len x69)) then some (((s12.2.2.1.1 :: (s12.2.2.1.2.1 :: (s12.2.2.1.2.2.1 :: (s12.2.2.1.2.2.2.1 :: (s12.2.2.1.2.2.2.2.1 :: (s12.2.2.1.2.2.2.2.2.1 :: (s12.2.2.1.2.2.2.2.2.2.1 :: (s12.2.2.1.2.2.2.2.2.2.2.1 :: ([] : List (Int)))))))))), ((Dat.seg x69 0 (Dat.len x69)), (s12.2.2.1.2.2.2.2.2.2.2.2.2, ()))), 0)
 else none
 else none
 else none
 else none
 else if (Dat.EqN (Dat.len (Dat.put s12.2.2.2 (Dat.toN s12.1) (Dat.take (Dat.minN (Dat.len s12.2.1) (Dat.subN 64 (Dat.toN s12.1))) s12.2.1))) 64) then Dat.bind (sha_turn ((s12.2.2.1.1 :: (s12.2.2.1.2.1 :: (s12.2.2.1.2.2.1 :: (s12.2.2.1.2.2.2.1 :: (s12.2.2.1.2.2.2.2.1 :: (s12.2.2.1.2.2.2.2.2.1 :: (s12.2.2.1.2.2.2.2.2.2.1 :: (s12.2.2.1.2.2.2.2.2.2.2.1 :: ([] : List (Int)))))))))), (Dat.put s12.2.2.2 (Dat.toN s12.1) (Dat.take (Dat.minN (Dat.len s12.2.1) (Dat.subN 64 (Dat.toN s12.1))) s12.2.1)))) fun (x74 : List (Int)) =>
 k13 (0, (x25, (((Dat.get x74 0 0), ((Dat.get x74 1 0), ((Dat.get x74 2 0), ((Dat.get x74 3 0), ((Dat.get x74 4 0), ((Dat.get x74 5 0), ((Dat.get x74 6 0), ((Dat.get x74 7 0), (s12.2.2.1.2.2.2.2.2.2.2.2.1, s12.2.2.1.2.2.2.2.2.2.2.2.2))))))))), (Dat.put s12.2.2.2 (Dat.toN s12.1) (Dat.take (Dat.minN (Dat.len s12.2.1) (Dat.subN 64 (Dat.toN s12.1))) s12.2.1)))))
 else none)
 else none
 else none
 else none
 else none
 else none) ((Dat.ofN (Dat.minN (Dat.len d0.1.2.1) (Dat.subN 64 0))), (d0.2, (((Dat.get d0.1.1 0 0), ((Dat.get d0.1.1 1 0), ((Dat.get d0.1.1 2 0), ((Dat.get d0.1.1 3 0), ((Dat.get d0.1.1 4 0), ((Dat.get d0.1.1 5 0), ((Dat.get d0.1.1 6 0), ((Dat.get d0.1.1 7 0), (([] : List (Int)), x5))))))))), (Dat.put (Dat.rep 64 0) 0 (Dat.take (Dat.minN (Dat.len d0.1.2.1) (Dat.subN 64 0)) d0.1.2.1)))))
 else none
 else none
 else none))
noncomputable def p_sha_More : PFn := { args := [(.pair (.arr 8 (.int .u32)) (.pair (.list (.int .u8)) (.pair (.int .u64) .unit))), (.list (.int .u8))], res := [(.pair (.arr 8 (.int .u32)) (.pair (.list (.int .u8)) (.pair (.int .u64) .unit))), (.int .i64)], fn := sha_More }
def sp8_23 : List LSpec × List Nat := ([], [3])
def sp8_8 : List LSpec × List Nat := ([{ id := 800, known := true, toks := [(4002008, (.int .u8))], items := [.slot 9 (.val (.int .i64)), .slot 1 (.val (.list (.int .u8))), .cells 1000007 [.val (.int .u32), .val (.int .u32), .val (.int .u32), .val (.int .u32), .val (.int .u32), .val (.int .u32), .val (.int .u32), .val (.int .u32), .val (.list (.int .u8)), .val (.int .u64)], .vec 1000008 (.int .u8)], junk := [38, 39, 40, 41, 10, 42, 43, 44, 45, 46, 47, 48, 49, 50, 51, 52, 53, 54], tails := [] }], [])
def spt8 : Tab (List LSpec × List Nat) := (.node (.node (.node (.node .leaf none (.node .leaf (some sp8_23) .leaf)) none .leaf) none .leaf) none (.node (.node (.node .leaf (some sp8_8) .leaf) none .leaf) none .leaf))
def spf8 (f : Nat) : List LSpec × List Nat := (spt8.get f).getD ([], [])
noncomputable def o_sha_More : OFn := { args := [(.pair (.arr 8 (.int .u32)) (.pair (.list (.int .u8)) (.pair (.int .u64) .unit))), (.list (.int .u8))], ores := [(.pair (.plain (.arr 8 (.int .u32))) (.pair (.own (.int .u8)) (.pair (.plain (.int .u64)) (.plain .unit)))), (.plain (.int .i64))], fn := sha_More }
theorem od_sha_More : OwnD Tryd.prog cfg 8 o_sha_More ∧ PureD Tryd.prog cfg 8 o_sha_More.pfn := fnO spf8 [23] (l := [(13, p_sha_Check), (23, p_slices_Clone_byte_byte), (22, p_sha_turn)]) (lo := []) cfgOk cfgGlob (.cons pd_sha_Check (.cons pd_slices_Clone_byte_byte (.cons pd_sha_turn .nil))) .nil (fun d => by kernel_rfl)
theorem pd_sha_More : PureD Tryd.prog cfg 8 p_sha_More := od_sha_More.2

/-- thimblerig/sha.told -/
noncomputable def sha_told (d0 : List (Int)) : Option (List (Int)) :=
 if (Dat.EqN (Dat.len (Dat.norm 8 d0 0)) 8) then Dat.loop (fun (s3 : (Int) × (List (Int))) k4 =>
 (bif (Dat.ilt s3.1 8) then if (Dat.In s3.1 8) then Dat.bnd (Dat.get (Dat.norm 8 d0 0) (Dat.toN s3.1) 0) fun (x7 : Int) =>
 Dat.loop (fun (s8 : (Int) × (List (Int))) k9 =>
 (bif (Dat.ilt s8.1 4) then Dat.bnd (Dat.wrap .i64 (Dat.mul 4 s3.1)) fun (x10 : Int) =>
 Dat.bnd (Dat.wrap .i64 (Dat.add x10 s8.1)) fun (x11 : Int) =>
 Dat.bnd (Dat.wrap .i64 (Dat.mul 8 s8.1)) fun (x12 : Int) =>
 Dat.bnd (Dat.wrap .i64 (Dat.sub 24 x12)) fun (x13 : Int) =>
 if (Dat.Neg x13) then none
 else Dat.bnd (Dat.shr .u32 x7 x13) fun (x16 : Int) =>
 Dat.bnd (Dat.wrap .u8 x16) fun (x17 : Int) =>
 if (Dat.In x11 32) then if (Dat.Lt (Dat.toN x11) (Dat.len s8.2)) then Dat.bnd (Dat.set s8.2 (Dat.toN x11) x17) fun (x22 : List (Int)) =>
 Dat.bnd (Dat.wrap .i64 (Dat.add s8.1 1)) fun (x23 : Int) =>
 k9 (x23, x22)
 else none
 else none
 else Dat.bnd (Dat.wrap .i64 (Dat.add s3.1 1)) fun (x24 : Int) =>
 k4 (x24, s8.2))) (0, s3.2)
 else none
 else if (Dat.EqN (Dat.len s3.2) 32) then if (Dat.EqN (Dat.len (Dat.rep 32 0)) 32) then if (Dat.EqN (Dat.len (Dat.norm 32 s3.2 0)) 32) then some (Dat.norm 32 s3.2 0)
 else none
 else none
 else none)) (0, (Dat.rep 32 0))
 else none
noncomputable def p_sha_told : PFn := { args := [(.arr 8 (.int .u32))], res := [(.arr 32 (.int .u8))], fn := sha_told }
def sp24_24 : List LSpec × List Nat := ([{ id := 2400, known := true, toks := [], items := [.slot 8 (.val (.int .i64)), .vec 1000003 (.int .u8)], junk := [9, 10, 11, 4, 5, 12, 13, 14, 6, 15, 16, 17, 18, 19, 20, 21, 22, 23, 24, 25, 26, 27], tails := [] }, { id := 2401, known := true, toks := [], items := [.slot 12 (.val (.int .i64)), .vec 1000003 (.int .u8)], junk := [13, 14, 6, 15, 16, 17, 18, 19, 20, 21, 22, 23, 24, 25, 26], tails := [] }], [])
def spt24 : Tab (List LSpec × List Nat) := (.node .leaf none (.node (.node (.node .leaf none (.node .leaf (some sp24_24) .leaf)) none .leaf) none .leaf))
def spf24 (f : Nat) : List LSpec × List Nat := (spt24.get f).getD ([], [])
theorem pd_sha_told : PureD Tryd.prog cfg 24 p_sha_told := fnD spf24 (l := []) cfgOk cfgGlob .nil (fun d => by kernel_rfl)

/-- thimblerig/sha.End -/
noncomputable def sha_End (d0 : (List (Int)) × ((List (Int)) × ((Int) × (Unit)))) : Option ((List (Int)) × (Int)) :=
 Dat.bind (sha_Check (((Dat.get d0.1 0 0) :: ((Dat.get d0.1 1 0) :: ((Dat.get d0.1 2 0) :: ((Dat.get d0.1 3 0) :: ((Dat.get d0.1 4 0) :: ((Dat.get d0.1 5 0) :: ((Dat.get d0.1 6 0) :: ((Dat.get d0.1 7 0) :: ([] : List (Int)))))))))), (d0.2.1, (d0.2.2.1, ())))) fun (x1 : Int) =>
 (bif (Dat.ine x1 0) then if (Dat.EqN (Dat.len (Dat.rep 32 0)) (Dat.len (0 :: (0 :: (0 :: (0 :: (0 :: (0 :: (0 :: (0 :: (0 :: (0 :: (0 :: (0 :: (0 :: (0 :: (0 :: (0 :: (0 :: (0 :: (0 :: (0 :: (0 :: (0 :: (0 :: (0 :: (0 :: (0 :: (0 :: (0 :: (0 :: (0 :: (0 :: (0 :: ([] : List (Int)))))))))))))))))))))))))))))))))))) then if (Dat.EqN (Dat.len (0 :: (0 :: (0 :: (0 :: (0 :: (0 :: (0 :: (0 :: (0 :: (0 :: (0 :: (0 :: (0 :: (0 :: (0 :: (0 :: (0 :: (0 :: (0 :: (0 :: (0 :: (0 :: (0 :: (0 :: (0 :: (0 :: (0 :: (0 :: (0 :: (0 :: (0 :: (0 :: ([] : List (Int))))))))))))))))))))))))))))))))))) 32) then some ((0 :: (0 :: (0 :: (0 :: (0 :: (0 :: (0 :: (0 :: (0 :: (0 :: (0 :: (0 :: (0 :: (0 :: (0 :: (0 :: (0 :: (0 :: (0 :: (0 :: (0 :: (0 :: (0 :: (0 :: (0 :: (0 :: (0 :: (0 :: (0 :: (0 :: (0 :: (0 :: ([] : List (Int)))))))))))))))))))))))))))))))))), x1)
 else none
 else none
 else if (Dat.EqN (Dat.len (Dat.rep 8 0)) (Dat.len ((Dat.get d0.1 0 0) :: ((Dat.get d0.1 1 0) :: ((Dat.get d0.1 2 0) :: ((Dat.get d0.1 3 0) :: ((Dat.get d0.1 4 0) :: ((Dat.get d0.1 5 0) :: ((Dat.get d0.1 6 0) :: ((Dat.get d0.1 7 0) :: ([] : List (Int)))))))))))) then if (Dat.Le 64 (Dat.len (Dat.rep 64 0))) then if (Dat.Lt 0 64) then if (Dat.Le (Dat.addN 0 (Dat.subN 64 0)) (Dat.len (Dat.rep 64 0))) then if (Dat.In (Dat.ofN (Dat.minN (Dat.len d0.2.1) (Dat.subN 64 0))) 64) then if (Dat.Lt (Dat.toN (Dat.ofN (Dat.minN (Dat.len d0.2.1) (Dat.subN 64 0)))) (Dat.len (Dat.put (Dat.rep 64 0) 0 (Dat.take (Dat.minN (Dat.len d0.2.1) (Dat.subN 64 0)) d0.2.1)))) then Dat.bnd (Dat.set (Dat.put (Dat.rep 64 0) 0 (Dat.take (Dat.minN (Dat.len d0.2.1) (Dat.subN 64 0)) d0.2.1)) (Dat.toN (Dat.ofN (Dat.minN (Dat.len d0.2.1) (Dat.subN 64 0)))) 128) fun (x18 : List (Int)) =>
 (bif (Dat.ige (Dat.ofN (Dat.minN (Dat.len d0.2.1) (Dat.subN 64 0))) 56) then if (Dat.EqN (Dat.len ((Dat.get d0.1 0 0) :: ((Dat.get d0.1 1 0) :: ((Dat.get d0.1 2 0) :: ((Dat.get d0.1 3 0) :: ((Dat.get d0.1 4 0) :: ((Dat.get d0.1 5 0) :: ((Dat.get d0.1 6 0) :: ((Dat.get d0.1 7 0) :: ([] : List (Int))))))))))) 8) then if (Dat.EqN (Dat.len x18) 64) then Dat.bind (sha_turn (((Dat.get d0.1 0 0) :: ((Dat.get d0.1 1 0) :: ((Dat.get d0.1 2 0) :: ((Dat.get d0.1 3 0) :: ((Dat.get d0.1 4 0) :: ((Dat.get d0.1 5 0) :: ((Dat.get d0.1 6 0) :: ((Dat.get d0.1 7 0) :: ([] : List (Int)))))))))), x18)) fun (x23 : List (Int)) =>
 if (Dat.EqN (Dat.len ((Dat.get d0.1 0 0) :: ((Dat.get d0.1 1 0) :: ((Dat.get d0.1 2 0) :: ((Dat.get d0.1 3 0) :: ((Dat.get d0.1 4 0) :: ((Dat.get d0.1 5 0) :: ((Dat.get d0.1 6 0) :: ((Dat.get d0.1 7 0) :: ([] : List (Int))))))))))) 8) then if (Dat.EqN (Dat.len x18) (Dat.len (0 :: (0 :: (0 :: (0 :: (0 :: (0 :: (0 :: (0 :: (0 :: (0 :: (0 :: (0 :: (0 :: (0 :: (0 :: (0 :: (0 :: (0 :: (0 :: (0 :: (0 :: (0 :: (0 :: (0 :: (0 :: (0 :: (0 :: (0 :: (0 :: (0 :: (0 :: (0 :: (0 :: (0 :: (0 :: (0 :: (0 :: (0 :: (0 :: (0 :: (0 :: (0 :: (0 :: (0 :: (0 :: (0 :: (0 :: (0 :: (0 :: (0 :: (0 :: (0 :: (0 :: (0 :: (0 :: (0 :: (0 :: (0 :: (0 :: (0 :: (0 :: (0 :: (0 :: (0 :: ([] : List (Int)))))))))))))))))))))))))))))))))))))))))))))))))))))))))))))))))))) then Dat.loop (fun (s28 : (Int) × (List (Int))) k29 =>
 (bif (Dat.ilt s28.1 8) then Dat.bnd (Dat.wrap .i64 (Dat.sub 63 s28.1)) fun (x30 : Int) =>
 Dat.bnd (Dat.wrap .u64 (Dat.mul 8 d0.2.2.1)) fun (x31 : Int) =>
 Dat.bnd (Dat.wrap .i64 (Dat.mul 8 s28.1)) fun (x32 : Int) =>
 if (Dat.Neg x32) then none
 else Dat.bnd (Dat.shr .u64 x31 x32) fun (x35 : Int) =>
 Dat.bnd (Dat.wrap .u8 x35) fun (x36 : Int) =>
 if (Dat.In x30 64) then if (Dat.Lt (Dat.toN x30) (Dat.len s28.2)) then Dat.bnd (Dat.set s28.2 (Dat.toN x30) x36) fun (x41 : List (Int)) =>
 Dat.bnd (Dat.wrap .i64 (Dat.add s28.1 1)) fun (x42 : Int) =>
 k29 (x42, x41)
 else none
 else none
 else if (Dat.EqN (Dat.len (Dat.norm 8 x23 0)) 8) then if (Dat.EqN (Dat.len s28.2) 64) then Dat.bind (sha_turn ((Dat.norm 8 x23 0), s28.2)) fun (x47 : List (Int)) =>
 Dat.bind (sha_told x47) fun (x48 : List (Int)) =>
 if (Dat.EqN (Dat.len (Dat.rep 32 0)) 32) then if (Dat.EqN (Dat.len (Dat.norm 32 x48 0)) 32) then some ((Dat.norm 32 x48 0), 0)
 else none
 else none
 else none
 else none)) (0, (0 :: (0 :: (0 :: (0 :: (0 :: (0 :: (0 :: (0 :: (0 :: (0 :: (0 :: (0 :: (0 :: (0 :: (0 :: (0 :: (0 :: (0 :: (0 :: (0 :: (0 :: (0 :: (0 :: (0 :: (0 :: (0 :: (0 :: (0 :: (0 :: (0 :: (0 :: (0 :: (0 :: (0 :: (0 :: (0 :: (0 :: (0 :: (0 :: (0 :: (0 :: (0 :: (0 :: (0 :: (0 :: (0 :: (0 :: (0 :: (0 :: (0 :: (0 :: (0 :: (0 :: (0 :: (0 :: (0 :: (0 :: (0 :: (0 :: (0 :: (0 :: (0 :: (0 :: (0 :: ([] : List (Int)))))))))))))))))))))))))))))))))))))))))))))))))))))))))))))))))))
 else none
 else none
 else none
 else none
 else Dat.loop (fun (s53 : (Int) × (List (Int))) k54 =>
 (bif (Dat.ilt s53.1 8) then Dat.bnd (Dat.wrap .i64 (Dat.sub 63 s53.1)) fun (x55 : Int) =>
 Dat.bnd (Dat.wrap .u64 (Dat.mul 8 d0.2.2.1)) fun (x56 : Int) =>
 Dat.bnd (Dat.wrap .i64 (Dat.mul 8 s53.1)) fun (x57 : Int) =>
 if (Dat.Neg x57) then none
 else Dat.bnd (Dat.shr .u64 x56 x57) fun (x60 : Int) =>
 Dat.bnd (Dat.wrap .u8 x60) fun (x61 : Int) =>
 if (Dat.In x55 64) then if (Dat.Lt (Dat.toN x55) (Dat.len s53.2)) then Dat.bnd (Dat.set s53.2 (Dat.toN x55) x61) fun (x66 : List (Int)) =>
 Dat.bnd (Dat.wrap .i64 (Dat.add s53.1 1)) fun (x67 : Int) =>
 k54 (x67, x66)
 else none
 else none
 else if (Dat.EqN (Dat.len ((Dat.get d0.1 0 0) :: ((Dat.get d0.1 1 0) :: ((Dat.get d0.1 2 0) :: ((Dat.get d0.1 3 0) :: ((Dat.get d0.1 4 0) :: ((Dat.get d0.1 5 0) :: ((Dat.get d0.1 6 0) :: ((Dat.get d0.1 7 0) :: ([] : List (Int))))))))))) 8) then if (Dat.EqN (Dat.len s53.2) 64) then Dat.bind (sha_turn (((Dat.get d0.1 0 0) :: ((Dat.get d0.1 1 0) :: ((Dat.get d0.1 2 0) :: ((Dat.get d0.1 3 0) :: ((Dat.get d0.1 4 0) :: ((Dat.get d0.1 5 0) :: ((Dat.get d0.1 6 0) :: ((Dat.get d0.1 7 0) :: ([] : List (Int)))))))))), s53.2)) fun (x72 : List (Int)) =>
 Dat.bind (sha_told x72) fun (x73 : List (Int)) =>
 if (Dat.EqN (Dat.len (Dat.rep 32 0)) 32) then if (Dat.EqN (Dat.len (Dat.norm 32 x73 0)) 32) then some ((Dat.norm 32 x73 0), 0)
 else none
 else none
 else none
 else none)) (0, x18))
 else none
 else none
 else none
 else none
 else none
 else none)
noncomputable def p_sha_End : PFn := { args := [(.pair (.arr 8 (.int .u32)) (.pair (.list (.int .u8)) (.pair (.int .u64) .unit)))], res := [(.arr 32 (.int .u8)), (.int .i64)], fn := sha_End }
def sp9_9 : List LSpec × List Nat := ([{ id := 900, known := true, toks := [], items := [.slot 29 (.val (.int .i64)), .vec 1000006 (.int .u8)], junk := [30, 31, 8, 32, 33, 34, 35, 36, 37, 38, 39, 40, 41, 42], tails := [] }], [])
def spt9 : Tab (List LSpec × List Nat) := (.node (.node .leaf none (.node (.node .leaf (some sp9_9) .leaf) none .leaf)) none .leaf)
def spf9 (f : Nat) : List LSpec × List Nat := (spt9.get f).getD ([], [])
theorem pd_sha_End : PureD Tryd.prog cfg 9 p_sha_End := fnD spf9 (l := [(13, p_sha_Check), (22, p_sha_turn), (24, p_sha_told)]) cfgOk cfgGlob (.cons pd_sha_Check (.cons pd_sha_turn (.cons pd_sha_told .nil))) (fun d => by kernel_rfl)

/-- thimblerig/sha.Begin -/
noncomputable def sha_Begin (d0 : Unit) : Option ((List (Int)) × ((List (Int)) × ((Int) × (Unit)))) :=
 some ((1779033703 :: (3144134277 :: (1013904242 :: (2773480762 :: (1359893119 :: (2600822924 :: (528734635 :: (1541459225 :: ([] : List (Int)))))))))), (([] : List (Int)), (0, ())))
noncomputable def p_sha_Begin : PFn := { args := [], res := [(.pair (.arr 8 (.int .u32)) (.pair (.list (.int .u8)) (.pair (.int .u64) .unit)))], fn := sha_Begin }
theorem pd_sha_Begin : PureD Tryd.prog cfg 14 p_sha_Begin := fnD sp0 (l := []) cfgOk cfgGlob .nil (fun d => by kernel_rfl)

/-- thimblerig/sha.Of -/
noncomputable def sha_Of (d0 : List (List (Int))) : Option (List (Int)) :=
 Dat.bind (sha_Begin ()) fun (x1 : (List (Int)) × ((List (Int)) × ((Int) × (Unit)))) =>
 Dat.loop (fun (s2 : (Int) × ((Int) × ((Int) × ((Int) × ((Int) × ((Int) × ((Int) × ((Int) × ((Int) × ((List (Int)) × (Int))))))))))) k3 =>
 (bif (Dat.ilt s2.1 (Dat.ofN (Dat.len d0))) then if (Dat.Ix s2.1 (Dat.len d0)) then Dat.bnd (Dat.get d0 (Dat.toN s2.1) ([] : List (Int))) fun (x6 : List (Int)) =>
 Dat.bind (sha_More (((s2.2.1 :: (s2.2.2.1 :: (s2.2.2.2.1 :: (s2.2.2.2.2.1 :: (s2.2.2.2.2.2.1 :: (s2.2.2.2.2.2.2.1 :: (s2.2.2.2.2.2.2.2.1 :: (s2.2.2.2.2.2.2.2.2.1 :: ([] : List (Int)))))))))), (s2.2.2.2.2.2.2.2.2.2.1, (s2.2.2.2.2.2.2.2.2.2.2, ()))), x6)) fun (x7 : ((List (Int)) × ((List (Int)) × ((Int) × (Unit)))) × (Int)) =>
 Dat.bnd (Dat.wrap .i64 (Dat.add s2.1 1)) fun (x8 : Int) =>
 k3 (x8, ((Dat.get x7.1.1 0 0), ((Dat.get x7.1.1 1 0), ((Dat.get x7.1.1 2 0), ((Dat.get x7.1.1 3 0), ((Dat.get x7.1.1 4 0), ((Dat.get x7.1.1 5 0), ((Dat.get x7.1.1 6 0), ((Dat.get x7.1.1 7 0), (x7.1.2.1, x7.1.2.2.1))))))))))
 else none
 else Dat.bind (sha_End ((s2.2.1 :: (s2.2.2.1 :: (s2.2.2.2.1 :: (s2.2.2.2.2.1 :: (s2.2.2.2.2.2.1 :: (s2.2.2.2.2.2.2.1 :: (s2.2.2.2.2.2.2.2.1 :: (s2.2.2.2.2.2.2.2.2.1 :: ([] : List (Int)))))))))), (s2.2.2.2.2.2.2.2.2.2.1, (s2.2.2.2.2.2.2.2.2.2.2, ())))) fun (x9 : (List (Int)) × (Int)) =>
 if (Dat.EqN (Dat.len (Dat.rep 32 0)) 32) then if (Dat.EqN (Dat.len (Dat.norm 32 x9.1 0)) 32) then if (Dat.EqN (Dat.len (Dat.rep 32 0)) 32) then if (Dat.EqN (Dat.len (Dat.norm 32 (Dat.norm 32 x9.1 0) 0)) 32) then some (Dat.norm 32 (Dat.norm 32 x9.1 0) 0)
 else none
 else none
 else none
 else none)) (0, ((Dat.get x1.1 0 0), ((Dat.get x1.1 1 0), ((Dat.get x1.1 2 0), ((Dat.get x1.1 3 0), ((Dat.get x1.1 4 0), ((Dat.get x1.1 5 0), ((Dat.get x1.1 6 0), ((Dat.get x1.1 7 0), (x1.2.1, x1.2.2.1))))))))))
noncomputable def p_sha_Of : PFn := { args := [(.list (.list (.int .u8)))], res := [(.arr 32 (.int .u8))], fn := sha_Of }
def sp12_12 : List LSpec × List Nat := ([{ id := 1200, known := true, toks := [], items := [.slot 11 (.val (.int .i64)), .cells 1000003 [.val (.int .u32), .val (.int .u32), .val (.int .u32), .val (.int .u32), .val (.int .u32), .val (.int .u32), .val (.int .u32), .val (.int .u32), .val (.list (.int .u8)), .val (.int .u64)]], junk := [12, 13, 14, 5, 16, 17, 18, 15, 19, 20, 21], tails := [] }], [])
def spt12 : Tab (List LSpec × List Nat) := (.node .leaf none (.node (.node .leaf none (.node .leaf (some sp12_12) .leaf)) none .leaf))
def spf12 (f : Nat) : List LSpec × List Nat := (spt12.get f).getD ([], [])
theorem pd_sha_Of : PureD Tryd.prog cfg 12 p_sha_Of := fnD spf12 (l := [(14, p_sha_Begin), (8, p_sha_More), (9, p_sha_End)]) cfgOk cfgGlob (.cons pd_sha_Begin (.cons pd_sha_More (.cons pd_sha_End .nil))) (fun d => by kernel_rfl)

/-- thimblerig/thimbleriglaw02.hex -/
noncomputable def law02_hex (d0 : List (Int)) : Option (List (UInt8)) :=
 if (Dat.EqN 0 (Dat.len ([] : List (Int)))) then Dat.loop (fun (s3 : (List (Int)) × (Int)) k4 =>
 (bif (Dat.ilt s3.2 32) then if (Dat.In s3.2 32) then if (Dat.Lt (Dat.toN s3.2) (Dat.len (Dat.norm 32 d0 0))) then Dat.bnd (Dat.get (Dat.norm 32 d0 0) (Dat.toN s3.2) 0) fun (x9 : Int) =>
 if (Dat.IsZ 16) then none
 else Dat.bnd (Dat.wrap .u8 (Dat.tdiv x9 16)) fun (x12 : Int) =>
 if (Dat.Ix x12 (Dat.len (48 :: (49 :: (50 :: (51 :: (52 :: (53 :: (54 :: (55 :: (56 :: (57 :: (97 :: (98 :: (99 :: (100 :: (101 :: (102 :: ([] : List (UInt8)))))))))))))))))))) then Dat.bnd (Dat.sget (48 :: (49 :: (50 :: (51 :: (52 :: (53 :: (54 :: (55 :: (56 :: (57 :: (97 :: (98 :: (99 :: (100 :: (101 :: (102 :: ([] : List (UInt8)))))))))))))))))) (Dat.toN x12)) fun (x15 : Int) =>
 if (Dat.In s3.2 32) then if (Dat.Lt (Dat.toN s3.2) (Dat.len (Dat.norm 32 d0 0))) then Dat.bnd (Dat.get (Dat.norm 32 d0 0) (Dat.toN s3.2) 0) fun (x20 : Int) =>
 if (Dat.IsZ 16) then none
 else Dat.bnd (Dat.tmod x20 16) fun (x23 : Int) =>
 if (Dat.Ix x23 (Dat.len (48 :: (49 :: (50 :: (51 :: (52 :: (53 :: (54 :: (55 :: (56 :: (57 :: (97 :: (98 :: (99 :: (100 :: (101 :: (102 :: ([] : List (UInt8)))))))))))))))))))) then Dat.bnd (Dat.sget (48 :: (49 :: (50 :: (51 :: (52 :: (53 :: (54 :: (55 :: (56 :: (57 :: (97 :: (98 :: (99 :: (100 :: (101 :: (102 :: ([] : List (UInt8)))))))))))))))))) (Dat.toN x23)) fun (x26 : Int) =>
 if (Dat.Le (Dat.addN 0 2) (Dat.len (x15 :: (x26 :: ([] : List (Int)))))) then if (Dat.Big (Dat.len s3.1) (Dat.len (Dat.seg (x15 :: (x26 :: ([] : List (Int)))) 0 2)) 1) then none
 else if (Dat.EqN (Dat.len s3.1) (Dat.len s3.1)) then Dat.bnd (Dat.app s3.1 (Dat.seg (x15 :: (x26 :: ([] : List (Int)))) 0 2)) fun (x33 : List (Int)) =>
 Dat.bnd (Dat.wrap .i64 (Dat.add s3.2 1)) fun (x34 : Int) =>
 if (Dat.EqN (Dat.len x33) (Dat.len x33)) then k4 (x33, x34)
 else none
 else none
 else none
 else none
 else none
 else none
 else none
 else none
 else none
 else Dat.bnd (Dat.str s3.1) fun (x37 : List (UInt8)) =>
 some x37)) (([] : List (Int)), 0)
 else none
noncomputable def p_law02_hex : PFn := { args := [(.arr 32 (.int .u8))], res := [.str], fn := law02_hex }
def sp11_11 : List LSpec × List Nat := ([{ id := 1100, known := true, toks := [(3, (.int .u8))], items := [.slot 3 (.slt (.int .u8) (some 1000003) false), .slot 4 (.val (.int .i64))], junk := [5, 6, 9, 10, 11, 12, 13, 14, 15, 16, 17, 18, 19, 20, 21, 7, 8], tails := [(1000003, 3)] }], [])
def spt11 : Tab (List LSpec × List Nat) := (.node (.node (.node .leaf none (.node .leaf (some sp11_11) .leaf)) none .leaf) none .leaf)
def spf11 (f : Nat) : List LSpec × List Nat := (spt11.get f).getD ([], [])
theorem pd_law02_hex : PureD Tryd.prog cfg 11 p_law02_hex := fnD spf11 (l := []) cfgOk cfgGlob .nil (fun d => by kernel_rfl)

/-- thimblerig/thimbleriglaw02.alive -/
noncomputable def law02_alive (d0 : Unit) : Option (Bool) :=
 Dat.join (σ := Bool) (fun k1 =>
 Dat.bind (sha_Of ([] : List (List (Int)))) fun (x2 : List (Int)) =>
 Dat.bind (law02_hex x2) fun (x3 : List (UInt8)) =>
 (bif (Dat.seq x3 (101 :: (51 :: (98 :: (48 :: (99 :: (52 :: (52 :: (50 :: (57 :: (56 :: (102 :: (99 :: (49 :: (99 :: (49 :: (52 :: (57 :: (97 :: (102 :: (98 :: (102 :: (52 :: (99 :: (56 :: (57 :: (57 :: (54 :: (102 :: (98 :: (57 :: (50 :: (52 :: (50 :: (55 :: (97 :: (101 :: (52 :: (49 :: (101 :: (52 :: (54 :: (52 :: (57 :: (98 :: (57 :: (51 :: (52 :: (99 :: (97 :: (52 :: (57 :: (53 :: (57 :: (57 :: (49 :: (98 :: (55 :: (56 :: (53 :: (50 :: (98 :: (56 :: (53 :: (53 :: ([] : List (UInt8))))))))))))))))))))))))))))))))))))))))))))))))))))))))))))))))))) then if (Dat.Le (Dat.addN 0 1) (Dat.len (97 :: ([] : List (Int))))) then if (Dat.Le (Dat.addN 0 2) (Dat.len (98 :: (99 :: ([] : List (Int)))))) then Dat.bind (sha_Of ((Dat.seg (97 :: ([] : List (Int))) 0 1) :: (([] : List (Int)) :: ((Dat.seg (98 :: (99 :: ([] : List (Int)))) 0 2) :: ([] : List (List (Int))))))) fun (x8 : List (Int)) =>
 Dat.bind (law02_hex x8) fun (x9 : List (UInt8)) =>
 k1 (Dat.pickB true (Dat.seq x9 (98 :: (97 :: (55 :: (56 :: (49 :: (54 :: (98 :: (102 :: (56 :: (102 :: (48 :: (49 :: (99 :: (102 :: (101 :: (97 :: (52 :: (49 :: (52 :: (49 :: (52 :: (48 :: (100 :: (101 :: (53 :: (100 :: (97 :: (101 :: (50 :: (50 :: (50 :: (51 :: (98 :: (48 :: (48 :: (51 :: (54 :: (49 :: (97 :: (51 :: (57 :: (54 :: (49 :: (55 :: (55 :: (97 :: (57 :: (99 :: (98 :: (52 :: (49 :: (48 :: (102 :: (102 :: (54 :: (49 :: (102 :: (50 :: (48 :: (48 :: (49 :: (53 :: (97 :: (100 :: ([] : List (UInt8))))))))))))))))))))))))))))))))))))))))))))))))))))))))))))))))))) false)
 else none
 else none
 else k1 false)) fun (j10 : Bool) =>
 some j10
noncomputable def p_law02_alive : PFn := { args := [], res := [.bool], fn := law02_alive }
def sp10_13 : List LSpec × List Nat := ([{ id := 5013000, known := false, toks := [], items := [], junk := [2], tails := [] }, { id := 5013001, known := true, toks := [], items := [.slot 15 (.val .bool)], junk := [3, 4, 5, 6, 7, 8, 9, 10, 11, 12, 13, 14], tails := [] }, { id := 5013002, known := false, toks := [], items := [], junk := [2], tails := [] }, { id := 5013003, known := false, toks := [], items := [.slot 2 (.val (.int .i64))], junk := [], tails := [] }, { id := 5013004, known := false, toks := [], items := [.slot 2 (.val (.int .i64))], junk := [], tails := [] }], [])
def sp10_31 : List LSpec × List Nat := ([{ id := 5031000, known := false, toks := [], items := [], junk := [4], tails := [] }, { id := 5031001, known := false, toks := [], items := [.slot 5 (.val (.int .u32))], junk := [6, 7, 8, 9, 10, 11], tails := [] }, { id := 5031002, known := false, toks := [], items := [.slot 13 (.val .bool)], junk := [12], tails := [] }, { id := 5031003, known := true, toks := [], items := [.slot 5 (.val (.int .u32))], junk := [14, 15, 16, 17, 18], tails := [] }, { id := 5031004, known := false, toks := [], items := [.slot 5 (.val (.int .u32))], junk := [14, 15, 16, 17, 18], tails := [] }, { id := 5031005, known := false, toks := [], items := [.slot 4 (.val (.int .u32))], junk := [19, 20, 21, 22, 23, 24, 25, 26, 27, 28, 29, 30, 31, 32, 33], tails := [] }], [])
def sp10_28 : List LSpec × List Nat := ([{ id := 5028000, known := false, toks := [], items := [], junk := [], tails := [] }, { id := 5028001, known := false, toks := [], items := [], junk := [7, 8], tails := [] }, { id := 5028002, known := false, toks := [], items := [], junk := [9, 10], tails := [] }, { id := 5028003, known := false, toks := [], items := [], junk := [], tails := [] }, { id := 5028004, known := false, toks := [], items := [.slot 11 (.val (.int .i64))], junk := [], tails := [] }, { id := 2800, known := false, toks := [], items := [], junk := [], tails := [] }, { id := 5028005, known := false, toks := [], items := [], junk := [], tails := [] }, { id := 5028006, known := false, toks := [], items := [], junk := [], tails := [] }, { id := 5028007, known := false, toks := [], items := [.slot 6 (.val (.int .i64))], junk := [13], tails := [] }, { id := 5028008, known := false, toks := [], items := [.slot 15 (.val .bool)], junk := [14], tails := [] }, { id := 5028009, known := true, toks := [], items := [], junk := [16, 17, 18, 19, 20, 21, 22, 23, 24, 25, 26, 27, 28, 29, 30, 31, 32, 33, 34, 35, 36, 37, 38, 39, 40, 41, 42, 43, 44, 45, 46, 47, 48, 49, 50, 51, 52, 53, 54, 55, 56, 57, 58, 59, 60, 61, 62, 63, 64, 65, 66, 67, 68, 69, 70, 71], tails := [] }, { id := 5028010, known := false, toks := [], items := [], junk := [16, 17, 18, 19, 20, 21, 22, 23, 24, 25, 26, 27, 28, 29, 30, 31, 32, 33, 34, 35, 36, 37, 38, 39, 40, 41, 42, 43, 44, 45, 46], tails := [] }, { id := 5028011, known := false, toks := [], items := [], junk := [47, 48, 49, 50, 51, 52, 53, 54, 55, 56, 57, 58, 59, 60, 61, 62, 63, 64, 65, 66, 67, 68, 69, 70, 71], tails := [] }, { id := 5028012, known := false, toks := [], items := [.slot 11 (.val (.int .i64))], junk := [72], tails := [] }, { id := 5028013, known := false, toks := [], items := [], junk := [73], tails := [] }], [])
def sp10_9 : List LSpec × List Nat := ([{ id := 5009000, known := false, toks := [], items := [], junk := [3], tails := [] }, { id := 5009001, known := false, toks := [], items := [.slot 4 (.val (.int .i64))], junk := [9, 10], tails := [] }, { id := 5009002, known := false, toks := [], items := [.slot 12 (.val .bool)], junk := [11], tails := [] }, { id := 5009003, known := false, toks := [], items := [], junk := [13, 14, 3], tails := [] }, { id := 5009004, known := false, toks := [], items := [.slot 3 (.val (.int .i64))], junk := [13, 14], tails := [] }, { id := 5009005, known := false, toks := [], items := [], junk := [15, 16], tails := [] }, { id := 5009006, known := false, toks := [], items := [], junk := [], tails := [] }, { id := 5009007, known := false, toks := [], items := [.slot 7 (.val (.int .i64))], junk := [17, 18, 19, 20], tails := [] }, { id := 5009008, known := false, toks := [], items := [], junk := [21, 22], tails := [] }, { id := 5009009, known := false, toks := [], items := [.slot 24 (.val .bool)], junk := [23], tails := [] }, { id := 5009010, known := true, toks := [], items := [], junk := [25, 26, 27, 28], tails := [] }, { id := 5009011, known := false, toks := [], items := [], junk := [25, 26, 27], tails := [] }, { id := 5009012, known := false, toks := [], items := [], junk := [28], tails := [] }, { id := 5009013, known := false, toks := [], items := [.slot 29 (.val (.int .i64))], junk := [], tails := [] }, { id := 900, known := false, toks := [], items := [], junk := [], tails := [] }, { id := 5009014, known := false, toks := [], items := [.slot 30 (.val .bool)], junk := [], tails := [] }, { id := 5009015, known := false, toks := [], items := [], junk := [], tails := [] }, { id := 5009016, known := false, toks := [], items := [.slot 8 (.val (.int .i64))], junk := [31], tails := [] }, { id := 5009017, known := false, toks := [], items := [], junk := [32, 33, 34, 35, 36, 37, 38, 39, 40, 41], tails := [] }, { id := 5009018, known := false, toks := [], items := [.slot 29 (.val (.int .i64))], junk := [42], tails := [] }, { id := 5009019, known := false, toks := [], items := [.slot 3 (.val (.int .i64))], junk := [43, 44, 45, 46], tails := [] }], [])
def sp10_10 : List LSpec × List Nat := ([{ id := 5010000, known := false, toks := [], items := [], junk := [0], tails := [] }, { id := 5010001, known := true, toks := [], items := [.slot 0 (.val .bool)], junk := [1, 2, 3, 4, 5, 6, 7, 8, 9, 10, 11, 12, 13], tails := [] }], [])
def sp10_3 : List LSpec × List Nat := ([{ id := 5003000, known := false, toks := [], items := [], junk := [0], tails := [] }, { id := 5003001, known := false, toks := [], items := [.slot 2 (.val (.int .i64))], junk := [8, 9, 10, 7, 11, 12, 1], tails := [] }, { id := 5003002, known := false, toks := [], items := [.slot 4 (.val (.int .i64))], junk := [14, 15, 16, 13, 17, 18, 3], tails := [] }, { id := 5003003, known := false, toks := [], items := [.slot 6 (.val (.int .i64))], junk := [20, 21, 19, 22, 23, 5], tails := [] }, { id := 5003004, known := true, toks := [], items := [.slot 0 (.val .bool)], junk := [24, 25, 26, 27, 28, 29, 30, 31, 32, 33, 34, 35, 36, 37, 38, 39, 40, 41, 42, 43, 44, 45, 46, 47, 48, 49, 50, 51], tails := [] }], [])
def sp10_25 : List LSpec × List Nat := ([{ id := 5025000, known := false, toks := [], items := [], junk := [2], tails := [] }, { id := 5025001, known := true, toks := [], items := [.slot 2 (.val .bool)], junk := [3, 4, 5, 6, 7, 8, 9, 10, 11, 12, 13, 14, 15], tails := [] }], [])
def sp10_17 : List LSpec × List Nat := ([{ id := 5017000, known := false, toks := [], items := [], junk := [4], tails := [] }, { id := 5017001, known := true, toks := [], items := [.slot 4 (.val .bool)], junk := [5, 6, 7, 8, 9, 10, 11, 12, 13, 14, 15, 16, 17, 18, 19, 20, 21, 22, 23, 24, 25], tails := [] }], [])
def sp10_4 : List LSpec × List Nat := ([{ id := 5004000, known := false, toks := [], items := [], junk := [4], tails := [] }, { id := 5004001, known := true, toks := [], items := [.slot 25 (.val .bool)], junk := [17, 18, 19, 20, 21, 22, 23, 24], tails := [] }, { id := 5004002, known := false, toks := [], items := [], junk := [4], tails := [] }, { id := 5004003, known := false, toks := [], items := [.slot 4 (.val .bool)], junk := [], tails := [] }, { id := 5004004, known := false, toks := [], items := [], junk := [26, 27, 28, 29, 30, 31, 32, 33, 34], tails := [] }, { id := 5004005, known := false, toks := [], items := [], junk := [35, 36, 37], tails := [] }, { id := 5004006, known := false, toks := [], items := [.slot 8 (.val (.int .i64))], junk := [39, 40, 41, 38, 42, 43], tails := [] }, { id := 5004007, known := false, toks := [], items := [.slot 10 (.val (.int .i64))], junk := [45, 46, 47, 44, 48, 49], tails := [] }, { id := 5004008, known := false, toks := [], items := [.slot 12 (.val (.int .i64))], junk := [51, 52, 50, 53, 54], tails := [] }, { id := 5004009, known := false, toks := [], items := [.slot 14 (.val (.int .i64))], junk := [56, 57, 55, 58, 59], tails := [] }, { id := 5004010, known := true, toks := [], items := [.slot 15 (.val .bool)], junk := [60, 61, 62, 63, 64, 65, 66, 67, 68, 69, 70, 71, 72, 73, 74, 75, 76, 77, 78, 79, 80, 81, 82, 83, 84, 85, 86, 87, 88, 89], tails := [] }, { id := 5004011, known := false, toks := [], items := [.slot 16 (.val (.int .i64))], junk := [], tails := [] }, { id := 400, known := false, toks := [], items := [], junk := [], tails := [] }, { id := 5004012, known := false, toks := [], items := [.slot 94 (.val .bool)], junk := [90, 91, 92, 93], tails := [] }, { id := 5004013, known := false, toks := [], items := [], junk := [], tails := [] }, { id := 5004014, known := false, toks := [], items := [], junk := [97, 98, 99, 100, 101, 102, 103, 104, 105, 106], tails := [] }, { id := 5004015, known := false, toks := [], items := [.slot 16 (.val (.int .i64))], junk := [95, 96], tails := [] }, { id := 5004016, known := true, toks := [], items := [.slot 4 (.val .bool)], junk := [107, 108, 109, 110, 111, 112, 113, 114, 115, 116, 117, 118, 119], tails := [] }], [])
def sp10_5 : List LSpec × List Nat := ([{ id := 5005000, known := false, toks := [], items := [], junk := [6], tails := [] }, { id := 5005001, known := true, toks := [], items := [.slot 23 (.val .bool)], junk := [11, 12, 13, 14, 15, 16, 17, 18, 19, 20, 21, 22], tails := [] }, { id := 5005002, known := false, toks := [], items := [], junk := [6], tails := [] }, { id := 5005003, known := false, toks := [], items := [.slot 6 (.val .bool)], junk := [], tails := [] }, { id := 5005004, known := false, toks := [], items := [], junk := [24, 25, 26, 27, 28, 29, 30, 31, 32], tails := [] }, { id := 5005005, known := false, toks := [], items := [], junk := [33, 34, 35, 36, 37], tails := [] }, { id := 5005006, known := true, toks := [], items := [.slot 6 (.val .bool)], junk := [38, 39, 40, 41, 42, 43, 44, 45, 46, 47, 48, 49, 50, 51, 52, 53, 54, 55, 56, 57, 58, 59, 60, 61, 62, 63, 64, 65, 66], tails := [] }], [])
def sp10_6 : List LSpec × List Nat := ([{ id := 5006000, known := false, toks := [], items := [], junk := [6], tails := [] }, { id := 5006001, known := false, toks := [], items := [.slot 7 (.val .bool)], junk := [18], tails := [] }, { id := 5006002, known := true, toks := [], items := [.slot 36 (.val .bool)], junk := [19, 20, 21, 22, 23, 24, 25, 26, 27, 28, 29, 30, 31, 32, 33, 34, 35], tails := [] }, { id := 5006003, known := false, toks := [], items := [], junk := [37, 6], tails := [] }, { id := 5006004, known := false, toks := [], items := [.slot 6 (.val .bool)], junk := [37], tails := [] }, { id := 5006005, known := false, toks := [], items := [.slot 9 (.val (.int .i64))], junk := [39, 40, 41, 38, 42, 43], tails := [] }, { id := 5006006, known := false, toks := [], items := [.slot 11 (.val (.int .i64))], junk := [45, 46, 47, 44, 48, 49], tails := [] }, { id := 5006007, known := false, toks := [], items := [.slot 13 (.val (.int .i64))], junk := [51, 52, 53, 54, 55, 56, 57, 50, 58, 59], tails := [] }, { id := 5006008, known := true, toks := [], items := [.slot 65 (.val .bool)], junk := [60, 61, 62, 63, 64], tails := [] }, { id := 5006009, known := false, toks := [], items := [], junk := [66, 67, 68, 69, 70, 71, 72, 73, 74, 75, 76, 77, 78, 79, 80, 81, 82, 83, 84, 6], tails := [] }, { id := 5006010, known := true, toks := [], items := [.slot 6 (.val .bool)], junk := [66, 67, 68, 69, 70, 71, 72, 73, 74, 75, 76, 77, 78, 79, 80, 81, 82, 83, 84], tails := [] }, { id := 5006011, known := false, toks := [], items := [.slot 15 (.val (.int .i64))], junk := [86, 87, 85, 88, 89], tails := [] }, { id := 5006012, known := false, toks := [], items := [.slot 17 (.val (.int .i64))], junk := [91, 92, 90, 93, 94], tails := [] }, { id := 5006013, known := true, toks := [], items := [.slot 6 (.val .bool)], junk := [95, 96, 97, 98, 99, 100, 101, 102, 103, 104, 105, 106, 107, 108, 109, 110, 111, 112, 113, 114, 115, 116, 117, 118, 119, 120, 121, 122, 123, 124, 125, 126, 127, 128, 129, 130, 131, 132, 133, 134, 135, 136, 137, 138, 139, 140], tails := [] }], [])
def sp10_7 : List LSpec × List Nat := ([{ id := 5007000, known := false, toks := [], items := [], junk := [4], tails := [] }, { id := 5007001, known := false, toks := [], items := [.slot 5 (.val .bool)], junk := [12], tails := [] }, { id := 5007002, known := true, toks := [], items := [.slot 24 (.val .bool)], junk := [13, 14, 15, 16, 17, 18, 19, 20, 21, 22, 23], tails := [] }, { id := 5007003, known := false, toks := [], items := [], junk := [25, 4], tails := [] }, { id := 5007004, known := false, toks := [], items := [.slot 4 (.val .bool)], junk := [25], tails := [] }, { id := 5007005, known := false, toks := [], items := [.slot 7 (.val (.int .i64))], junk := [27, 28, 29, 26, 30, 31], tails := [] }, { id := 5007006, known := false, toks := [], items := [.slot 9 (.val (.int .i64))], junk := [33, 34, 35, 32, 36, 37], tails := [] }, { id := 5007007, known := false, toks := [], items := [.slot 11 (.val (.int .i64))], junk := [39, 40, 38, 41, 42], tails := [] }, { id := 5007008, known := true, toks := [], items := [.slot 4 (.val .bool)], junk := [43, 44, 45, 46, 47, 48, 49, 50, 51, 52, 53, 54, 55, 56, 57, 58, 59, 60, 61, 62, 63, 64, 65, 66, 67, 68, 69, 70, 71, 72, 73, 74, 75, 76, 77, 78, 79, 80, 81, 82, 83, 84, 85], tails := [] }], [])
def spt10 : Tab (List LSpec × List Nat) := (.node (.node (.node (.node (.node (.node .leaf (some sp10_31) .leaf) none .leaf) (some sp10_7) .leaf) (some sp10_3) .leaf) none (.node (.node (.node .leaf (some sp10_17) .leaf) (some sp10_9) (.node .leaf (some sp10_25) .leaf)) (some sp10_5) (.node .leaf (some sp10_13) .leaf))) none (.node (.node .leaf (some sp10_4) (.node .leaf none (.node .leaf (some sp10_28) .leaf))) none (.node (.node .leaf (some sp10_10) .leaf) (some sp10_6) .leaf)))
def spf10 (f : Nat) : List LSpec × List Nat := (spt10.get f).getD ([], [])
theorem pd_law02_alive : PureD Tryd.prog cfg 10 p_law02_alive := fnD spf10 (l := [(12, p_sha_Of), (11, p_law02_hex)]) cfgOk cfgGlob (.cons pd_sha_Of (.cons pd_law02_hex .nil)) (fun d => by kernel_rfl)

/-- thimblerig/thimbleriglaw02.ShaNames -/
noncomputable def law02_ShaNames (d0 : Unit) : Option (Bool) :=
 if (Dat.Le (Dat.addN 0 1) (Dat.len (1 :: ([] : List (Int))))) then Dat.bind (sha_More (((0 :: (0 :: (0 :: (0 :: (0 :: (0 :: (0 :: (0 :: ([] : List (Int)))))))))), ((Dat.seg (1 :: ([] : List (Int))) 0 1), (0, ()))), ([] : List (Int)))) fun (x3 : ((List (Int)) × ((List (Int)) × ((Int) × (Unit)))) × (Int)) =>
 if (Dat.MkOk 64 64 1) then if (Dat.Le (Dat.addN 0 (Dat.toN 64)) (Dat.len (Dat.rep (α := Int) (Dat.toN 64) 0))) then Dat.bind (sha_More (((0 :: (0 :: (0 :: (0 :: (0 :: (0 :: (0 :: (0 :: ([] : List (Int)))))))))), (([] : List (Int)), (72057594037927872, ()))), (Dat.seg (Dat.rep (α := Int) (Dat.toN 64) 0) 0 (Dat.toN 64)))) fun (x8 : ((List (Int)) × ((List (Int)) × ((Int) × (Unit)))) × (Int)) =>
 Dat.bind (sha_End ((0 :: (0 :: (0 :: (0 :: (0 :: (0 :: (0 :: (0 :: ([] : List (Int)))))))))), (([] : List (Int)), (72057594037927936, ())))) fun (x9 : (List (Int)) × (Int)) =>
 if (Dat.EqN (Dat.len (Dat.rep 32 0)) 32) then Dat.join (σ := Bool) (fun k12 =>
 Dat.bind (law02_alive ()) fun (x13 : Bool) =>
 (bif (Dat.pickB true x13 false) then if (Dat.Le (Dat.addN 0 56) (Dat.len (97 :: (98 :: (99 :: (100 :: (98 :: (99 :: (100 :: (101 :: (99 :: (100 :: (101 :: (102 :: (100 :: (101 :: (102 :: (103 :: (101 :: (102 :: (103 :: (104 :: (102 :: (103 :: (104 :: (105 :: (103 :: (104 :: (105 :: (106 :: (104 :: (105 :: (106 :: (107 :: (105 :: (106 :: (107 :: (108 :: (106 :: (107 :: (108 :: (109 :: (107 :: (108 :: (109 :: (110 :: (108 :: (109 :: (110 :: (111 :: (109 :: (110 :: (111 :: (112 :: (110 :: (111 :: (112 :: (113 :: ([] : List (Int)))))))))))))))))))))))))))))))))))))))))))))))))))))))))))) then Dat.bind (sha_Of ((Dat.seg (97 :: (98 :: (99 :: (100 :: (98 :: (99 :: (100 :: (101 :: (99 :: (100 :: (101 :: (102 :: (100 :: (101 :: (102 :: (103 :: (101 :: (102 :: (103 :: (104 :: (102 :: (103 :: (104 :: (105 :: (103 :: (104 :: (105 :: (106 :: (104 :: (105 :: (106 :: (107 :: (105 :: (106 :: (107 :: (108 :: (106 :: (107 :: (108 :: (109 :: (107 :: (108 :: (109 :: (110 :: (108 :: (109 :: (110 :: (111 :: (109 :: (110 :: (111 :: (112 :: (110 :: (111 :: (112 :: (113 :: ([] : List (Int)))))))))))))))))))))))))))))))))))))))))))))))))))))))))) 0 56) :: ([] : List (List (Int))))) fun (x16 : List (Int)) =>
 Dat.bind (law02_hex x16) fun (x17 : List (UInt8)) =>
 (bif (Dat.pickB true (Dat.seq x17 (50 :: (52 :: (56 :: (100 :: (54 :: (97 :: (54 :: (49 :: (100 :: (50 :: (48 :: (54 :: (51 :: (56 :: (98 :: (56 :: (101 :: (53 :: (99 :: (48 :: (50 :: (54 :: (57 :: (51 :: (48 :: (99 :: (51 :: (101 :: (54 :: (48 :: (51 :: (57 :: (97 :: (51 :: (51 :: (99 :: (101 :: (52 :: (53 :: (57 :: (54 :: (52 :: (102 :: (102 :: (50 :: (49 :: (54 :: (55 :: (102 :: (54 :: (101 :: (99 :: (101 :: (100 :: (100 :: (52 :: (49 :: (57 :: (100 :: (98 :: (48 :: (54 :: (99 :: (49 :: ([] : List (UInt8))))))))))))))))))))))))))))))))))))))))))))))))))))))))))))))))))) false) then (bif (Dat.pickB true (Dat.ieq x3.2 8) false) then (bif (Dat.pickB true (Dat.ieq x8.2 4) false) then (bif (Dat.pickB true (Dat.ieq x9.2 8) false) then Dat.bind (sha_Begin ()) fun (x18 : (List (Int)) × ((List (Int)) × ((Int) × (Unit)))) =>
 Dat.bind (sha_Check (((Dat.get x18.1 0 0) :: ((Dat.get x18.1 1 0) :: ((Dat.get x18.1 2 0) :: ((Dat.get x18.1 3 0) :: ((Dat.get x18.1 4 0) :: ((Dat.get x18.1 5 0) :: ((Dat.get x18.1 6 0) :: ((Dat.get x18.1 7 0) :: ([] : List (Int)))))))))), (x18.2.1, (x18.2.2.1, ())))) fun (x19 : Int) =>
 k12 (Dat.pickB true (Dat.ieq x19 0) false)
 else k12 false)
 else k12 false)
 else k12 false)
 else k12 false)
 else none
 else k12 false)) fun (j20 : Bool) =>
 some j20
 else none
 else none
 else none
 else none
noncomputable def p_law02_ShaNames : PFn := { args := [], res := [.bool], fn := law02_ShaNames }
def sp3_13 : List LSpec × List Nat := ([{ id := 5013000, known := false, toks := [], items := [], junk := [2], tails := [] }, { id := 5013001, known := true, toks := [], items := [.slot 15 (.val .bool)], junk := [3, 4, 5, 6, 7, 8, 9, 10, 11, 12, 13, 14], tails := [] }, { id := 5013002, known := false, toks := [], items := [], junk := [2], tails := [] }, { id := 5013003, known := false, toks := [], items := [.slot 2 (.val (.int .i64))], junk := [], tails := [] }, { id := 5013004, known := false, toks := [], items := [.slot 2 (.val (.int .i64))], junk := [], tails := [] }], [])
def sp3_31 : List LSpec × List Nat := ([{ id := 5031000, known := false, toks := [], items := [], junk := [4], tails := [] }, { id := 5031001, known := false, toks := [], items := [.slot 5 (.val (.int .u32))], junk := [6, 7, 8, 9, 10, 11], tails := [] }, { id := 5031002, known := false, toks := [], items := [.slot 13 (.val .bool)], junk := [12], tails := [] }, { id := 5031003, known := true, toks := [], items := [.slot 5 (.val (.int .u32))], junk := [14, 15, 16, 17, 18], tails := [] }, { id := 5031004, known := false, toks := [], items := [.slot 5 (.val (.int .u32))], junk := [14, 15, 16, 17, 18], tails := [] }, { id := 5031005, known := false, toks := [], items := [.slot 4 (.val (.int .u32))], junk := [19, 20, 21, 22, 23, 24, 25, 26, 27, 28, 29, 30, 31, 32, 33], tails := [] }], [])
def sp3_28 : List LSpec × List Nat := ([{ id := 5028000, known := false, toks := [], items := [], junk := [], tails := [] }, { id := 5028001, known := false, toks := [], items := [], junk := [7, 8], tails := [] }, { id := 5028002, known := false, toks := [], items := [], junk := [9, 10], tails := [] }, { id := 5028003, known := false, toks := [], items := [], junk := [], tails := [] }, { id := 5028004, known := false, toks := [], items := [.slot 11 (.val (.int .i64))], junk := [], tails := [] }, { id := 2800, known := false, toks := [], items := [], junk := [], tails := [] }, { id := 5028005, known := false, toks := [], items := [], junk := [], tails := [] }, { id := 5028006, known := false, toks := [], items := [], junk := [], tails := [] }, { id := 5028007, known := false, toks := [], items := [.slot 6 (.val (.int .i64))], junk := [13], tails := [] }, { id := 5028008, known := false, toks := [], items := [.slot 15 (.val .bool)], junk := [14], tails := [] }, { id := 5028009, known := true, toks := [], items := [], junk := [16, 17, 18, 19, 20, 21, 22, 23, 24, 25, 26, 27, 28, 29, 30, 31, 32, 33, 34, 35, 36, 37, 38, 39, 40, 41, 42, 43, 44, 45, 46, 47, 48, 49, 50, 51, 52, 53, 54, 55, 56, 57, 58, 59, 60, 61, 62, 63, 64, 65, 66, 67, 68, 69, 70, 71], tails := [] }, { id := 5028010, known := false, toks := [], items := [], junk := [16, 17, 18, 19, 20, 21, 22, 23, 24, 25, 26, 27, 28, 29, 30, 31, 32, 33, 34, 35, 36, 37, 38, 39, 40, 41, 42, 43, 44, 45, 46], tails := [] }, { id := 5028011, known := false, toks := [], items := [], junk := [47, 48, 49, 50, 51, 52, 53, 54, 55, 56, 57, 58, 59, 60, 61, 62, 63, 64, 65, 66, 67, 68, 69, 70, 71], tails := [] }, { id := 5028012, known := false, toks := [], items := [.slot 11 (.val (.int .i64))], junk := [72], tails := [] }, { id := 5028013, known := false, toks := [], items := [], junk := [73], tails := [] }], [])
def sp3_9 : List LSpec × List Nat := ([{ id := 5009000, known := false, toks := [], items := [], junk := [3], tails := [] }, { id := 5009001, known := false, toks := [], items := [.slot 4 (.val (.int .i64))], junk := [9, 10], tails := [] }, { id := 5009002, known := false, toks := [], items := [.slot 12 (.val .bool)], junk := [11], tails := [] }, { id := 5009003, known := false, toks := [], items := [], junk := [13, 14, 3], tails := [] }, { id := 5009004, known := false, toks := [], items := [.slot 3 (.val (.int .i64))], junk := [13, 14], tails := [] }, { id := 5009005, known := false, toks := [], items := [], junk := [15, 16], tails := [] }, { id := 5009006, known := false, toks := [], items := [], junk := [], tails := [] }, { id := 5009007, known := false, toks := [], items := [.slot 7 (.val (.int .i64))], junk := [17, 18, 19, 20], tails := [] }, { id := 5009008, known := false, toks := [], items := [], junk := [21, 22], tails := [] }, { id := 5009009, known := false, toks := [], items := [.slot 24 (.val .bool)], junk := [23], tails := [] }, { id := 5009010, known := true, toks := [], items := [], junk := [25, 26, 27, 28], tails := [] }, { id := 5009011, known := false, toks := [], items := [], junk := [25, 26, 27], tails := [] }, { id := 5009012, known := false, toks := [], items := [], junk := [28], tails := [] }, { id := 5009013, known := false, toks := [], items := [.slot 29 (.val (.int .i64))], junk := [], tails := [] }, { id := 900, known := false, toks := [], items := [], junk := [], tails := [] }, { id := 5009014, known := false, toks := [], items := [.slot 30 (.val .bool)], junk := [], tails := [] }, { id := 5009015, known := false, toks := [], items := [], junk := [], tails := [] }, { id := 5009016, known := false, toks := [], items := [.slot 8 (.val (.int .i64))], junk := [31], tails := [] }, { id := 5009017, known := false, toks := [], items := [], junk := [32, 33, 34, 35, 36, 37, 38, 39, 40, 41], tails := [] }, { id := 5009018, known := false, toks := [], items := [.slot 29 (.val (.int .i64))], junk := [42], tails := [] }, { id := 5009019, known := false, toks := [], items := [.slot 3 (.val (.int .i64))], junk := [43, 44, 45, 46], tails := [] }], [])
def sp3_10 : List LSpec × List Nat := ([{ id := 5010000, known := false, toks := [], items := [], junk := [0], tails := [] }, { id := 5010001, known := true, toks := [], items := [.slot 0 (.val .bool)], junk := [1, 2, 3, 4, 5, 6, 7, 8, 9, 10, 11, 12, 13], tails := [] }], [])
def sp3_3 : List LSpec × List Nat := ([{ id := 5003000, known := false, toks := [], items := [], junk := [0], tails := [] }, { id := 5003001, known := false, toks := [], items := [.slot 2 (.val (.int .i64))], junk := [8, 9, 10, 7, 11, 12, 1], tails := [] }, { id := 5003002, known := false, toks := [], items := [.slot 4 (.val (.int .i64))], junk := [14, 15, 16, 13, 17, 18, 3], tails := [] }, { id := 5003003, known := false, toks := [], items := [.slot 6 (.val (.int .i64))], junk := [20, 21, 19, 22, 23, 5], tails := [] }, { id := 5003004, known := true, toks := [], items := [.slot 0 (.val .bool)], junk := [24, 25, 26, 27, 28, 29, 30, 31, 32, 33, 34, 35, 36, 37, 38, 39, 40, 41, 42, 43, 44, 45, 46, 47, 48, 49, 50, 51], tails := [] }], [])
def sp3_25 : List LSpec × List Nat := ([{ id := 5025000, known := false, toks := [], items := [], junk := [2], tails := [] }, { id := 5025001, known := true, toks := [], items := [.slot 2 (.val .bool)], junk := [3, 4, 5, 6, 7, 8, 9, 10, 11, 12, 13, 14, 15], tails := [] }], [])
def sp3_17 : List LSpec × List Nat := ([{ id := 5017000, known := false, toks := [], items := [], junk := [4], tails := [] }, { id := 5017001, known := true, toks := [], items := [.slot 4 (.val .bool)], junk := [5, 6, 7, 8, 9, 10, 11, 12, 13, 14, 15, 16, 17, 18, 19, 20, 21, 22, 23, 24, 25], tails := [] }], [])
def sp3_4 : List LSpec × List Nat := ([{ id := 5004000, known := false, toks := [], items := [], junk := [4], tails := [] }, { id := 5004001, known := true, toks := [], items := [.slot 25 (.val .bool)], junk := [17, 18, 19, 20, 21, 22, 23, 24], tails := [] }, { id := 5004002, known := false, toks := [], items := [], junk := [4], tails := [] }, { id := 5004003, known := false, toks := [], items := [.slot 4 (.val .bool)], junk := [], tails := [] }, { id := 5004004, known := false, toks := [], items := [], junk := [26, 27, 28, 29, 30, 31, 32, 33, 34], tails := [] }, { id := 5004005, known := false, toks := [], items := [], junk := [35, 36, 37], tails := [] }, { id := 5004006, known := false, toks := [], items := [.slot 8 (.val (.int .i64))], junk := [39, 40, 41, 38, 42, 43], tails := [] }, { id := 5004007, known := false, toks := [], items := [.slot 10 (.val (.int .i64))], junk := [45, 46, 47, 44, 48, 49], tails := [] }, { id := 5004008, known := false, toks := [], items := [.slot 12 (.val (.int .i64))], junk := [51, 52, 50, 53, 54], tails := [] }, { id := 5004009, known := false, toks := [], items := [.slot 14 (.val (.int .i64))], junk := [56, 57, 55, 58, 59], tails := [] }, { id := 5004010, known := true, toks := [], items := [.slot 15 (.val .bool)], junk := [60, 61, 62, 63, 64, 65, 66, 67, 68, 69, 70, 71, 72, 73, 74, 75, 76, 77, 78, 79, 80, 81, 82, 83, 84, 85, 86, 87, 88, 89], tails := [] }, { id := 5004011, known := false, toks := [], items := [.slot 16 (.val (.int .i64))], junk := [], tails := [] }, { id := 400, known := false, toks := [], items := [], junk := [], tails := [] }, { id := 5004012, known := false, toks := [], items := [.slot 94 (.val .bool)], junk := [90, 91, 92, 93], tails := [] }, { id := 5004013, known := false, toks := [], items := [], junk := [], tails := [] }, { id := 5004014, known := false, toks := [], items := [], junk := [97, 98, 99, 100, 101, 102, 103, 104, 105, 106], tails := [] }, { id := 5004015, known := false, toks := [], items := [.slot 16 (.val (.int .i64))], junk := [95, 96], tails := [] }, { id := 5004016, known := true, toks := [], items := [.slot 4 (.val .bool)], junk := [107, 108, 109, 110, 111, 112, 113, 114, 115, 116, 117, 118, 119], tails := [] }], [])
def sp3_5 : List LSpec × List Nat := ([{ id := 5005000, known := false, toks := [], items := [], junk := [6], tails := [] }, { id := 5005001, known := true, toks := [], items := [.slot 23 (.val .bool)], junk := [11, 12, 13, 14, 15, 16, 17, 18, 19, 20, 21, 22], tails := [] }, { id := 5005002, known := false, toks := [], items := [], junk := [6], tails := [] }, { id := 5005003, known := false, toks := [], items := [.slot 6 (.val .bool)], junk := [], tails := [] }, { id := 5005004, known := false, toks := [], items := [], junk := [24, 25, 26, 27, 28, 29, 30, 31, 32], tails := [] }, { id := 5005005, known := false, toks := [], items := [], junk := [33, 34, 35, 36, 37], tails := [] }, { id := 5005006, known := true, toks := [], items := [.slot 6 (.val .bool)], junk := [38, 39, 40, 41, 42, 43, 44, 45, 46, 47, 48, 49, 50, 51, 52, 53, 54, 55, 56, 57, 58, 59, 60, 61, 62, 63, 64, 65, 66], tails := [] }], [])
def sp3_6 : List LSpec × List Nat := ([{ id := 5006000, known := false, toks := [], items := [], junk := [6], tails := [] }, { id := 5006001, known := false, toks := [], items := [.slot 7 (.val .bool)], junk := [18], tails := [] }, { id := 5006002, known := true, toks := [], items := [.slot 36 (.val .bool)], junk := [19, 20, 21, 22, 23, 24, 25, 26, 27, 28, 29, 30, 31, 32, 33, 34, 35], tails := [] }, { id := 5006003, known := false, toks := [], items := [], junk := [37, 6], tails := [] }, { id := 5006004, known := false, toks := [], items := [.slot 6 (.val .bool)], junk := [37], tails := [] }, { id := 5006005, known := false, toks := [], items := [.slot 9 (.val (.int .i64))], junk := [39, 40, 41, 38, 42, 43], tails := [] }, { id := 5006006, known := false, toks := [], items := [.slot 11 (.val (.int .i64))], junk := [45, 46, 47, 44, 48, 49], tails := [] }, { id := 5006007, known := false, toks := [], items := [.slot 13 (.val (.int .i64))], junk := [51, 52, 53, 54, 55, 56, 57, 50, 58, 59], tails := [] }, { id := 5006008, known := true, toks := [], items := [.slot 65 (.val .bool)], junk := [60, 61, 62, 63, 64], tails := [] }, { id := 5006009, known := false, toks := [], items := [], junk := [66, 67, 68, 69, 70, 71, 72, 73, 74, 75, 76, 77, 78, 79, 80, 81, 82, 83, 84, 6], tails := [] }, { id := 5006010, known := true, toks := [], items := [.slot 6 (.val .bool)], junk := [66, 67, 68, 69, 70, 71, 72, 73, 74, 75, 76, 77, 78, 79, 80, 81, 82, 83, 84], tails := [] }, { id := 5006011, known := false, toks := [], items := [.slot 15 (.val (.int .i64))], junk := [86, 87, 85, 88, 89], tails := [] }, { id := 5006012, known := false, toks := [], items := [.slot 17 (.val (.int .i64))], junk := [91, 92, 90, 93, 94], tails := [] }, { id := 5006013, known := true, toks := [], items := [.slot 6 (.val .bool)], junk := [95, 96, 97, 98, 99, 100, 101, 102, 103, 104, 105, 106, 107, 108, 109, 110, 111, 112, 113, 114, 115, 116, 117, 118, 119, 120, 121, 122, 123, 124, 125, 126, 127, 128, 129, 130, 131, 132, 133, 134, 135, 136, 137, 138, 139, 140], tails := [] }], [])
def sp3_7 : List LSpec × List Nat := ([{ id := 5007000, known := false, toks := [], items := [], junk := [4], tails := [] }, { id := 5007001, known := false, toks := [], items := [.slot 5 (.val .bool)], junk := [12], tails := [] }, { id := 5007002, known := true, toks := [], items := [.slot 24 (.val .bool)], junk := [13, 14, 15, 16, 17, 18, 19, 20, 21, 22, 23], tails := [] }, { id := 5007003, known := false, toks := [], items := [], junk := [25, 4], tails := [] }, { id := 5007004, known := false, toks := [], items := [.slot 4 (.val .bool)], junk := [25], tails := [] }, { id := 5007005, known := false, toks := [], items := [.slot 7 (.val (.int .i64))], junk := [27, 28, 29, 26, 30, 31], tails := [] }, { id := 5007006, known := false, toks := [], items := [.slot 9 (.val (.int .i64))], junk := [33, 34, 35, 32, 36, 37], tails := [] }, { id := 5007007, known := false, toks := [], items := [.slot 11 (.val (.int .i64))], junk := [39, 40, 38, 41, 42], tails := [] }, { id := 5007008, known := true, toks := [], items := [.slot 4 (.val .bool)], junk := [43, 44, 45, 46, 47, 48, 49, 50, 51, 52, 53, 54, 55, 56, 57, 58, 59, 60, 61, 62, 63, 64, 65, 66, 67, 68, 69, 70, 71, 72, 73, 74, 75, 76, 77, 78, 79, 80, 81, 82, 83, 84, 85], tails := [] }], [])
def spt3 : Tab (List LSpec × List Nat) := (.node (.node (.node (.node (.node (.node .leaf (some sp3_31) .leaf) none .leaf) (some sp3_7) .leaf) (some sp3_3) .leaf) none (.node (.node (.node .leaf (some sp3_17) .leaf) (some sp3_9) (.node .leaf (some sp3_25) .leaf)) (some sp3_5) (.node .leaf (some sp3_13) .leaf))) none (.node (.node .leaf (some sp3_4) (.node .leaf none (.node .leaf (some sp3_28) .leaf))) none (.node (.node .leaf (some sp3_10) .leaf) (some sp3_6) .leaf)))
def spf3 (f : Nat) : List LSpec × List Nat := (spt3.get f).getD ([], [])
theorem pd_law02_ShaNames : PureD Tryd.prog cfg 3 p_law02_ShaNames := fnD spf3 (l := [(8, p_sha_More), (9, p_sha_End), (10, p_law02_alive), (12, p_sha_Of), (11, p_law02_hex), (14, p_sha_Begin), (13, p_sha_Check)]) cfgOk cfgGlob (.cons pd_sha_More (.cons pd_sha_End (.cons pd_law02_alive (.cons pd_sha_Of (.cons pd_law02_hex (.cons pd_sha_Begin (.cons pd_sha_Check .nil))))))) (fun d => by kernel_rfl)

/-- thimblerig/thimblerigref02.May -/
noncomputable def ref02_May (d0 : (List (Int)) × ((List (Int)) × ((Int) × (Unit)))) : Option (Bool) :=
 (bif (Dat.ilt d0.2.2.1 72057594037927936) then Dat.bnd (Dat.wrap .u64 (Dat.ofN (Dat.len d0.2.1))) fun (x1 : Int) =>
 if (Dat.IsZ 64) then none
 else Dat.bnd (Dat.tmod d0.2.2.1 64) fun (x4 : Int) =>
 some (Dat.pickB true (Dat.ieq x1 x4) false)
 else some false)
noncomputable def p_ref02_May : PFn := { args := [(.pair (.arr 8 (.int .u32)) (.pair (.list (.int .u8)) (.pair (.int .u64) .unit)))], res := [.bool], fn := ref02_May }
theorem pd_ref02_May : PureD Tryd.prog cfg 25 p_ref02_May := fnD sp0 (l := []) cfgOk cfgGlob .nil (fun d => by kernel_rfl)

/-- thimblerig/thimblerigref02.table -/
noncomputable def ref02_table (d0 : Unit) : Option (List (Int)) :=
 if (Dat.EqN (Dat.len (Dat.rep 64 0)) (Dat.len (1116352408 :: (1899447441 :: (3049323471 :: (3921009573 :: (961987163 :: (1508970993 :: (2453635748 :: (2870763221 :: (3624381080 :: (310598401 :: (607225278 :: (1426881987 :: (1925078388 :: (2162078206 :: (2614888103 :: (3248222580 :: (3835390401 :: (4022224774 :: (264347078 :: (604807628 :: (770255983 :: (1249150122 :: (1555081692 :: (1996064986 :: (2554220882 :: (2821834349 :: (2952996808 :: (3210313671 :: (3336571891 :: (3584528711 :: (113926993 :: (338241895 :: (666307205 :: (773529912 :: (1294757372 :: (1396182291 :: (1695183700 :: (1986661051 :: (2177026350 :: (2456956037 :: (2730485921 :: (2820302411 :: (3259730800 :: (3345764771 :: (3516065817 :: (3600352804 :: (4094571909 :: (275423344 :: (430227734 :: (506948616 :: (659060556 :: (883997877 :: (958139571 :: (1322822218 :: (1537002063 :: (1747873779 :: (1955562222 :: (2024104815 :: (2227730452 :: (2361852424 :: (2428436474 :: (2756734187 :: (3204031479 :: (3329325298 :: ([] : List (Int)))))))))))))))))))))))))))))))))))))))))))))))))))))))))))))))))))) then if (Dat.EqN (Dat.len (1116352408 :: (1899447441 :: (3049323471 :: (3921009573 :: (961987163 :: (1508970993 :: (2453635748 :: (2870763221 :: (3624381080 :: (310598401 :: (607225278 :: (1426881987 :: (1925078388 :: (2162078206 :: (2614888103 :: (3248222580 :: (3835390401 :: (4022224774 :: (264347078 :: (604807628 :: (770255983 :: (1249150122 :: (1555081692 :: (1996064986 :: (2554220882 :: (2821834349 :: (2952996808 :: (3210313671 :: (3336571891 :: (3584528711 :: (113926993 :: (338241895 :: (666307205 :: (773529912 :: (1294757372 :: (1396182291 :: (1695183700 :: (1986661051 :: (2177026350 :: (2456956037 :: (2730485921 :: (2820302411 :: (3259730800 :: (3345764771 :: (3516065817 :: (3600352804 :: (4094571909 :: (275423344 :: (430227734 :: (506948616 :: (659060556 :: (883997877 :: (958139571 :: (1322822218 :: (1537002063 :: (1747873779 :: (1955562222 :: (2024104815 :: (2227730452 :: (2361852424 :: (2428436474 :: (2756734187 :: (3204031479 :: (3329325298 :: ([] : List (Int))))))))))))))))))))))))))))))))))))))))))))))))))))))))))))))))))) 64) then some (1116352408 :: (1899447441 :: (3049323471 :: (3921009573 :: (961987163 :: (1508970993 :: (2453635748 :: (2870763221 :: (3624381080 :: (310598401 :: (607225278 :: (1426881987 :: (1925078388 :: (2162078206 :: (2614888103 :: (3248222580 :: (3835390401 :: (4022224774 :: (264347078 :: (604807628 :: (770255983 :: (1249150122 :: (1555081692 :: (1996064986 :: (2554220882 :: (2821834349 :: (2952996808 :: (3210313671 :: (3336571891 :: (3584528711 :: (113926993 :: (338241895 :: (666307205 :: (773529912 :: (1294757372 :: (1396182291 :: (1695183700 :: (1986661051 :: (2177026350 :: (2456956037 :: (2730485921 :: (2820302411 :: (3259730800 :: (3345764771 :: (3516065817 :: (3600352804 :: (4094571909 :: (275423344 :: (430227734 :: (506948616 :: (659060556 :: (883997877 :: (958139571 :: (1322822218 :: (1537002063 :: (1747873779 :: (1955562222 :: (2024104815 :: (2227730452 :: (2361852424 :: (2428436474 :: (2756734187 :: (3204031479 :: (3329325298 :: ([] : List (Int))))))))))))))))))))))))))))))))))))))))))))))))))))))))))))))))))
 else none
 else none
noncomputable def p_ref02_table : PFn := { args := [], res := [(.arr 64 (.int .u32))], fn := ref02_table }
theorem pd_ref02_table : PureD Tryd.prog cfg 32 p_ref02_table := fnD sp0 (l := []) cfgOk cfgGlob .nil (fun d => by kernel_rfl)

/-- thimblerig/thimblerigref02.turned -/
noncomputable def ref02_turned (d0 : (Int) × (Int)) : Option (Int) :=
 if (Dat.Neg d0.2) then none
 else Dat.bnd (Dat.shr .u32 d0.1 d0.2) fun (x3 : Int) =>
 Dat.bnd (Dat.wrap .u32 (Dat.sub 32 d0.2)) fun (x4 : Int) =>
 if (Dat.Neg x4) then none
 else Dat.bnd (Dat.shl .u32 d0.1 x4) fun (x7 : Int) =>
 Dat.bnd (Dat.bor .u32 x3 x7) fun (x8 : Int) =>
 some x8
noncomputable def p_ref02_turned : PFn := { args := [(.int .u32), (.int .u32)], res := [(.int .u32)], fn := ref02_turned }
theorem pd_ref02_turned : PureD Tryd.prog cfg 34 p_ref02_turned := fnD sp0 (l := []) cfgOk cfgGlob .nil (fun d => by kernel_rfl)

/-- thimblerig/thimblerigref02.words -/
noncomputable def ref02_words (d0 : List (Int)) : Option (List (Int)) :=
 Dat.loop (fun (s1 : (Int) × (List (Int))) k2 =>
 (bif (Dat.ilt s1.1 16) then Dat.bnd (Dat.wrap .i64 (Dat.mul 4 s1.1)) fun (x3 : Int) =>
 if (Dat.Ix x3 (Dat.len d0)) then Dat.bnd (Dat.get d0 (Dat.toN x3) 0) fun (x6 : Int) =>
 Dat.bnd (Dat.wrap .u32 x6) fun (x7 : Int) =>
 if (Dat.Neg 24) then none
 else Dat.bnd (Dat.shl .u32 x7 24) fun (x10 : Int) =>
 Dat.bnd (Dat.wrap .i64 (Dat.mul 4 s1.1)) fun (x11 : Int) =>
 Dat.bnd (Dat.wrap .i64 (Dat.add x11 1)) fun (x12 : Int) =>
 if (Dat.Ix x12 (Dat.len d0)) then Dat.bnd (Dat.get d0 (Dat.toN x12) 0) fun (x15 : Int) =>
 Dat.bnd (Dat.wrap .u32 x15) fun (x16 : Int) =>
 if (Dat.Neg 16) then none
 else Dat.bnd (Dat.shl .u32 x16 16) fun (x19 : Int) =>
 Dat.bnd (Dat.bor .u32 x10 x19) fun (x20 : Int) =>
 Dat.bnd (Dat.wrap .i64 (Dat.mul 4 s1.1)) fun (x21 : Int) =>
 Dat.bnd (Dat.wrap .i64 (Dat.add x21 2)) fun (x22 : Int) =>
 if (Dat.Ix x22 (Dat.len d0)) then Dat.bnd (Dat.get d0 (Dat.toN x22) 0) fun (x25 : Int) =>
 Dat.bnd (Dat.wrap .u32 x25) fun (x26 : Int) =>
 if (Dat.Neg 8) then none
 else Dat.bnd (Dat.shl .u32 x26 8) fun (x29 : Int) =>
 Dat.bnd (Dat.bor .u32 x20 x29) fun (x30 : Int) =>
 Dat.bnd (Dat.wrap .i64 (Dat.mul 4 s1.1)) fun (x31 : Int) =>
 Dat.bnd (Dat.wrap .i64 (Dat.add x31 3)) fun (x32 : Int) =>
 if (Dat.Ix x32 (Dat.len d0)) then Dat.bnd (Dat.get d0 (Dat.toN x32) 0) fun (x35 : Int) =>
 Dat.bnd (Dat.wrap .u32 x35) fun (x36 : Int) =>
 Dat.bnd (Dat.bor .u32 x30 x36) fun (x37 : Int) =>
 if (Dat.In s1.1 64) then if (Dat.Lt (Dat.toN s1.1) (Dat.len s1.2)) then Dat.bnd (Dat.set s1.2 (Dat.toN s1.1) x37) fun (x42 : List (Int)) =>
 Dat.bnd (Dat.wrap .i64 (Dat.add s1.1 1)) fun (x43 : Int) =>
 k2 (x43, x42)
 else none
 else none
 else none
 else none
 else none
 else none
 else Dat.loop (fun (s44 : (Int) × (List (Int))) k45 =>
 (bif (Dat.ilt s44.1 64) then Dat.bnd (Dat.wrap .i64 (Dat.sub s44.1 15)) fun (x46 : Int) =>
 if (Dat.In x46 64) then if (Dat.Lt (Dat.toN x46) (Dat.len s44.2)) then Dat.bnd (Dat.get s44.2 (Dat.toN x46) 0) fun (x51 : Int) =>
 Dat.bnd (Dat.wrap .i64 (Dat.sub s44.1 2)) fun (x52 : Int) =>
 if (Dat.In x52 64) then if (Dat.Lt (Dat.toN x52) (Dat.len s44.2)) then Dat.bnd (Dat.get s44.2 (Dat.toN x52) 0) fun (x57 : Int) =>
 Dat.bind (ref02_turned (x51, 7)) fun (x58 : Int) =>
 Dat.bind (ref02_turned (x51, 18)) fun (x59 : Int) =>
 Dat.bnd (Dat.bxor .u32 x58 x59) fun (x60 : Int) =>
 if (Dat.Neg 3) then none
 else Dat.bnd (Dat.shr .u32 x51 3) fun (x63 : Int) =>
 Dat.bnd (Dat.bxor .u32 x60 x63) fun (x64 : Int) =>
 Dat.bind (ref02_turned (x57, 17)) fun (x65 : Int) =>
 Dat.bind (ref02_turned (x57, 19)) fun (x66 : Int) =>
 Dat.bnd (Dat.bxor .u32 x65 x66) fun (x67 : Int) =>
 if (Dat.Neg 10) then none
 else Dat.bnd (Dat.shr .u32 x57 10) fun (x70 : Int) =>
 Dat.bnd (Dat.bxor .u32 x67 x70) fun (x71 : Int) =>
 Dat.bnd (Dat.wrap .i64 (Dat.sub s44.1 16)) fun (x72 : Int) =>
 if (Dat.In x72 64) then if (Dat.Lt (Dat.toN x72) (Dat.len s44.2)) then Dat.bnd (Dat.get s44.2 (Dat.toN x72) 0) fun (x77 : Int) =>
 Dat.bnd (Dat.wrap .i64 (Dat.sub s44.1 7)) fun (x78 : Int) =>
 if (Dat.In x78 64) then if (Dat.Lt (Dat.toN x78) (Dat.len s44.2)) then Dat.bnd (Dat.get s44.2 (Dat.toN x78) 0) fun (x83 : Int) =>
 Dat.bnd (Dat.wrap .u32 (Dat.add x77 x83)) fun (x84 : Int) =>
 Dat.bnd (Dat.wrap .u32 (Dat.add x84 x64)) fun (x85 : Int) =>
 Dat.bnd (Dat.wrap .u32 (Dat.add x85 x71)) fun (x86 : Int) =>
 if (Dat.In s44.1 64) then if (Dat.Lt (Dat.toN s44.1) (Dat.len s44.2)) then Dat.bnd (Dat.set s44.2 (Dat.toN s44.1) x86) fun (x91 : List (Int)) =>
 Dat.bnd (Dat.wrap .i64 (Dat.add s44.1 1)) fun (x92 : Int) =>
 k45 (x92, x91)
 else none
 else none
 else none
 else none
 else none
 else none
 else none
 else none
 else none
 else none
 else if (Dat.EqN (Dat.len s44.2) 64) then if (Dat.EqN (Dat.len (Dat.rep 64 0)) 64) then if (Dat.EqN (Dat.len (Dat.norm 64 s44.2 0)) 64) then some (Dat.norm 64 s44.2 0)
 else none
 else none
 else none)) (16, s1.2))) (0, (Dat.rep 64 0))
noncomputable def p_ref02_words : PFn := { args := [(.list (.int .u8))], res := [(.arr 64 (.int .u32))], fn := ref02_words }
def sp33_33 : List LSpec × List Nat := ([{ id := 3300, known := true, toks := [], items := [.slot 4 (.val (.int .i64)), .vec 1000003 (.int .u32)], junk := [10, 11, 14, 15, 16, 17, 18, 19, 20, 21, 22, 23, 24, 25, 26, 27, 28, 29, 30, 31, 32, 33, 34, 35, 36, 37, 38, 39, 40, 41, 42, 43, 44, 45, 46, 47, 48, 12, 13], tails := [] }, { id := 3301, known := true, toks := [], items := [.slot 5 (.val (.int .i64)), .vec 1000003 (.int .u32)], junk := [49, 50, 53, 54, 55, 56, 6, 57, 58, 59, 60, 7, 61, 62, 63, 64, 65, 66, 67, 68, 8, 69, 70, 71, 72, 73, 74, 75, 76, 9, 77, 78, 79, 80, 81, 82, 83, 84, 85, 86, 87, 88, 89, 90, 91, 51, 52], tails := [] }], [])
def spt33 : Tab (List LSpec × List Nat) := (.node (.node .leaf none (.node (.node (.node (.node .leaf (some sp33_33) .leaf) none .leaf) none .leaf) none .leaf)) none .leaf)
def spf33 (f : Nat) : List LSpec × List Nat := (spt33.get f).getD ([], [])
theorem pd_ref02_words : PureD Tryd.prog cfg 33 p_ref02_words := fnD spf33 (l := [(34, p_ref02_turned)]) cfgOk cfgGlob (.cons pd_ref02_turned .nil) (fun d => by kernel_rfl)

/-- thimblerig/thimblerigref02.Turn -/
noncomputable def ref02_Turn (d0 : (List (Int)) × (List (Int))) : Option (List (Int)) :=
 Dat.bind (ref02_table ()) fun (x1 : List (Int)) =>
 if (Dat.EqN (Dat.len (Dat.rep 64 0)) 64) then Dat.bind (ref02_words d0.2) fun (x4 : List (Int)) =>
 if (Dat.EqN (Dat.len (Dat.rep 64 0)) 64) then if (Dat.EqN (Dat.len (Dat.norm 8 d0.1 0)) 8) then if (Dat.EqN (Dat.len (Dat.rep 8 0)) 8) then Dat.loop (fun (s11 : (Int) × (List (Int))) k12 =>
 (bif (Dat.ilt s11.1 64) then if (Dat.In 4 8) then if (Dat.Lt (Dat.toN 4) (Dat.len s11.2)) then Dat.bnd (Dat.get s11.2 (Dat.toN 4) 0) fun (x17 : Int) =>
 if (Dat.In 5 8) then if (Dat.Lt (Dat.toN 5) (Dat.len s11.2)) then Dat.bnd (Dat.get s11.2 (Dat.toN 5) 0) fun (x22 : Int) =>
 Dat.bnd (Dat.band .u32 x17 x22) fun (x23 : Int) =>
 Dat.bnd (Dat.bxor .u32 x17 4294967295) fun (x24 : Int) =>
 if (Dat.In 6 8) then if (Dat.Lt (Dat.toN 6) (Dat.len s11.2)) then Dat.bnd (Dat.get s11.2 (Dat.toN 6) 0) fun (x29 : Int) =>
 Dat.bnd (Dat.band .u32 x24 x29) fun (x30 : Int) =>
 Dat.bnd (Dat.bxor .u32 x23 x30) fun (x31 : Int) =>
 if (Dat.In 7 8) then if (Dat.Lt (Dat.toN 7) (Dat.len s11.2)) then Dat.bnd (Dat.get s11.2 (Dat.toN 7) 0) fun (x36 : Int) =>
 if (Dat.In s11.1 64) then if (Dat.Lt (Dat.toN s11.1) (Dat.len (Dat.norm 64 x1 0))) then Dat.bnd (Dat.get (Dat.norm 64 x1 0) (Dat.toN s11.1) 0) fun (x41 : Int) =>
 if (Dat.In s11.1 64) then if (Dat.Lt (Dat.toN s11.1) (Dat.len (Dat.norm 64 x4 0))) then Dat.bnd (Dat.get (Dat.norm 64 x4 0) (Dat.toN s11.1) 0) fun (x46 : Int) =>
 Dat.bind (ref02_turned (x17, 6)) fun (x47 : Int) =>
 Dat.bind (ref02_turned (x17, 11)) fun (x48 : Int) =>
 Dat.bnd (Dat.bxor .u32 x47 x48) fun (x49 : Int) =>
 Dat.bind (ref02_turned (x17, 25)) fun (x50 : Int) =>
 Dat.bnd (Dat.bxor .u32 x49 x50) fun (x51 : Int) =>
 Dat.bnd (Dat.wrap .u32 (Dat.add x36 x51)) fun (x52 : Int) =>
 Dat.bnd (Dat.wrap .u32 (Dat.add x52 x31)) fun (x53 : Int) =>
 Dat.bnd (Dat.wrap .u32 (Dat.add x53 x41)) fun (x54 : Int) =>
 Dat.bnd (Dat.wrap .u32 (Dat.add x54 x46)) fun (x55 : Int) =>
 if (Dat.In 0 8) then if (Dat.Lt (Dat.toN 0) (Dat.len s11.2)) then Dat.bnd (Dat.get s11.2 (Dat.toN 0) 0) fun (x60 : Int) =>
 if (Dat.In 1 8) then if (Dat.Lt (Dat.toN 1) (Dat.len s11.2)) then Dat.bnd (Dat.get s11.2 (Dat.toN 1) 0) fun (x65 : Int) =>
 Dat.bnd (Dat.band .u32 x60 x65) fun (x66 : Int) =>
 if (Dat.In 2 8) then if (Dat.Lt (Dat.toN 2) (Dat.len s11.2)) then Dat.bnd (Dat.get s11.2 (Dat.toN 2) 0) fun (x71 : Int) =>
 Dat.bnd (Dat.band .u32 x60 x71) fun (x72 : Int) =>
 Dat.bnd (Dat.bxor .u32 x66 x72) fun (x73 : Int) =>
 if (Dat.In 1 8) then if (Dat.Lt (Dat.toN 1) (Dat.len s11.2)) then Dat.bnd (Dat.get s11.2 (Dat.toN 1) 0) fun (x78 : Int) =>
 if (Dat.In 2 8) then if (Dat.Lt (Dat.toN 2) (Dat.len s11.2)) then Dat.bnd (Dat.get s11.2 (Dat.toN 2) 0) fun (x83 : Int) =>
 Dat.bnd (Dat.band .u32 x78 x83) fun (x84 : Int) =>
 Dat.bnd (Dat.bxor .u32 x73 x84) fun (x85 : Int) =>
 Dat.bind (ref02_turned (x60, 2)) fun (x86 : Int) =>
 Dat.bind (ref02_turned (x60, 13)) fun (x87 : Int) =>
 Dat.bnd (Dat.bxor .u32 x86 x87) fun (x88 : Int) =>
 Dat.bind (ref02_turned (x60, 22)) fun (x89 : Int) =>
 Dat.bnd (Dat.bxor .u32 x88 x89) fun (x90 : Int) =>
 Dat.bnd (Dat.wrap .u32 (Dat.add x90 x85)) fun (x91 : Int) =>
 Dat.bnd (Dat.wrap .u32 (Dat.add x55 x91)) fun (x92 : Int) =>
 if (Dat.In 0 8) then if (Dat.Lt (Dat.toN 0) (Dat.len s11.2)) then Dat.bnd (Dat.get s11.2 (Dat.toN 0) 0) fun (x97 : Int) =>
 if (Dat.In 1 8) then if (Dat.Lt (Dat.toN 1) (Dat.len s11.2)) then Dat.bnd (Dat.get s11.2 (Dat.toN 1) 0) fun (x102 : Int) =>
 if (Dat.In 2 8) then if (Dat.Lt (Dat.toN 2) (Dat.len s11.2)) then Dat.bnd (Dat.get s11.2 (Dat.toN 2) 0) fun (x107 : Int) =>
 if (Dat.In 3 8) then if (Dat.Lt (Dat.toN 3) (Dat.len s11.2)) then Dat.bnd (Dat.get s11.2 (Dat.toN 3) 0) fun (x112 : Int) =>
 Dat.bnd (Dat.wrap .u32 (Dat.add x112 x55)) fun (x113 : Int) =>
 if (Dat.In 4 8) then if (Dat.Lt (Dat.toN 4) (Dat.len s11.2)) then Dat.bnd (Dat.get s11.2 (Dat.toN 4) 0) fun (x118 : Int) =>
 if (Dat.In 5 8) then if (Dat.Lt (Dat.toN 5) (Dat.len s11.2)) then Dat.bnd (Dat.get s11.2 (Dat.toN 5) 0) fun (x123 : Int) =>
 if (Dat.In 6 8) then if (Dat.Lt (Dat.toN 6) (Dat.len s11.2)) then Dat.bnd (Dat.get s11.2 (Dat.toN 6) 0) fun (x128 : Int) =>
 if (Dat.EqN (Dat.len s11.2) (Dat.len (x92 :: (x97 :: (x102 :: (x107 :: (x113 :: (x118 :: (x123 :: (x128 :: ([] : List (Int)))))))))))) then Dat.bnd (Dat.wrap .i64 (Dat.add s11.1 1)) fun (x131 : Int) =>
 k12 (x131, (x92 :: (x97 :: (x102 :: (x107 :: (x113 :: (x118 :: (x123 :: (x128 :: ([] : List (Int)))))))))))
 else none
 else none
 else none
 else none
 else none
 else none
 else none
 else none
 else none
 else none
 else none
 else none
 else none
 else none
 else none
 else none
 else none
 else none
 else none
 else none
 else none
 else none
 else none
 else none
 else none
 else none
 else none
 else none
 else none
 else none
 else none
 else none
 else none
 else none
 else none
 else none
 else none
 else Dat.loop (fun (s132 : (Int) × (List (Int))) k133 =>
 (bif (Dat.ilt s132.1 8) then if (Dat.In s132.1 8) then if (Dat.Lt (Dat.toN s132.1) (Dat.len s132.2)) then Dat.bnd (Dat.get s132.2 (Dat.toN s132.1) 0) fun (x138 : Int) =>
 if (Dat.In s132.1 8) then if (Dat.Lt (Dat.toN s132.1) (Dat.len s11.2)) then Dat.bnd (Dat.get s11.2 (Dat.toN s132.1) 0) fun (x143 : Int) =>
 Dat.bnd (Dat.wrap .u32 (Dat.add x138 x143)) fun (x144 : Int) =>
 if (Dat.In s132.1 8) then if (Dat.Lt (Dat.toN s132.1) (Dat.len s132.2)) then Dat.bnd (Dat.set s132.2 (Dat.toN s132.1) x144) fun (x149 : List (Int)) =>
 Dat.bnd (Dat.wrap .i64 (Dat.add s132.1 1)) fun (x150 : Int) =>
 k133 (x150, x149)
 else none
 else none
 else none
 else none
 else none
 else none
 else if (Dat.EqN (Dat.len s132.2) 8) then if (Dat.EqN (Dat.len (Dat.rep 8 0)) 8) then if (Dat.EqN (Dat.len (Dat.norm 8 s132.2 0)) 8) then some (Dat.norm 8 s132.2 0)
 else none
 else none
 else none)) (0, (Dat.norm 8 d0.1 0)))) (0, (Dat.norm 8 (Dat.norm 8 d0.1 0) 0))
 else none
 else none
 else none
 else none
noncomputable def p_ref02_Turn : PFn := { args := [(.arr 8 (.int .u32)), (.list (.int .u8))], res := [(.arr 8 (.int .u32))], fn := ref02_Turn }
def sp30_30 : List LSpec × List Nat := ([{ id := 3000, known := true, toks := [], items := [.slot 8 (.val (.int .i64)), .vec 1000007 (.int .u32)], junk := [20, 21, 24, 25, 9, 26, 27, 28, 29, 30, 31, 32, 33, 34, 35, 10, 36, 37, 38, 39, 40, 41, 42, 43, 44, 45, 46, 47, 48, 49, 50, 51, 52, 53, 54, 55, 56, 11, 57, 58, 12, 59, 60, 61, 62, 63, 64, 65, 66, 67, 68, 69, 70, 71, 72, 73, 13, 74, 75, 76, 77, 78, 79, 80, 81, 82, 83, 14, 84, 85, 86, 87, 88, 89, 90, 91, 92, 93, 94, 95, 96, 97, 98, 99, 100, 101, 102, 103, 22, 23], tails := [] }, { id := 3001, known := true, toks := [], items := [.slot 15 (.val (.int .i64)), .vec 1000002 (.int .u32)], junk := [104, 105, 108, 109, 110, 111, 112, 113, 114, 115, 116, 106, 107], tails := [] }], [])
def spt30 : Tab (List LSpec × List Nat) := (.node .leaf none (.node .leaf none (.node .leaf none (.node .leaf none (.node .leaf (some sp30_30) .leaf)))))
def spf30 (f : Nat) : List LSpec × List Nat := (spt30.get f).getD ([], [])
theorem pd_ref02_Turn : PureD Tryd.prog cfg 30 p_ref02_Turn := fnD spf30 (l := [(32, p_ref02_table), (33, p_ref02_words), (34, p_ref02_turned)]) cfgOk cfgGlob (.cons pd_ref02_table (.cons pd_ref02_words (.cons pd_ref02_turned .nil))) (fun d => by kernel_rfl)

/-- thimblerig/thimblerigref02.Came -/
noncomputable def ref02_Came (d0 : ((List (Int)) × ((List (Int)) × ((Int) × (Unit)))) × (List (Int))) : Option ((List (Int)) × ((List (Int)) × ((Int) × (Unit)))) :=
 if (Dat.Le (Dat.addN 0 0) (Dat.len ([] : List (Int)))) then if (Dat.Big (Dat.len (Dat.seg ([] : List (Int)) 0 0)) (Dat.len d0.1.2.1) 1) then none
 else Dat.bnd (Dat.app (Dat.seg ([] : List (Int)) 0 0) d0.1.2.1) fun (x5 : List (Int)) =>
 if (Dat.Big (Dat.len x5) (Dat.len d0.2) 1) then none
 else if (Dat.EqN (Dat.len x5) (Dat.len x5)) then Dat.bnd (Dat.app x5 d0.2) fun (x10 : List (Int)) =>
 Dat.loop (fun (s11 : (List (Int)) × ((Int) × ((Int) × ((Int) × ((Int) × ((Int) × ((Int) × ((Int) × ((Int) × ((List (Int)) × (Int))))))))))) k12 =>
 (bif (Dat.ige (Dat.ofN (Dat.len s11.1)) 64) then if (Dat.Bd 64 (Dat.len s11.1)) then Dat.bnd (Dat.slice s11.1 0 (Dat.toN 64)) fun (x15 : List (Int)) =>
 Dat.bind (ref02_Turn ((s11.2.1 :: (s11.2.2.1 :: (s11.2.2.2.1 :: (s11.2.2.2.2.1 :: (s11.2.2.2.2.2.1 :: (s11.2.2.2.2.2.2.1 :: (s11.2.2.2.2.2.2.2.1 :: (s11.2.2.2.2.2.2.2.2.1 :: ([] : List (Int)))))))))), x15)) fun (x16 : List (Int)) =>
 if (Dat.Bd 64 (Dat.len s11.1)) then Dat.bnd (Dat.slice s11.1 (Dat.toN 64) (Dat.len s11.1)) fun (x19 : List (Int)) =>
 k12 (x19, ((Dat.get x16 0 0), ((Dat.get x16 1 0), ((Dat.get x16 2 0), ((Dat.get x16 3 0), ((Dat.get x16 4 0), ((Dat.get x16 5 0), ((Dat.get x16 6 0), ((Dat.get x16 7 0), (s11.2.2.2.2.2.2.2.2.2.1, s11.2.2.2.2.2.2.2.2.2.2))))))))))
 else none
 else none
 else Dat.bnd (Dat.wrap .u64 (Dat.ofN (Dat.len d0.2))) fun (x20 : Int) =>
 Dat.bnd (Dat.wrap .u64 (Dat.add s11.2.2.2.2.2.2.2.2.2.2 x20)) fun (x21 : Int) =>
 some ((s11.2.1 :: (s11.2.2.1 :: (s11.2.2.2.1 :: (s11.2.2.2.2.1 :: (s11.2.2.2.2.2.1 :: (s11.2.2.2.2.2.2.1 :: (s11.2.2.2.2.2.2.2.1 :: (s11.2.2.2.2.2.2.2.2.1 :: ([] : List (Int)))))))))), (s11.1, (x21, ()))))) (x10, ((Dat.get d0.1.1 0 0), ((Dat.get d0.1.1 1 0), ((Dat.get d0.1.1 2 0), ((Dat.get d0.1.1 3 0), ((Dat.get d0.1.1 4 0), ((Dat.get d0.1.1 5 0), ((Dat.get d0.1.1 6 0), ((Dat.get d0.1.1 7 0), (d0.1.2.1, d0.1.2.2.1))))))))))
 else none
 else none
noncomputable def p_ref02_Came : PFn := { args := [(.pair (.arr 8 (.int .u32)) (.pair (.list (.int .u8)) (.pair (.int .u64) .unit))), (.list (.int .u8))], res := [(.pair (.arr 8 (.int .u32)) (.pair (.list (.int .u8)) (.pair (.int .u64) .unit)))], fn := ref02_Came }
def sp26_26 : List LSpec × List Nat := ([{ id := 2600, known := true, toks := [], items := [.slot 5 (.val (.list (.int .u8))), .cells 1000002 [.val (.int .u32), .val (.int .u32), .val (.int .u32), .val (.int .u32), .val (.int .u32), .val (.int .u32), .val (.int .u32), .val (.int .u32), .val (.list (.int .u8)), .val (.int .u64)]], junk := [12, 13, 14, 15, 16, 17, 18, 19, 20, 21, 22], tails := [] }], [])
def spt26 : Tab (List LSpec × List Nat) := (.node .leaf none (.node .leaf none (.node (.node .leaf none (.node .leaf (some sp26_26) .leaf)) none .leaf)))
def spf26 (f : Nat) : List LSpec × List Nat := (spt26.get f).getD ([], [])
theorem pd_ref02_Came : PureD Tryd.prog cfg 26 p_ref02_Came := fnD spf26 (l := [(30, p_ref02_Turn)]) cfgOk cfgGlob (.cons pd_ref02_Turn .nil) (fun d => by kernel_rfl)

/-- thimblerig/thimblerigref02.More -/
noncomputable def ref02_More (d0 : ((List (Int)) × ((List (Int)) × ((Int) × (Unit)))) × (List (Int))) : Option (((List (Int)) × ((List (Int)) × ((Int) × (Unit)))) × (Int)) :=
 Dat.bind (ref02_May (((Dat.get d0.1.1 0 0) :: ((Dat.get d0.1.1 1 0) :: ((Dat.get d0.1.1 2 0) :: ((Dat.get d0.1.1 3 0) :: ((Dat.get d0.1.1 4 0) :: ((Dat.get d0.1.1 5 0) :: ((Dat.get d0.1.1 6 0) :: ((Dat.get d0.1.1 7 0) :: ([] : List (Int)))))))))), (d0.1.2.1, (d0.1.2.2.1, ())))) fun (x1 : Bool) =>
 (bif (Dat.bnot x1) then some (((0 :: (0 :: (0 :: (0 :: (0 :: (0 :: (0 :: (0 :: ([] : List (Int)))))))))), (([] : List (Int)), (0, ()))), 8)
 else Dat.bnd (Dat.wrap .u64 (Dat.ofN (Dat.len d0.2))) fun (x2 : Int) =>
 Dat.bnd (Dat.wrap .u64 (Dat.add d0.1.2.2.1 x2)) fun (x3 : Int) =>
 (bif (Dat.ige x3 72057594037927936) then some (((0 :: (0 :: (0 :: (0 :: (0 :: (0 :: (0 :: (0 :: ([] : List (Int)))))))))), (([] : List (Int)), (0, ()))), 4)
 else Dat.bind (ref02_Came ((((Dat.get d0.1.1 0 0) :: ((Dat.get d0.1.1 1 0) :: ((Dat.get d0.1.1 2 0) :: ((Dat.get d0.1.1 3 0) :: ((Dat.get d0.1.1 4 0) :: ((Dat.get d0.1.1 5 0) :: ((Dat.get d0.1.1 6 0) :: ((Dat.get d0.1.1 7 0) :: ([] : List (Int)))))))))), (d0.1.2.1, (d0.1.2.2.1, ()))), d0.2)) fun (x4 : (List (Int)) × ((List (Int)) × ((Int) × (Unit)))) =>
 some ((((Dat.get x4.1 0 0) :: ((Dat.get x4.1 1 0) :: ((Dat.get x4.1 2 0) :: ((Dat.get x4.1 3 0) :: ((Dat.get x4.1 4 0) :: ((Dat.get x4.1 5 0) :: ((Dat.get x4.1 6 0) :: ((Dat.get x4.1 7 0) :: ([] : List (Int)))))))))), (x4.2.1, (x4.2.2.1, ()))), 0)))
noncomputable def p_ref02_More : PFn := { args := [(.pair (.arr 8 (.int .u32)) (.pair (.list (.int .u8)) (.pair (.int .u64) .unit))), (.list (.int .u8))], res := [(.pair (.arr 8 (.int .u32)) (.pair (.list (.int .u8)) (.pair (.int .u64) .unit))), (.int .i64)], fn := ref02_More }
theorem pd_ref02_More : PureD Tryd.prog cfg 15 p_ref02_More := fnD sp0 (l := [(25, p_ref02_May), (26, p_ref02_Came)]) cfgOk cfgGlob (.cons pd_ref02_May (.cons pd_ref02_Came .nil)) (fun d => by kernel_rfl)

/-- thimblerig/thimblerigref02.Ended -/
noncomputable def ref02_Ended (d0 : (List (Int)) × ((List (Int)) × ((Int) × (Unit)))) : Option (List (Int)) :=
 if (Dat.Le (Dat.addN 0 0) (Dat.len ([] : List (Int)))) then if (Dat.Big (Dat.len (Dat.seg ([] : List (Int)) 0 0)) (Dat.len d0.2.1) 1) then none
 else Dat.bnd (Dat.app (Dat.seg ([] : List (Int)) 0 0) d0.2.1) fun (x5 : List (Int)) =>
 if (Dat.Le (Dat.addN 0 1) (Dat.len (128 :: ([] : List (Int))))) then if (Dat.Big (Dat.len x5) (Dat.len (Dat.seg (128 :: ([] : List (Int))) 0 1)) 1) then none
 else if (Dat.EqN (Dat.len x5) (Dat.len x5)) then Dat.bnd (Dat.app x5 (Dat.seg (128 :: ([] : List (Int))) 0 1)) fun (x12 : List (Int)) =>
 if (Dat.EqN (Dat.len x12) (Dat.len x12)) then Dat.loop (fun (s15 : List (Int)) k16 =>
 if (Dat.IsZ 64) then none
 else Dat.bnd (Dat.tmod (Dat.ofN (Dat.len s15)) 64) fun (x19 : Int) =>
 (bif (Dat.ine x19 56) then if (Dat.Le (Dat.addN 0 1) (Dat.len (0 :: ([] : List (Int))))) then if (Dat.Big (Dat.len s15) (Dat.len (Dat.seg (0 :: ([] : List (Int))) 0 1)) 1) then none
 else if (Dat.EqN (Dat.len s15) (Dat.len s15)) then Dat.bnd (Dat.app s15 (Dat.seg (0 :: ([] : List (Int))) 0 1)) fun (x26 : List (Int)) =>
 if (Dat.EqN (Dat.len x26) (Dat.len x26)) then k16 x26
 else none
 else none
 else none
 else Dat.bnd (Dat.wrap .u64 (Dat.mul 8 d0.2.2.1)) fun (x29 : Int) =>
 if (Dat.EqN (Dat.len s15) (Dat.len s15)) then Dat.loop (fun (s32 : (List (Int)) × (Int)) k33 =>
 (bif (Dat.ige s32.2 0) then Dat.bnd (Dat.wrap .i64 (Dat.mul 8 s32.2)) fun (x34 : Int) =>
 Dat.bnd (Dat.wrap .u64 x34) fun (x35 : Int) =>
 if (Dat.Neg x35) then none
 else Dat.bnd (Dat.shr .u64 x29 x35) fun (x38 : Int) =>
 Dat.bnd (Dat.wrap .u8 x38) fun (x39 : Int) =>
 if (Dat.Le (Dat.addN 0 1) (Dat.len (x39 :: ([] : List (Int))))) then if (Dat.Big (Dat.len s32.1) (Dat.len (Dat.seg (x39 :: ([] : List (Int))) 0 1)) 1) then none
 else if (Dat.EqN (Dat.len s32.1) (Dat.len s32.1)) then Dat.bnd (Dat.app s32.1 (Dat.seg (x39 :: ([] : List (Int))) 0 1)) fun (x46 : List (Int)) =>
 Dat.bnd (Dat.wrap .i64 (Dat.sub s32.2 1)) fun (x47 : Int) =>
 if (Dat.EqN (Dat.len x46) (Dat.len x46)) then k33 (x46, x47)
 else none
 else none
 else none
 else if (Dat.EqN (Dat.len (Dat.rep 8 0)) (Dat.len ((Dat.get d0.1 0 0) :: ((Dat.get d0.1 1 0) :: ((Dat.get d0.1 2 0) :: ((Dat.get d0.1 3 0) :: ((Dat.get d0.1 4 0) :: ((Dat.get d0.1 5 0) :: ((Dat.get d0.1 6 0) :: ((Dat.get d0.1 7 0) :: ([] : List (Int)))))))))))) then Dat.loop (fun (s52 : (List (Int)) × (List (Int))) k53 =>
 (bif (Dat.igt (Dat.ofN (Dat.len s52.1)) 0) then if (Dat.EqN (Dat.len s52.2) 8) then if (Dat.Bd 64 (Dat.len s52.1)) then Dat.bnd (Dat.slice s52.1 0 (Dat.toN 64)) fun (x58 : List (Int)) =>
 Dat.bind (ref02_Turn (s52.2, x58)) fun (x59 : List (Int)) =>
 if (Dat.EqN (Dat.len s52.2) 8) then if (Dat.Bd 64 (Dat.len s52.1)) then Dat.bnd (Dat.slice s52.1 (Dat.toN 64) (Dat.len s52.1)) fun (x64 : List (Int)) =>
 k53 (x64, (Dat.norm 8 x59 0))
 else none
 else none
 else none
 else none
 else Dat.loop (fun (s65 : (Int) × (List (Int))) k66 =>
 (bif (Dat.ilt s65.1 32) then if (Dat.IsZ 4) then none
 else Dat.bnd (Dat.wrap .i64 (Dat.tdiv s65.1 4)) fun (x69 : Int) =>
 if (Dat.In x69 8) then if (Dat.Lt (Dat.toN x69) (Dat.len s52.2)) then Dat.bnd (Dat.get s52.2 (Dat.toN x69) 0) fun (x74 : Int) =>
 if (Dat.IsZ 4) then none
 else Dat.bnd (Dat.tmod s65.1 4) fun (x77 : Int) =>
 Dat.bnd (Dat.wrap .i64 (Dat.mul 8 x77)) fun (x78 : Int) =>
 Dat.bnd (Dat.wrap .i64 (Dat.sub 24 x78)) fun (x79 : Int) =>
 Dat.bnd (Dat.wrap .u64 x79) fun (x80 : Int) =>
 if (Dat.Neg x80) then none
 else Dat.bnd (Dat.shr .u32 x74 x80) fun (x83 : Int) =>
 Dat.bnd (Dat.wrap .u8 x83) fun (x84 : Int) =>
 if (Dat.In s65.1 32) then if (Dat.Lt (Dat.toN s65.1) (Dat.len s65.2)) then Dat.bnd (Dat.set s65.2 (Dat.toN s65.1) x84) fun (x89 : List (Int)) =>
 Dat.bnd (Dat.wrap .i64 (Dat.add s65.1 1)) fun (x90 : Int) =>
 k66 (x90, x89)
 else none
 else none
 else none
 else none
 else if (Dat.EqN (Dat.len s65.2) 32) then if (Dat.EqN (Dat.len (Dat.rep 32 0)) 32) then if (Dat.EqN (Dat.len (Dat.norm 32 s65.2 0)) 32) then some (Dat.norm 32 s65.2 0)
 else none
 else none
 else none)) (0, (Dat.rep 32 0)))) (s32.1, ((Dat.get d0.1 0 0) :: ((Dat.get d0.1 1 0) :: ((Dat.get d0.1 2 0) :: ((Dat.get d0.1 3 0) :: ((Dat.get d0.1 4 0) :: ((Dat.get d0.1 5 0) :: ((Dat.get d0.1 6 0) :: ((Dat.get d0.1 7 0) :: ([] : List (Int)))))))))))
 else none)) (s15, 7)
 else none)) x12
 else none
 else none
 else none
 else none
noncomputable def p_ref02_Ended : PFn := { args := [(.pair (.arr 8 (.int .u32)) (.pair (.list (.int .u8)) (.pair (.int .u64) .unit)))], res := [(.arr 32 (.int .u8))], fn := ref02_Ended }
def sp27_27 : List LSpec × List Nat := ([{ id := 2700, known := true, toks := [(3, (.int .u8))], items := [.slot 3 (.slt (.int .u8) (some 1000003) false)], junk := [15, 16, 17, 18, 19, 20, 21], tails := [(1000003, 3)] }, { id := 2701, known := true, toks := [(3, (.int .u8))], items := [.slot 3 (.slt (.int .u8) (some 1000003) false), .slot 5 (.val (.int .i64))], junk := [25, 26, 29, 30, 31, 32, 33, 34, 35, 36, 37, 27, 28], tails := [(1000003, 3)] }, { id := 2702, known := true, toks := [], items := [.slot 3 (.val (.list (.int .u8))), .vec 1000006 (.int .u32)], junk := [40, 41, 42, 43, 44, 45, 46, 47, 48], tails := [] }, { id := 2703, known := true, toks := [], items := [.slot 8 (.val (.int .i64)), .vec 1000007 (.int .u8)], junk := [49, 50, 53, 54, 55, 56, 57, 58, 59, 60, 61, 62, 63, 64, 65, 51, 52], tails := [] }], [])
def spt27 : Tab (List LSpec × List Nat) := (.node (.node (.node .leaf none (.node .leaf none (.node .leaf (some sp27_27) .leaf))) none .leaf) none .leaf)
def spf27 (f : Nat) : List LSpec × List Nat := (spt27.get f).getD ([], [])
theorem pd_ref02_Ended : PureD Tryd.prog cfg 27 p_ref02_Ended := fnD spf27 (l := [(30, p_ref02_Turn)]) cfgOk cfgGlob (.cons pd_ref02_Turn .nil) (fun d => by kernel_rfl)

/-- thimblerig/thimblerigref02.End -/
noncomputable def ref02_End (d0 : (List (Int)) × ((List (Int)) × ((Int) × (Unit)))) : Option ((List (Int)) × (Int)) :=
 Dat.bind (ref02_May (((Dat.get d0.1 0 0) :: ((Dat.get d0.1 1 0) :: ((Dat.get d0.1 2 0) :: ((Dat.get d0.1 3 0) :: ((Dat.get d0.1 4 0) :: ((Dat.get d0.1 5 0) :: ((Dat.get d0.1 6 0) :: ((Dat.get d0.1 7 0) :: ([] : List (Int)))))))))), (d0.2.1, (d0.2.2.1, ())))) fun (x1 : Bool) =>
 (bif (Dat.bnot x1) then if (Dat.EqN (Dat.len (Dat.rep 32 0)) (Dat.len (0 :: (0 :: (0 :: (0 :: (0 :: (0 :: (0 :: (0 :: (0 :: (0 :: (0 :: (0 :: (0 :: (0 :: (0 :: (0 :: (0 :: (0 :: (0 :: (0 :: (0 :: (0 :: (0 :: (0 :: (0 :: (0 :: (0 :: (0 :: (0 :: (0 :: (0 :: (0 :: ([] : List (Int)))))))))))))))))))))))))))))))))))) then if (Dat.EqN (Dat.len (0 :: (0 :: (0 :: (0 :: (0 :: (0 :: (0 :: (0 :: (0 :: (0 :: (0 :: (0 :: (0 :: (0 :: (0 :: (0 :: (0 :: (0 :: (0 :: (0 :: (0 :: (0 :: (0 :: (0 :: (0 :: (0 :: (0 :: (0 :: (0 :: (0 :: (0 :: (0 :: ([] : List (Int))))))))))))))))))))))))))))))))))) 32) then some ((0 :: (0 :: (0 :: (0 :: (0 :: (0 :: (0 :: (0 :: (0 :: (0 :: (0 :: (0 :: (0 :: (0 :: (0 :: (0 :: (0 :: (0 :: (0 :: (0 :: (0 :: (0 :: (0 :: (0 :: (0 :: (0 :: (0 :: (0 :: (0 :: (0 :: (0 :: (0 :: ([] : List (Int)))))))))))))))))))))))))))))))))), 8)
 else none
 else none
 else Dat.bind (ref02_Ended (((Dat.get d0.1 0 0) :: ((Dat.get d0.1 1 0) :: ((Dat.get d0.1 2 0) :: ((Dat.get d0.1 3 0) :: ((Dat.get d0.1 4 0) :: ((Dat.get d0.1 5 0) :: ((Dat.get d0.1 6 0) :: ((Dat.get d0.1 7 0) :: ([] : List (Int)))))))))), (d0.2.1, (d0.2.2.1, ())))) fun (x6 : List (Int)) =>
 if (Dat.EqN (Dat.len (Dat.rep 32 0)) 32) then if (Dat.EqN (Dat.len (Dat.norm 32 x6 0)) 32) then some ((Dat.norm 32 x6 0), 0)
 else none
 else none)
noncomputable def p_ref02_End : PFn := { args := [(.pair (.arr 8 (.int .u32)) (.pair (.list (.int .u8)) (.pair (.int .u64) .unit)))], res := [(.arr 32 (.int .u8)), (.int .i64)], fn := ref02_End }
theorem pd_ref02_End : PureD Tryd.prog cfg 16 p_ref02_End := fnD sp0 (l := [(25, p_ref02_May), (27, p_ref02_Ended)]) cfgOk cfgGlob (.cons pd_ref02_May (.cons pd_ref02_Ended .nil)) (fun d => by kernel_rfl)

/-- thimblerig/thimblerigref02.Same -/
noncomputable def ref02_Same (d0 : ((List (Int)) × ((List (Int)) × ((Int) × (Unit)))) × ((List (Int)) × ((List (Int)) × ((Int) × (Unit))))) : Option (Bool) :=
 (bif (Dat.andB (Dat.ieq (Dat.get d0.1.1 0 0) (Dat.get d0.2.1 0 0)) (Dat.andB (Dat.ieq (Dat.get d0.1.1 1 0) (Dat.get d0.2.1 1 0)) (Dat.andB (Dat.ieq (Dat.get d0.1.1 2 0) (Dat.get d0.2.1 2 0)) (Dat.andB (Dat.ieq (Dat.get d0.1.1 3 0) (Dat.get d0.2.1 3 0)) (Dat.andB (Dat.ieq (Dat.get d0.1.1 4 0) (Dat.get d0.2.1 4 0)) (Dat.andB (Dat.ieq (Dat.get d0.1.1 5 0) (Dat.get d0.2.1 5 0)) (Dat.andB (Dat.ieq (Dat.get d0.1.1 6 0) (Dat.get d0.2.1 6 0)) (Dat.andB (Dat.ieq (Dat.get d0.1.1 7 0) (Dat.get d0.2.1 7 0)) true)))))))) then Dat.bnd (Dat.str d0.1.2.1) fun (x1 : List (UInt8)) =>
 Dat.bnd (Dat.str d0.2.2.1) fun (x2 : List (UInt8)) =>
 (bif (Dat.pickB true (Dat.seq x1 x2) false) then some (Dat.pickB true (Dat.ieq d0.1.2.2.1 d0.2.2.2.1) false)
 else some false)
 else some false)
noncomputable def p_ref02_Same : PFn := { args := [(.pair (.arr 8 (.int .u32)) (.pair (.list (.int .u8)) (.pair (.int .u64) .unit))), (.pair (.arr 8 (.int .u32)) (.pair (.list (.int .u8)) (.pair (.int .u64) .unit)))], res := [.bool], fn := ref02_Same }
theorem pd_ref02_Same : PureD Tryd.prog cfg 17 p_ref02_Same := fnD sp0 (l := []) cfgOk cfgGlob .nil (fun d => by kernel_rfl)

/-- thimblerig/thimblerigref02.Check -/
noncomputable def ref02_Check (d0 : (List (Int)) × ((List (Int)) × ((Int) × (Unit)))) : Option (Int) :=
 Dat.bind (ref02_May (((Dat.get d0.1 0 0) :: ((Dat.get d0.1 1 0) :: ((Dat.get d0.1 2 0) :: ((Dat.get d0.1 3 0) :: ((Dat.get d0.1 4 0) :: ((Dat.get d0.1 5 0) :: ((Dat.get d0.1 6 0) :: ((Dat.get d0.1 7 0) :: ([] : List (Int)))))))))), (d0.2.1, (d0.2.2.1, ())))) fun (x1 : Bool) =>
 (bif (Dat.bnot x1) then some 8
 else some 0)
noncomputable def p_ref02_Check : PFn := { args := [(.pair (.arr 8 (.int .u32)) (.pair (.list (.int .u8)) (.pair (.int .u64) .unit)))], res := [(.int .i64)], fn := ref02_Check }
theorem pd_ref02_Check : PureD Tryd.prog cfg 18 p_ref02_Check := fnD sp0 (l := [(25, p_ref02_May)]) cfgOk cfgGlob (.cons pd_ref02_May .nil) (fun d => by kernel_rfl)

/-- thimblerig/thimblerigref02.Begin -/
noncomputable def ref02_Begin (d0 : Unit) : Option ((List (Int)) × ((List (Int)) × ((Int) × (Unit)))) :=
 some ((1779033703 :: (3144134277 :: (1013904242 :: (2773480762 :: (1359893119 :: (2600822924 :: (528734635 :: (1541459225 :: ([] : List (Int)))))))))), (([] : List (Int)), (0, ())))
noncomputable def p_ref02_Begin : PFn := { args := [], res := [(.pair (.arr 8 (.int .u32)) (.pair (.list (.int .u8)) (.pair (.int .u64) .unit)))], fn := ref02_Begin }
theorem pd_ref02_Begin : PureD Tryd.prog cfg 19 p_ref02_Begin := fnD sp0 (l := []) cfgOk cfgGlob .nil (fun d => by kernel_rfl)

/-- thimblerig/thimbleriglaw02.ShaComes -/
noncomputable def law02_ShaComes (d0 : ((List (Int)) × ((List (Int)) × ((Int) × (Unit)))) × (List (Int))) : Option (Bool) :=
 Dat.join (σ := Bool) (fun k1 =>
 (bif (Dat.igt (Dat.ofN (Dat.len d0.1.2.1)) 1000) then k1 true
 else k1 (Dat.pickB false true (Dat.igt (Dat.ofN (Dat.len d0.2)) 1000)))) fun (j2 : Bool) =>
 (bif j2 then some true
 else if (Dat.Le (Dat.addN 0 0) (Dat.len ([] : List (Int)))) then if (Dat.Big (Dat.len (Dat.seg ([] : List (Int)) 0 0)) (Dat.len d0.1.2.1) 1) then none
 else Dat.bnd (Dat.app (Dat.seg ([] : List (Int)) 0 0) d0.1.2.1) fun (x7 : List (Int)) =>
 if (Dat.Le (Dat.addN 0 0) (Dat.len ([] : List (Int)))) then if (Dat.Big (Dat.len (Dat.seg ([] : List (Int)) 0 0)) (Dat.len d0.2) 1) then none
 else Dat.bnd (Dat.app (Dat.seg ([] : List (Int)) 0 0) d0.2) fun (x12 : List (Int)) =>
 Dat.bind (sha_More ((((Dat.get d0.1.1 0 0) :: ((Dat.get d0.1.1 1 0) :: ((Dat.get d0.1.1 2 0) :: ((Dat.get d0.1.1 3 0) :: ((Dat.get d0.1.1 4 0) :: ((Dat.get d0.1.1 5 0) :: ((Dat.get d0.1.1 6 0) :: ((Dat.get d0.1.1 7 0) :: ([] : List (Int)))))))))), (x7, (d0.1.2.2.1, ()))), x12)) fun (x13 : ((List (Int)) × ((List (Int)) × ((Int) × (Unit)))) × (Int)) =>
 if (Dat.EqN (Dat.len x13.1.2.1) 0) then Dat.bind (ref02_More ((((Dat.get d0.1.1 0 0) :: ((Dat.get d0.1.1 1 0) :: ((Dat.get d0.1.1 2 0) :: ((Dat.get d0.1.1 3 0) :: ((Dat.get d0.1.1 4 0) :: ((Dat.get d0.1.1 5 0) :: ((Dat.get d0.1.1 6 0) :: ((Dat.get d0.1.1 7 0) :: ([] : List (Int)))))))))), (d0.1.2.1, (d0.1.2.2.1, ()))), d0.2)) fun (x16 : ((List (Int)) × ((List (Int)) × ((Int) × (Unit)))) × (Int)) =>
 Dat.bind (sha_End (((Dat.get d0.1.1 0 0) :: ((Dat.get d0.1.1 1 0) :: ((Dat.get d0.1.1 2 0) :: ((Dat.get d0.1.1 3 0) :: ((Dat.get d0.1.1 4 0) :: ((Dat.get d0.1.1 5 0) :: ((Dat.get d0.1.1 6 0) :: ((Dat.get d0.1.1 7 0) :: ([] : List (Int)))))))))), (x7, (d0.1.2.2.1, ())))) fun (x17 : (List (Int)) × (Int)) =>
 if (Dat.EqN (Dat.len (Dat.rep 32 0)) 32) then Dat.bind (ref02_End (((Dat.get d0.1.1 0 0) :: ((Dat.get d0.1.1 1 0) :: ((Dat.get d0.1.1 2 0) :: ((Dat.get d0.1.1 3 0) :: ((Dat.get d0.1.1 4 0) :: ((Dat.get d0.1.1 5 0) :: ((Dat.get d0.1.1 6 0) :: ((Dat.get d0.1.1 7 0) :: ([] : List (Int)))))))))), (d0.1.2.1, (d0.1.2.2.1, ())))) fun (x20 : (List (Int)) × (Int)) =>
 if (Dat.EqN (Dat.len (Dat.rep 32 0)) 32) then Dat.join (σ := Bool) (fun k23 =>
 Dat.bind (ref02_Same ((((Dat.get x13.1.1 0 0) :: ((Dat.get x13.1.1 1 0) :: ((Dat.get x13.1.1 2 0) :: ((Dat.get x13.1.1 3 0) :: ((Dat.get x13.1.1 4 0) :: ((Dat.get x13.1.1 5 0) :: ((Dat.get x13.1.1 6 0) :: ((Dat.get x13.1.1 7 0) :: ([] : List (Int)))))))))), (x13.1.2.1, (x13.1.2.2.1, ()))), (((Dat.get x16.1.1 0 0) :: ((Dat.get x16.1.1 1 0) :: ((Dat.get x16.1.1 2 0) :: ((Dat.get x16.1.1 3 0) :: ((Dat.get x16.1.1 4 0) :: ((Dat.get x16.1.1 5 0) :: ((Dat.get x16.1.1 6 0) :: ((Dat.get x16.1.1 7 0) :: ([] : List (Int)))))))))), (x16.1.2.1, (x16.1.2.2.1, ()))))) fun (x24 : Bool) =>
 (bif x24 then (bif (Dat.pickB true (Dat.ieq x13.2 x16.2) false) then if (Dat.EqN (Dat.len (Dat.norm 32 x17.1 0)) 32) then if (Dat.EqN (Dat.len (Dat.norm 32 x20.1 0)) 32) then (bif (Dat.pickB true (Dat.lq 32 (Dat.norm 32 x17.1 0) (Dat.norm 32 x20.1 0)) false) then (bif (Dat.pickB true (Dat.ieq x17.2 x20.2) false) then Dat.bind (sha_Check (((Dat.get d0.1.1 0 0) :: ((Dat.get d0.1.1 1 0) :: ((Dat.get d0.1.1 2 0) :: ((Dat.get d0.1.1 3 0) :: ((Dat.get d0.1.1 4 0) :: ((Dat.get d0.1.1 5 0) :: ((Dat.get d0.1.1 6 0) :: ((Dat.get d0.1.1 7 0) :: ([] : List (Int)))))))))), (x7, (d0.1.2.2.1, ())))) fun (x29 : Int) =>
 Dat.bind (ref02_Check (((Dat.get d0.1.1 0 0) :: ((Dat.get d0.1.1 1 0) :: ((Dat.get d0.1.1 2 0) :: ((Dat.get d0.1.1 3 0) :: ((Dat.get d0.1.1 4 0) :: ((Dat.get d0.1.1 5 0) :: ((Dat.get d0.1.1 6 0) :: ((Dat.get d0.1.1 7 0) :: ([] : List (Int)))))))))), (d0.1.2.1, (d0.1.2.2.1, ())))) fun (x30 : Int) =>
 (bif (Dat.pickB true (Dat.ieq x29 x30) false) then Dat.bind (sha_Begin ()) fun (x31 : (List (Int)) × ((List (Int)) × ((Int) × (Unit)))) =>
 Dat.bind (ref02_Begin ()) fun (x32 : (List (Int)) × ((List (Int)) × ((Int) × (Unit)))) =>
 Dat.bind (ref02_Same ((((Dat.get x31.1 0 0) :: ((Dat.get x31.1 1 0) :: ((Dat.get x31.1 2 0) :: ((Dat.get x31.1 3 0) :: ((Dat.get x31.1 4 0) :: ((Dat.get x31.1 5 0) :: ((Dat.get x31.1 6 0) :: ((Dat.get x31.1 7 0) :: ([] : List (Int)))))))))), (x31.2.1, (x31.2.2.1, ()))), (((Dat.get x32.1 0 0) :: ((Dat.get x32.1 1 0) :: ((Dat.get x32.1 2 0) :: ((Dat.get x32.1 3 0) :: ((Dat.get x32.1 4 0) :: ((Dat.get x32.1 5 0) :: ((Dat.get x32.1 6 0) :: ((Dat.get x32.1 7 0) :: ([] : List (Int)))))))))), (x32.2.1, (x32.2.2.1, ()))))) fun (x33 : Bool) =>
 k23 (Dat.pickB true x33 false)
 else k23 false)
 else k23 false)
 else k23 false)
 else none
 else none
 else k23 false)
 else k23 false)) fun (j34 : Bool) =>
 Dat.loop (fun (s35 : Int) k36 =>
 (bif (Dat.ilt s35 (Dat.ofN (Dat.len x13.1.2.1))) then if (Dat.Ix s35 (Dat.len x13.1.2.1)) then Dat.bnd (Dat.get x13.1.2.1 (Dat.toN s35) 0) fun (x39 : Int) =>
 Dat.bnd (Dat.wrap .u8 (Dat.add x39 1)) fun (x40 : Int) =>
 if (Dat.Ix s35 (Dat.len x13.1.2.1)) then Dat.bnd (Dat.get x13.1.2.1 (Dat.toN s35) 0) fun (x43 : Int) =>
 none
 else none
 else none
 else Dat.join (σ := Bool) (fun k44 =>
 (bif j34 then Dat.bind (ref02_Same ((((Dat.get d0.1.1 0 0) :: ((Dat.get d0.1.1 1 0) :: ((Dat.get d0.1.1 2 0) :: ((Dat.get d0.1.1 3 0) :: ((Dat.get d0.1.1 4 0) :: ((Dat.get d0.1.1 5 0) :: ((Dat.get d0.1.1 6 0) :: ((Dat.get d0.1.1 7 0) :: ([] : List (Int)))))))))), (x7, (d0.1.2.2.1, ()))), (((Dat.get d0.1.1 0 0) :: ((Dat.get d0.1.1 1 0) :: ((Dat.get d0.1.1 2 0) :: ((Dat.get d0.1.1 3 0) :: ((Dat.get d0.1.1 4 0) :: ((Dat.get d0.1.1 5 0) :: ((Dat.get d0.1.1 6 0) :: ((Dat.get d0.1.1 7 0) :: ([] : List (Int)))))))))), (d0.1.2.1, (d0.1.2.2.1, ()))))) fun (x45 : Bool) =>
 (bif (Dat.pickB true x45 false) then Dat.bnd (Dat.str x12) fun (x46 : List (UInt8)) =>
 Dat.bnd (Dat.str d0.2) fun (x47 : List (UInt8)) =>
 k44 (Dat.pickB true (Dat.seq x46 x47) false)
 else k44 false)
 else k44 false)) fun (j48 : Bool) =>
 some j48)) 0
 else none
 else none
 else Dat.bind (ref02_More ((((Dat.get d0.1.1 0 0) :: ((Dat.get d0.1.1 1 0) :: ((Dat.get d0.1.1 2 0) :: ((Dat.get d0.1.1 3 0) :: ((Dat.get d0.1.1 4 0) :: ((Dat.get d0.1.1 5 0) :: ((Dat.get d0.1.1 6 0) :: ((Dat.get d0.1.1 7 0) :: ([] : List (Int)))))))))), (d0.1.2.1, (d0.1.2.2.1, ()))), d0.2)) fun (x49 : ((List (Int)) × ((List (Int)) × ((Int) × (Unit)))) × (Int)) =>
 Dat.bind (sha_End (((Dat.get d0.1.1 0 0) :: ((Dat.get d0.1.1 1 0) :: ((Dat.get d0.1.1 2 0) :: ((Dat.get d0.1.1 3 0) :: ((Dat.get d0.1.1 4 0) :: ((Dat.get d0.1.1 5 0) :: ((Dat.get d0.1.1 6 0) :: ((Dat.get d0.1.1 7 0) :: ([] : List (Int)))))))))), (x7, (d0.1.2.2.1, ())))) fun (x50 : (List (Int)) × (Int)) =>
 if (Dat.EqN (Dat.len (Dat.rep 32 0)) 32) then Dat.bind (ref02_End (((Dat.get d0.1.1 0 0) :: ((Dat.get d0.1.1 1 0) :: ((Dat.get d0.1.1 2 0) :: ((Dat.get d0.1.1 3 0) :: ((Dat.get d0.1.1 4 0) :: ((Dat.get d0.1.1 5 0) :: ((Dat.get d0.1.1 6 0) :: ((Dat.get d0.1.1 7 0) :: ([] : List (Int)))))))))), (d0.1.2.1, (d0.1.2.2.1, ())))) fun (x53 : (List (Int)) × (Int)) =>
 if (Dat.EqN (Dat.len (Dat.rep 32 0)) 32) then Dat.join (σ := Bool) (fun k56 =>
 if (Dat.Le (Dat.addN 0 (Dat.len x13.1.2.1)) (Dat.len x13.1.2.1)) then Dat.bind (ref02_Same ((((Dat.get x13.1.1 0 0) :: ((Dat.get x13.1.1 1 0) :: ((Dat.get x13.1.1 2 0) :: ((Dat.get x13.1.1 3 0) :: ((Dat.get x13.1.1 4 0) :: ((Dat.get x13.1.1 5 0) :: ((Dat.get x13.1.1 6 0) :: ((Dat.get x13.1.1 7 0) :: ([] : List (Int)))))))))), ((Dat.seg x13.1.2.1 0 (Dat.len x13.1.2.1)), (x13.1.2.2.1, ()))), (((Dat.get x49.1.1 0 0) :: ((Dat.get x49.1.1 1 0) :: ((Dat.get x49.1.1 2 0) :: ((Dat.get x49.1.1 3 0) :: ((Dat.get x49.1.1 4 0) :: ((Dat.get x49.1.1 5 0) :: ((Dat.get x49.1.1 6 0) :: ((Dat.get x49.1.1 7 0) :: ([] : List (Int)))))))))), (x49.1.2.1, (x49.1.2.2.1, ()))))) fun (x59 : Bool) =>
 (bif x59 then (bif (Dat.pickB true (Dat.ieq x13.2 x49.2) false) then if (Dat.EqN (Dat.len (Dat.norm 32 x50.1 0)) 32) then if (Dat.EqN (Dat.len (Dat.norm 32 x53.1 0)) 32) then (bif (Dat.pickB true (Dat.lq 32 (Dat.norm 32 x50.1 0) (Dat.norm 32 x53.1 0)) false) then (bif (Dat.pickB true (Dat.ieq x50.2 x53.2) false) then Dat.bind (sha_Check (((Dat.get d0.1.1 0 0) :: ((Dat.get d0.1.1 1 0) :: ((Dat.get d0.1.1 2 0) :: ((Dat.get d0.1.1 3 0) :: ((Dat.get d0.1.1 4 0) :: ((Dat.get d0.1.1 5 0) :: ((Dat.get d0.1.1 6 0) :: ((Dat.get d0.1.1 7 0) :: ([] : List (Int)))))))))), (x7, (d0.1.2.2.1, ())))) fun (x64 : Int) =>
 Dat.bind (ref02_Check (((Dat.get d0.1.1 0 0) :: ((Dat.get d0.1.1 1 0) :: ((Dat.get d0.1.1 2 0) :: ((Dat.get d0.1.1 3 0) :: ((Dat.get d0.1.1 4 0) :: ((Dat.get d0.1.1 5 0) :: ((Dat.get d0.1.1 6 0) :: ((Dat.get d0.1.1 7 0) :: ([] : List (Int)))))))))), (d0.1.2.1, (d0.1.2.2.1, ())))) fun (x65 : Int) =>
 (bif (Dat.pickB true (Dat.ieq x64 x65) false) then Dat.bind (sha_Begin ()) fun (x66 : (List (Int)) × ((List (Int)) × ((Int) × (Unit)))) =>
 Dat.bind (ref02_Begin ()) fun (x67 : (List (Int)) × ((List (Int)) × ((Int) × (Unit)))) =>
 Dat.bind (ref02_Same ((((Dat.get x66.1 0 0) :: ((Dat.get x66.1 1 0) :: ((Dat.get x66.1 2 0) :: ((Dat.get x66.1 3 0) :: ((Dat.get x66.1 4 0) :: ((Dat.get x66.1 5 0) :: ((Dat.get x66.1 6 0) :: ((Dat.get x66.1 7 0) :: ([] : List (Int)))))))))), (x66.2.1, (x66.2.2.1, ()))), (((Dat.get x67.1 0 0) :: ((Dat.get x67.1 1 0) :: ((Dat.get x67.1 2 0) :: ((Dat.get x67.1 3 0) :: ((Dat.get x67.1 4 0) :: ((Dat.get x67.1 5 0) :: ((Dat.get x67.1 6 0) :: ((Dat.get x67.1 7 0) :: ([] : List (Int)))))))))), (x67.2.1, (x67.2.2.1, ()))))) fun (x68 : Bool) =>
 k56 (Dat.pickB true x68 false)
 else k56 false)
 else k56 false)
 else k56 false)
 else none
 else none
 else k56 false)
 else k56 false)
 else none) fun (j69 : Bool) =>
 Dat.loop (fun (s70 : (Int) × (List (Int))) k71 =>
 (bif (Dat.ilt s70.1 (Dat.ofN (Dat.len x13.1.2.1))) then if (Dat.In s70.1 (Dat.len x13.1.2.1)) then if (Dat.Lt (Dat.addN 0 (Dat.toN s70.1)) (Dat.len s70.2)) then Dat.bnd (Dat.get s70.2 (Dat.addN 0 (Dat.toN s70.1)) 0) fun (x76 : Int) =>
 Dat.bnd (Dat.wrap .u8 (Dat.add x76 1)) fun (x77 : Int) =>
 if (Dat.In s70.1 (Dat.len x13.1.2.1)) then if (Dat.Lt (Dat.addN 0 (Dat.toN s70.1)) (Dat.len s70.2)) then Dat.bnd (Dat.set s70.2 (Dat.addN 0 (Dat.toN s70.1)) x77) fun (x82 : List (Int)) =>
 Dat.bnd (Dat.wrap .i64 (Dat.add s70.1 1)) fun (x83 : Int) =>
 k71 (x83, x82)
 else none
 else none
 else none
 else none
 else Dat.join (σ := Bool) (fun k84 =>
 (bif j69 then Dat.bind (ref02_Same ((((Dat.get d0.1.1 0 0) :: ((Dat.get d0.1.1 1 0) :: ((Dat.get d0.1.1 2 0) :: ((Dat.get d0.1.1 3 0) :: ((Dat.get d0.1.1 4 0) :: ((Dat.get d0.1.1 5 0) :: ((Dat.get d0.1.1 6 0) :: ((Dat.get d0.1.1 7 0) :: ([] : List (Int)))))))))), (x7, (d0.1.2.2.1, ()))), (((Dat.get d0.1.1 0 0) :: ((Dat.get d0.1.1 1 0) :: ((Dat.get d0.1.1 2 0) :: ((Dat.get d0.1.1 3 0) :: ((Dat.get d0.1.1 4 0) :: ((Dat.get d0.1.1 5 0) :: ((Dat.get d0.1.1 6 0) :: ((Dat.get d0.1.1 7 0) :: ([] : List (Int)))))))))), (d0.1.2.1, (d0.1.2.2.1, ()))))) fun (x85 : Bool) =>
 (bif (Dat.pickB true x85 false) then Dat.bnd (Dat.str x12) fun (x86 : List (UInt8)) =>
 Dat.bnd (Dat.str d0.2) fun (x87 : List (UInt8)) =>
 k84 (Dat.pickB true (Dat.seq x86 x87) false)
 else k84 false)
 else k84 false)) fun (j88 : Bool) =>
 some j88)) (0, x13.1.2.1)
 else none
 else none
 else none
 else none)
noncomputable def p_law02_ShaComes : PFn := { args := [(.pair (.arr 8 (.int .u32)) (.pair (.list (.int .u8)) (.pair (.int .u64) .unit))), (.list (.int .u8))], res := [.bool], fn := law02_ShaComes }
def sp4_13 : List LSpec × List Nat := ([{ id := 5013000, known := false, toks := [], items := [], junk := [2], tails := [] }, { id := 5013001, known := true, toks := [], items := [.slot 15 (.val .bool)], junk := [3, 4, 5, 6, 7, 8, 9, 10, 11, 12, 13, 14], tails := [] }, { id := 5013002, known := false, toks := [], items := [], junk := [2], tails := [] }, { id := 5013003, known := false, toks := [], items := [.slot 2 (.val (.int .i64))], junk := [], tails := [] }, { id := 5013004, known := false, toks := [], items := [.slot 2 (.val (.int .i64))], junk := [], tails := [] }], [])
def sp4_31 : List LSpec × List Nat := ([{ id := 5031000, known := false, toks := [], items := [], junk := [4], tails := [] }, { id := 5031001, known := false, toks := [], items := [.slot 5 (.val (.int .u32))], junk := [6, 7, 8, 9, 10, 11], tails := [] }, { id := 5031002, known := false, toks := [], items := [.slot 13 (.val .bool)], junk := [12], tails := [] }, { id := 5031003, known := true, toks := [], items := [.slot 5 (.val (.int .u32))], junk := [14, 15, 16, 17, 18], tails := [] }, { id := 5031004, known := false, toks := [], items := [.slot 5 (.val (.int .u32))], junk := [14, 15, 16, 17, 18], tails := [] }, { id := 5031005, known := false, toks := [], items := [.slot 4 (.val (.int .u32))], junk := [19, 20, 21, 22, 23, 24, 25, 26, 27, 28, 29, 30, 31, 32, 33], tails := [] }], [])
def sp4_28 : List LSpec × List Nat := ([{ id := 5028000, known := false, toks := [], items := [], junk := [], tails := [] }, { id := 5028001, known := false, toks := [], items := [], junk := [7, 8], tails := [] }, { id := 5028002, known := false, toks := [], items := [], junk := [9, 10], tails := [] }, { id := 5028003, known := false, toks := [], items := [], junk := [], tails := [] }, { id := 5028004, known := false, toks := [], items := [.slot 11 (.val (.int .i64))], junk := [], tails := [] }, { id := 2800, known := false, toks := [], items := [], junk := [], tails := [] }, { id := 5028005, known := false, toks := [], items := [], junk := [], tails := [] }, { id := 5028006, known := false, toks := [], items := [], junk := [], tails := [] }, { id := 5028007, known := false, toks := [], items := [.slot 6 (.val (.int .i64))], junk := [13], tails := [] }, { id := 5028008, known := false, toks := [], items := [.slot 15 (.val .bool)], junk := [14], tails := [] }, { id := 5028009, known := true, toks := [], items := [], junk := [16, 17, 18, 19, 20, 21, 22, 23, 24, 25, 26, 27, 28, 29, 30, 31, 32, 33, 34, 35, 36, 37, 38, 39, 40, 41, 42, 43, 44, 45, 46, 47, 48, 49, 50, 51, 52, 53, 54, 55, 56, 57, 58, 59, 60, 61, 62, 63, 64, 65, 66, 67, 68, 69, 70, 71], tails := [] }, { id := 5028010, known := false, toks := [], items := [], junk := [16, 17, 18, 19, 20, 21, 22, 23, 24, 25, 26, 27, 28, 29, 30, 31, 32, 33, 34, 35, 36, 37, 38, 39, 40, 41, 42, 43, 44, 45, 46], tails := [] }, { id := 5028011, known := false, toks := [], items := [], junk := [47, 48, 49, 50, 51, 52, 53, 54, 55, 56, 57, 58, 59, 60, 61, 62, 63, 64, 65, 66, 67, 68, 69, 70, 71], tails := [] }, { id := 5028012, known := false, toks := [], items := [.slot 11 (.val (.int .i64))], junk := [72], tails := [] }, { id := 5028013, known := false, toks := [], items := [], junk := [73], tails := [] }], [])
def sp4_9 : List LSpec × List Nat := ([{ id := 5009000, known := false, toks := [], items := [], junk := [3], tails := [] }, { id := 5009001, known := false, toks := [], items := [.slot 4 (.val (.int .i64))], junk := [9, 10], tails := [] }, { id := 5009002, known := false, toks := [], items := [.slot 12 (.val .bool)], junk := [11], tails := [] }, { id := 5009003, known := false, toks := [], items := [], junk := [13, 14, 3], tails := [] }, { id := 5009004, known := false, toks := [], items := [.slot 3 (.val (.int .i64))], junk := [13, 14], tails := [] }, { id := 5009005, known := false, toks := [], items := [], junk := [15, 16], tails := [] }, { id := 5009006, known := false, toks := [], items := [], junk := [], tails := [] }, { id := 5009007, known := false, toks := [], items := [.slot 7 (.val (.int .i64))], junk := [17, 18, 19, 20], tails := [] }, { id := 5009008, known := false, toks := [], items := [], junk := [21, 22], tails := [] }, { id := 5009009, known := false, toks := [], items := [.slot 24 (.val .bool)], junk := [23], tails := [] }, { id := 5009010, known := true, toks := [], items := [], junk := [25, 26, 27, 28], tails := [] }, { id := 5009011, known := false, toks := [], items := [], junk := [25, 26, 27], tails := [] }, { id := 5009012, known := false, toks := [], items := [], junk := [28], tails := [] }, { id := 5009013, known := false, toks := [], items := [.slot 29 (.val (.int .i64))], junk := [], tails := [] }, { id := 900, known := false, toks := [], items := [], junk := [], tails := [] }, { id := 5009014, known := false, toks := [], items := [.slot 30 (.val .bool)], junk := [], tails := [] }, { id := 5009015, known := false, toks := [], items := [], junk := [], tails := [] }, { id := 5009016, known := false, toks := [], items := [.slot 8 (.val (.int .i64))], junk := [31], tails := [] }, { id := 5009017, known := false, toks := [], items := [], junk := [32, 33, 34, 35, 36, 37, 38, 39, 40, 41], tails := [] }, { id := 5009018, known := false, toks := [], items := [.slot 29 (.val (.int .i64))], junk := [42], tails := [] }, { id := 5009019, known := false, toks := [], items := [.slot 3 (.val (.int .i64))], junk := [43, 44, 45, 46], tails := [] }], [])
def sp4_10 : List LSpec × List Nat := ([{ id := 5010000, known := false, toks := [], items := [], junk := [0], tails := [] }, { id := 5010001, known := true, toks := [], items := [.slot 0 (.val .bool)], junk := [1, 2, 3, 4, 5, 6, 7, 8, 9, 10, 11, 12, 13], tails := [] }], [])
def sp4_3 : List LSpec × List Nat := ([{ id := 5003000, known := false, toks := [], items := [], junk := [0], tails := [] }, { id := 5003001, known := false, toks := [], items := [.slot 2 (.val (.int .i64))], junk := [8, 9, 10, 7, 11, 12, 1], tails := [] }, { id := 5003002, known := false, toks := [], items := [.slot 4 (.val (.int .i64))], junk := [14, 15, 16, 13, 17, 18, 3], tails := [] }, { id := 5003003, known := false, toks := [], items := [.slot 6 (.val (.int .i64))], junk := [20, 21, 19, 22, 23, 5], tails := [] }, { id := 5003004, known := true, toks := [], items := [.slot 0 (.val .bool)], junk := [24, 25, 26, 27, 28, 29, 30, 31, 32, 33, 34, 35, 36, 37, 38, 39, 40, 41, 42, 43, 44, 45, 46, 47, 48, 49, 50, 51], tails := [] }], [])
def sp4_25 : List LSpec × List Nat := ([{ id := 5025000, known := false, toks := [], items := [], junk := [2], tails := [] }, { id := 5025001, known := true, toks := [], items := [.slot 2 (.val .bool)], junk := [3, 4, 5, 6, 7, 8, 9, 10, 11, 12, 13, 14, 15], tails := [] }], [])
def sp4_17 : List LSpec × List Nat := ([{ id := 5017000, known := false, toks := [], items := [], junk := [4], tails := [] }, { id := 5017001, known := true, toks := [], items := [.slot 4 (.val .bool)], junk := [5, 6, 7, 8, 9, 10, 11, 12, 13, 14, 15, 16, 17, 18, 19, 20, 21, 22, 23, 24, 25], tails := [] }], [])
def sp4_4 : List LSpec × List Nat := ([{ id := 5004000, known := false, toks := [], items := [], junk := [4], tails := [] }, { id := 5004001, known := true, toks := [], items := [.slot 25 (.val .bool)], junk := [17, 18, 19, 20, 21, 22, 23, 24], tails := [] }, { id := 5004002, known := false, toks := [], items := [], junk := [4], tails := [] }, { id := 5004003, known := false, toks := [], items := [.slot 4 (.val .bool)], junk := [], tails := [] }, { id := 5004004, known := false, toks := [], items := [], junk := [26, 27, 28, 29, 30, 31, 32, 33, 34], tails := [] }, { id := 5004005, known := false, toks := [], items := [], junk := [35, 36, 37], tails := [] }, { id := 5004006, known := false, toks := [], items := [.slot 8 (.val (.int .i64))], junk := [39, 40, 41, 38, 42, 43], tails := [] }, { id := 5004007, known := false, toks := [], items := [.slot 10 (.val (.int .i64))], junk := [45, 46, 47, 44, 48, 49], tails := [] }, { id := 5004008, known := false, toks := [], items := [.slot 12 (.val (.int .i64))], junk := [51, 52, 50, 53, 54], tails := [] }, { id := 5004009, known := false, toks := [], items := [.slot 14 (.val (.int .i64))], junk := [56, 57, 55, 58, 59], tails := [] }, { id := 5004010, known := true, toks := [], items := [.slot 15 (.val .bool)], junk := [60, 61, 62, 63, 64, 65, 66, 67, 68, 69, 70, 71, 72, 73, 74, 75, 76, 77, 78, 79, 80, 81, 82, 83, 84, 85, 86, 87, 88, 89], tails := [] }, { id := 5004011, known := false, toks := [], items := [.slot 16 (.val (.int .i64))], junk := [], tails := [] }, { id := 400, known := true, toks := [], items := [.slot 16 (.val (.int .i64)), .vec 2007008 (.int .u8)], junk := [90, 91, 92, 93, 94, 97, 98, 99, 100, 101, 102, 103, 104, 105, 106, 95, 96], tails := [] }, { id := 5004012, known := false, toks := [], items := [.slot 94 (.val .bool)], junk := [90, 91, 92, 93], tails := [] }, { id := 5004013, known := false, toks := [], items := [], junk := [], tails := [] }, { id := 5004014, known := false, toks := [], items := [], junk := [97, 98, 99, 100, 101, 102, 103, 104, 105, 106], tails := [] }, { id := 5004015, known := false, toks := [], items := [.slot 16 (.val (.int .i64))], junk := [95, 96], tails := [] }, { id := 5004016, known := true, toks := [], items := [.slot 4 (.val .bool)], junk := [107, 108, 109, 110, 111, 112, 113, 114, 115, 116, 117, 118, 119], tails := [] }], [])
def sp4_5 : List LSpec × List Nat := ([{ id := 5005000, known := false, toks := [], items := [], junk := [6], tails := [] }, { id := 5005001, known := true, toks := [], items := [.slot 23 (.val .bool)], junk := [11, 12, 13, 14, 15, 16, 17, 18, 19, 20, 21, 22], tails := [] }, { id := 5005002, known := false, toks := [], items := [], junk := [6], tails := [] }, { id := 5005003, known := false, toks := [], items := [.slot 6 (.val .bool)], junk := [], tails := [] }, { id := 5005004, known := false, toks := [], items := [], junk := [24, 25, 26, 27, 28, 29, 30, 31, 32], tails := [] }, { id := 5005005, known := false, toks := [], items := [], junk := [33, 34, 35, 36, 37], tails := [] }, { id := 5005006, known := true, toks := [], items := [.slot 6 (.val .bool)], junk := [38, 39, 40, 41, 42, 43, 44, 45, 46, 47, 48, 49, 50, 51, 52, 53, 54, 55, 56, 57, 58, 59, 60, 61, 62, 63, 64, 65, 66], tails := [] }], [])
def sp4_6 : List LSpec × List Nat := ([{ id := 5006000, known := false, toks := [], items := [], junk := [6], tails := [] }, { id := 5006001, known := false, toks := [], items := [.slot 7 (.val .bool)], junk := [18], tails := [] }, { id := 5006002, known := true, toks := [], items := [.slot 36 (.val .bool)], junk := [19, 20, 21, 22, 23, 24, 25, 26, 27, 28, 29, 30, 31, 32, 33, 34, 35], tails := [] }, { id := 5006003, known := false, toks := [], items := [], junk := [37, 6], tails := [] }, { id := 5006004, known := false, toks := [], items := [.slot 6 (.val .bool)], junk := [37], tails := [] }, { id := 5006005, known := false, toks := [], items := [.slot 9 (.val (.int .i64))], junk := [39, 40, 41, 38, 42, 43], tails := [] }, { id := 5006006, known := false, toks := [], items := [.slot 11 (.val (.int .i64))], junk := [45, 46, 47, 44, 48, 49], tails := [] }, { id := 5006007, known := false, toks := [], items := [.slot 13 (.val (.int .i64))], junk := [51, 52, 53, 54, 55, 56, 57, 50, 58, 59], tails := [] }, { id := 5006008, known := true, toks := [], items := [.slot 65 (.val .bool)], junk := [60, 61, 62, 63, 64], tails := [] }, { id := 5006009, known := false, toks := [], items := [], junk := [66, 67, 68, 69, 70, 71, 72, 73, 74, 75, 76, 77, 78, 79, 80, 81, 82, 83, 84, 6], tails := [] }, { id := 5006010, known := true, toks := [], items := [.slot 6 (.val .bool)], junk := [66, 67, 68, 69, 70, 71, 72, 73, 74, 75, 76, 77, 78, 79, 80, 81, 82, 83, 84], tails := [] }, { id := 5006011, known := false, toks := [], items := [.slot 15 (.val (.int .i64))], junk := [86, 87, 85, 88, 89], tails := [] }, { id := 5006012, known := false, toks := [], items := [.slot 17 (.val (.int .i64))], junk := [91, 92, 90, 93, 94], tails := [] }, { id := 5006013, known := true, toks := [], items := [.slot 6 (.val .bool)], junk := [95, 96, 97, 98, 99, 100, 101, 102, 103, 104, 105, 106, 107, 108, 109, 110, 111, 112, 113, 114, 115, 116, 117, 118, 119, 120, 121, 122, 123, 124, 125, 126, 127, 128, 129, 130, 131, 132, 133, 134, 135, 136, 137, 138, 139, 140], tails := [] }], [])
def sp4_7 : List LSpec × List Nat := ([{ id := 5007000, known := false, toks := [], items := [], junk := [4], tails := [] }, { id := 5007001, known := false, toks := [], items := [.slot 5 (.val .bool)], junk := [12], tails := [] }, { id := 5007002, known := true, toks := [], items := [.slot 24 (.val .bool)], junk := [13, 14, 15, 16, 17, 18, 19, 20, 21, 22, 23], tails := [] }, { id := 5007003, known := false, toks := [], items := [], junk := [25, 4], tails := [] }, { id := 5007004, known := false, toks := [], items := [.slot 4 (.val .bool)], junk := [25], tails := [] }, { id := 5007005, known := false, toks := [], items := [.slot 7 (.val (.int .i64))], junk := [27, 28, 29, 26, 30, 31], tails := [] }, { id := 5007006, known := false, toks := [], items := [.slot 9 (.val (.int .i64))], junk := [33, 34, 35, 32, 36, 37], tails := [] }, { id := 5007007, known := false, toks := [], items := [.slot 11 (.val (.int .i64))], junk := [39, 40, 38, 41, 42], tails := [] }, { id := 5007008, known := true, toks := [], items := [.slot 4 (.val .bool)], junk := [43, 44, 45, 46, 47, 48, 49, 50, 51, 52, 53, 54, 55, 56, 57, 58, 59, 60, 61, 62, 63, 64, 65, 66, 67, 68, 69, 70, 71, 72, 73, 74, 75, 76, 77, 78, 79, 80, 81, 82, 83, 84, 85], tails := [] }], [])
def spt4 : Tab (List LSpec × List Nat) := (.node (.node (.node (.node (.node (.node .leaf (some sp4_31) .leaf) none .leaf) (some sp4_7) .leaf) (some sp4_3) .leaf) none (.node (.node (.node .leaf (some sp4_17) .leaf) (some sp4_9) (.node .leaf (some sp4_25) .leaf)) (some sp4_5) (.node .leaf (some sp4_13) .leaf))) none (.node (.node .leaf (some sp4_4) (.node .leaf none (.node .leaf (some sp4_28) .leaf))) none (.node (.node .leaf (some sp4_10) .leaf) (some sp4_6) .leaf)))
def spf4 (f : Nat) : List LSpec × List Nat := (spt4.get f).getD ([], [])
theorem pd_law02_ShaComes : PureD Tryd.prog cfg 4 p_law02_ShaComes := fnDa spf4 [] (l := [(8, p_sha_More), (15, p_ref02_More), (9, p_sha_End), (16, p_ref02_End), (17, p_ref02_Same), (13, p_sha_Check), (18, p_ref02_Check), (14, p_sha_Begin), (19, p_ref02_Begin)]) (lo := [(8, o_sha_More)]) cfgOk cfgGlob (.cons pd_sha_More (.cons pd_ref02_More (.cons pd_sha_End (.cons pd_ref02_End (.cons pd_ref02_Same (.cons pd_sha_Check (.cons pd_ref02_Check (.cons pd_sha_Begin (.cons pd_ref02_Begin .nil))))))))) (.cons od_sha_More.1 .nil) (fun d => by kernel_rfl)

/-- thimblerig/thimblerigref02.Joined -/
noncomputable def ref02_Joined (d0 : List (List (Int))) : Option (List (Int)) :=
 if (Dat.EqN 0 (Dat.len ([] : List (Int)))) then Dat.loop (fun (s3 : (List (Int)) × (Int)) k4 =>
 (bif (Dat.ilt s3.2 (Dat.ofN (Dat.len d0))) then if (Dat.Ix s3.2 (Dat.len d0)) then Dat.bnd (Dat.get d0 (Dat.toN s3.2) ([] : List (Int))) fun (x7 : List (Int)) =>
 if (Dat.Big (Dat.len s3.1) (Dat.len x7) 1) then none
 else if (Dat.EqN (Dat.len s3.1) (Dat.len s3.1)) then Dat.bnd (Dat.app s3.1 x7) fun (x12 : List (Int)) =>
 Dat.bnd (Dat.wrap .i64 (Dat.add s3.2 1)) fun (x13 : Int) =>
 if (Dat.EqN (Dat.len x12) (Dat.len x12)) then k4 (x12, x13)
 else none
 else none
 else none
 else some s3.1)) (([] : List (Int)), 0)
 else none
noncomputable def p_ref02_Joined : PFn := { args := [(.list (.list (.int .u8)))], res := [(.list (.int .u8))], fn := ref02_Joined }
def sp21_21 : List LSpec × List Nat := ([{ id := 2100, known := true, toks := [(3, (.int .u8))], items := [.slot 3 (.slt (.int .u8) (some 1000003) false), .slot 4 (.val (.int .i64))], junk := [5, 6, 7, 8, 11, 12, 13, 14, 15, 16, 9, 10], tails := [(1000003, 3)] }], [])
def spt21 : Tab (List LSpec × List Nat) := (.node (.node .leaf none (.node .leaf none (.node (.node .leaf (some sp21_21) .leaf) none .leaf))) none .leaf)
def spf21 (f : Nat) : List LSpec × List Nat := (spt21.get f).getD ([], [])
theorem pd_ref02_Joined : PureD Tryd.prog cfg 21 p_ref02_Joined := fnD spf21 (l := []) cfgOk cfgGlob .nil (fun d => by kernel_rfl)

/-- thimblerig/thimblerigref02.Of -/
noncomputable def ref02_Of (d0 : List (Int)) : Option (List (Int)) :=
 Dat.bind (ref02_Begin ()) fun (x1 : (List (Int)) × ((List (Int)) × ((Int) × (Unit)))) =>
 Dat.bind (ref02_Came ((((Dat.get x1.1 0 0) :: ((Dat.get x1.1 1 0) :: ((Dat.get x1.1 2 0) :: ((Dat.get x1.1 3 0) :: ((Dat.get x1.1 4 0) :: ((Dat.get x1.1 5 0) :: ((Dat.get x1.1 6 0) :: ((Dat.get x1.1 7 0) :: ([] : List (Int)))))))))), (x1.2.1, (x1.2.2.1, ()))), d0)) fun (x2 : (List (Int)) × ((List (Int)) × ((Int) × (Unit)))) =>
 Dat.bind (ref02_Ended (((Dat.get x2.1 0 0) :: ((Dat.get x2.1 1 0) :: ((Dat.get x2.1 2 0) :: ((Dat.get x2.1 3 0) :: ((Dat.get x2.1 4 0) :: ((Dat.get x2.1 5 0) :: ((Dat.get x2.1 6 0) :: ((Dat.get x2.1 7 0) :: ([] : List (Int)))))))))), (x2.2.1, (x2.2.2.1, ())))) fun (x3 : List (Int)) =>
 if (Dat.EqN (Dat.len (Dat.rep 32 0)) 32) then if (Dat.EqN (Dat.len (Dat.norm 32 x3 0)) 32) then some (Dat.norm 32 x3 0)
 else none
 else none
noncomputable def p_ref02_Of : PFn := { args := [(.list (.int .u8))], res := [(.arr 32 (.int .u8))], fn := ref02_Of }
theorem pd_ref02_Of : PureD Tryd.prog cfg 20 p_ref02_Of := fnD sp0 (l := [(19, p_ref02_Begin), (26, p_ref02_Came), (27, p_ref02_Ended)]) cfgOk cfgGlob (.cons pd_ref02_Begin (.cons pd_ref02_Came (.cons pd_ref02_Ended .nil))) (fun d => by kernel_rfl)

/-- thimblerig/thimbleriglaw02.ShaTells -/
noncomputable def law02_ShaTells (d0 : (List (Int)) × ((List (Int)) × (List (Int)))) : Option (Bool) :=
 Dat.join (σ := Bool) (fun k1 =>
 (bif (Dat.igt (Dat.ofN (Dat.len d0.1)) 500) then k1 true
 else (bif (Dat.pickB false true (Dat.igt (Dat.ofN (Dat.len d0.2.1)) 500)) then k1 true
 else k1 (Dat.pickB false true (Dat.igt (Dat.ofN (Dat.len d0.2.2)) 500))))) fun (j2 : Bool) =>
 (bif j2 then some true
 else if (Dat.Le (Dat.addN 0 0) (Dat.len ([] : List (Int)))) then if (Dat.Big (Dat.len (Dat.seg ([] : List (Int)) 0 0)) (Dat.len d0.1) 1) then none
 else Dat.bnd (Dat.app (Dat.seg ([] : List (Int)) 0 0) d0.1) fun (x7 : List (Int)) =>
 if (Dat.Le (Dat.addN 0 0) (Dat.len ([] : List (Int)))) then if (Dat.Big (Dat.len (Dat.seg ([] : List (Int)) 0 0)) (Dat.len d0.2.1) 1) then none
 else Dat.bnd (Dat.app (Dat.seg ([] : List (Int)) 0 0) d0.2.1) fun (x12 : List (Int)) =>
 if (Dat.Le (Dat.addN 0 0) (Dat.len ([] : List (Int)))) then if (Dat.Big (Dat.len (Dat.seg ([] : List (Int)) 0 0)) (Dat.len d0.2.2) 1) then none
 else Dat.bnd (Dat.app (Dat.seg ([] : List (Int)) 0 0) d0.2.2) fun (x17 : List (Int)) =>
 Dat.bind (sha_Of (x7 :: (x12 :: (x17 :: ([] : List (List (Int))))))) fun (x18 : List (Int)) =>
 if (Dat.EqN (Dat.len (Dat.rep 32 0)) 32) then if (Dat.EqN (Dat.len (Dat.norm 32 x18 0)) 32) then if (Dat.Le (Dat.addN 0 3) (Dat.len (d0.1 :: (d0.2.1 :: (d0.2.2 :: ([] : List (List (Int)))))))) then Dat.bind (ref02_Joined (Dat.seg (d0.1 :: (d0.2.1 :: (d0.2.2 :: ([] : List (List (Int)))))) 0 3)) fun (x25 : List (Int)) =>
 Dat.bind (ref02_Of x25) fun (x26 : List (Int)) =>
 (bif (Dat.lq 32 (Dat.norm 32 x18 0) x26) then Dat.bnd (Dat.str x7) fun (x27 : List (UInt8)) =>
 Dat.bnd (Dat.str d0.1) fun (x28 : List (UInt8)) =>
 (bif (Dat.pickB true (Dat.seq x27 x28) false) then Dat.bnd (Dat.str x12) fun (x29 : List (UInt8)) =>
 Dat.bnd (Dat.str d0.2.1) fun (x30 : List (UInt8)) =>
 (bif (Dat.pickB true (Dat.seq x29 x30) false) then Dat.bnd (Dat.str x17) fun (x31 : List (UInt8)) =>
 Dat.bnd (Dat.str d0.2.2) fun (x32 : List (UInt8)) =>
 some (Dat.pickB true (Dat.seq x31 x32) false)
 else some false)
 else some false)
 else some false)
 else none
 else none
 else none
 else none
 else none
 else none)
noncomputable def p_law02_ShaTells : PFn := { args := [(.list (.int .u8)), (.list (.int .u8)), (.list (.int .u8))], res := [.bool], fn := law02_ShaTells }
def sp5_13 : List LSpec × List Nat := ([{ id := 5013000, known := false, toks := [], items := [], junk := [2], tails := [] }, { id := 5013001, known := true, toks := [], items := [.slot 15 (.val .bool)], junk := [3, 4, 5, 6, 7, 8, 9, 10, 11, 12, 13, 14], tails := [] }, { id := 5013002, known := false, toks := [], items := [], junk := [2], tails := [] }, { id := 5013003, known := false, toks := [], items := [.slot 2 (.val (.int .i64))], junk := [], tails := [] }, { id := 5013004, known := false, toks := [], items := [.slot 2 (.val (.int .i64))], junk := [], tails := [] }], [])
def sp5_31 : List LSpec × List Nat := ([{ id := 5031000, known := false, toks := [], items := [], junk := [4], tails := [] }, { id := 5031001, known := false, toks := [], items := [.slot 5 (.val (.int .u32))], junk := [6, 7, 8, 9, 10, 11], tails := [] }, { id := 5031002, known := false, toks := [], items := [.slot 13 (.val .bool)], junk := [12], tails := [] }, { id := 5031003, known := true, toks := [], items := [.slot 5 (.val (.int .u32))], junk := [14, 15, 16, 17, 18], tails := [] }, { id := 5031004, known := false, toks := [], items := [.slot 5 (.val (.int .u32))], junk := [14, 15, 16, 17, 18], tails := [] }, { id := 5031005, known := false, toks := [], items := [.slot 4 (.val (.int .u32))], junk := [19, 20, 21, 22, 23, 24, 25, 26, 27, 28, 29, 30, 31, 32, 33], tails := [] }], [])
def sp5_28 : List LSpec × List Nat := ([{ id := 5028000, known := false, toks := [], items := [], junk := [], tails := [] }, { id := 5028001, known := false, toks := [], items := [], junk := [7, 8], tails := [] }, { id := 5028002, known := false, toks := [], items := [], junk := [9, 10], tails := [] }, { id := 5028003, known := false, toks := [], items := [], junk := [], tails := [] }, { id := 5028004, known := false, toks := [], items := [.slot 11 (.val (.int .i64))], junk := [], tails := [] }, { id := 2800, known := false, toks := [], items := [], junk := [], tails := [] }, { id := 5028005, known := false, toks := [], items := [], junk := [], tails := [] }, { id := 5028006, known := false, toks := [], items := [], junk := [], tails := [] }, { id := 5028007, known := false, toks := [], items := [.slot 6 (.val (.int .i64))], junk := [13], tails := [] }, { id := 5028008, known := false, toks := [], items := [.slot 15 (.val .bool)], junk := [14], tails := [] }, { id := 5028009, known := true, toks := [], items := [], junk := [16, 17, 18, 19, 20, 21, 22, 23, 24, 25, 26, 27, 28, 29, 30, 31, 32, 33, 34, 35, 36, 37, 38, 39, 40, 41, 42, 43, 44, 45, 46, 47, 48, 49, 50, 51, 52, 53, 54, 55, 56, 57, 58, 59, 60, 61, 62, 63, 64, 65, 66, 67, 68, 69, 70, 71], tails := [] }, { id := 5028010, known := false, toks := [], items := [], junk := [16, 17, 18, 19, 20, 21, 22, 23, 24, 25, 26, 27, 28, 29, 30, 31, 32, 33, 34, 35, 36, 37, 38, 39, 40, 41, 42, 43, 44, 45, 46], tails := [] }, { id := 5028011, known := false, toks := [], items := [], junk := [47, 48, 49, 50, 51, 52, 53, 54, 55, 56, 57, 58, 59, 60, 61, 62, 63, 64, 65, 66, 67, 68, 69, 70, 71], tails := [] }, { id := 5028012, known := false, toks := [], items := [.slot 11 (.val (.int .i64))], junk := [72], tails := [] }, { id := 5028013, known := false, toks := [], items := [], junk := [73], tails := [] }], [])
def sp5_9 : List LSpec × List Nat := ([{ id := 5009000, known := false, toks := [], items := [], junk := [3], tails := [] }, { id := 5009001, known := false, toks := [], items := [.slot 4 (.val (.int .i64))], junk := [9, 10], tails := [] }, { id := 5009002, known := false, toks := [], items := [.slot 12 (.val .bool)], junk := [11], tails := [] }, { id := 5009003, known := false, toks := [], items := [], junk := [13, 14, 3], tails := [] }, { id := 5009004, known := false, toks := [], items := [.slot 3 (.val (.int .i64))], junk := [13, 14], tails := [] }, { id := 5009005, known := false, toks := [], items := [], junk := [15, 16], tails := [] }, { id := 5009006, known := false, toks := [], items := [], junk := [], tails := [] }, { id := 5009007, known := false, toks := [], items := [.slot 7 (.val (.int .i64))], junk := [17, 18, 19, 20], tails := [] }, { id := 5009008, known := false, toks := [], items := [], junk := [21, 22], tails := [] }, { id := 5009009, known := false, toks := [], items := [.slot 24 (.val .bool)], junk := [23], tails := [] }, { id := 5009010, known := true, toks := [], items := [], junk := [25, 26, 27, 28], tails := [] }, { id := 5009011, known := false, toks := [], items := [], junk := [25, 26, 27], tails := [] }, { id := 5009012, known := false, toks := [], items := [], junk := [28], tails := [] }, { id := 5009013, known := false, toks := [], items := [.slot 29 (.val (.int .i64))], junk := [], tails := [] }, { id := 900, known := false, toks := [], items := [], junk := [], tails := [] }, { id := 5009014, known := false, toks := [], items := [.slot 30 (.val .bool)], junk := [], tails := [] }, { id := 5009015, known := false, toks := [], items := [], junk := [], tails := [] }, { id := 5009016, known := false, toks := [], items := [.slot 8 (.val (.int .i64))], junk := [31], tails := [] }, { id := 5009017, known := false, toks := [], items := [], junk := [32, 33, 34, 35, 36, 37, 38, 39, 40, 41], tails := [] }, { id := 5009018, known := false, toks := [], items := [.slot 29 (.val (.int .i64))], junk := [42], tails := [] }, { id := 5009019, known := false, toks := [], items := [.slot 3 (.val (.int .i64))], junk := [43, 44, 45, 46], tails := [] }], [])
def sp5_10 : List LSpec × List Nat := ([{ id := 5010000, known := false, toks := [], items := [], junk := [0], tails := [] }, { id := 5010001, known := true, toks := [], items := [.slot 0 (.val .bool)], junk := [1, 2, 3, 4, 5, 6, 7, 8, 9, 10, 11, 12, 13], tails := [] }], [])
def sp5_3 : List LSpec × List Nat := ([{ id := 5003000, known := false, toks := [], items := [], junk := [0], tails := [] }, { id := 5003001, known := false, toks := [], items := [.slot 2 (.val (.int .i64))], junk := [8, 9, 10, 7, 11, 12, 1], tails := [] }, { id := 5003002, known := false, toks := [], items := [.slot 4 (.val (.int .i64))], junk := [14, 15, 16, 13, 17, 18, 3], tails := [] }, { id := 5003003, known := false, toks := [], items := [.slot 6 (.val (.int .i64))], junk := [20, 21, 19, 22, 23, 5], tails := [] }, { id := 5003004, known := true, toks := [], items := [.slot 0 (.val .bool)], junk := [24, 25, 26, 27, 28, 29, 30, 31, 32, 33, 34, 35, 36, 37, 38, 39, 40, 41, 42, 43, 44, 45, 46, 47, 48, 49, 50, 51], tails := [] }], [])
def sp5_25 : List LSpec × List Nat := ([{ id := 5025000, known := false, toks := [], items := [], junk := [2], tails := [] }, { id := 5025001, known := true, toks := [], items := [.slot 2 (.val .bool)], junk := [3, 4, 5, 6, 7, 8, 9, 10, 11, 12, 13, 14, 15], tails := [] }], [])
def sp5_17 : List LSpec × List Nat := ([{ id := 5017000, known := false, toks := [], items := [], junk := [4], tails := [] }, { id := 5017001, known := true, toks := [], items := [.slot 4 (.val .bool)], junk := [5, 6, 7, 8, 9, 10, 11, 12, 13, 14, 15, 16, 17, 18, 19, 20, 21, 22, 23, 24, 25], tails := [] }], [])
def sp5_4 : List LSpec × List Nat := ([{ id := 5004000, known := false, toks := [], items := [], junk := [4], tails := [] }, { id := 5004001, known := true, toks := [], items := [.slot 25 (.val .bool)], junk := [17, 18, 19, 20, 21, 22, 23, 24], tails := [] }, { id := 5004002, known := false, toks := [], items := [], junk := [4], tails := [] }, { id := 5004003, known := false, toks := [], items := [.slot 4 (.val .bool)], junk := [], tails := [] }, { id := 5004004, known := false, toks := [], items := [], junk := [26, 27, 28, 29, 30, 31, 32, 33, 34], tails := [] }, { id := 5004005, known := false, toks := [], items := [], junk := [35, 36, 37], tails := [] }, { id := 5004006, known := false, toks := [], items := [.slot 8 (.val (.int .i64))], junk := [39, 40, 41, 38, 42, 43], tails := [] }, { id := 5004007, known := false, toks := [], items := [.slot 10 (.val (.int .i64))], junk := [45, 46, 47, 44, 48, 49], tails := [] }, { id := 5004008, known := false, toks := [], items := [.slot 12 (.val (.int .i64))], junk := [51, 52, 50, 53, 54], tails := [] }, { id := 5004009, known := false, toks := [], items := [.slot 14 (.val (.int .i64))], junk := [56, 57, 55, 58, 59], tails := [] }, { id := 5004010, known := true, toks := [], items := [.slot 15 (.val .bool)], junk := [60, 61, 62, 63, 64, 65, 66, 67, 68, 69, 70, 71, 72, 73, 74, 75, 76, 77, 78, 79, 80, 81, 82, 83, 84, 85, 86, 87, 88, 89], tails := [] }, { id := 5004011, known := false, toks := [], items := [.slot 16 (.val (.int .i64))], junk := [], tails := [] }, { id := 400, known := false, toks := [], items := [], junk := [], tails := [] }, { id := 5004012, known := false, toks := [], items := [.slot 94 (.val .bool)], junk := [90, 91, 92, 93], tails := [] }, { id := 5004013, known := false, toks := [], items := [], junk := [], tails := [] }, { id := 5004014, known := false, toks := [], items := [], junk := [97, 98, 99, 100, 101, 102, 103, 104, 105, 106], tails := [] }, { id := 5004015, known := false, toks := [], items := [.slot 16 (.val (.int .i64))], junk := [95, 96], tails := [] }, { id := 5004016, known := true, toks := [], items := [.slot 4 (.val .bool)], junk := [107, 108, 109, 110, 111, 112, 113, 114, 115, 116, 117, 118, 119], tails := [] }], [])
def sp5_5 : List LSpec × List Nat := ([{ id := 5005000, known := false, toks := [], items := [], junk := [6], tails := [] }, { id := 5005001, known := true, toks := [], items := [.slot 23 (.val .bool)], junk := [11, 12, 13, 14, 15, 16, 17, 18, 19, 20, 21, 22], tails := [] }, { id := 5005002, known := false, toks := [], items := [], junk := [6], tails := [] }, { id := 5005003, known := false, toks := [], items := [.slot 6 (.val .bool)], junk := [], tails := [] }, { id := 5005004, known := false, toks := [], items := [], junk := [24, 25, 26, 27, 28, 29, 30, 31, 32], tails := [] }, { id := 5005005, known := false, toks := [], items := [], junk := [33, 34, 35, 36, 37], tails := [] }, { id := 5005006, known := false, toks := [], items := [.slot 6 (.val .bool)], junk := [38, 39, 40, 41, 42, 43, 44, 45, 46, 47, 48, 49, 50, 51, 52, 53, 54, 55, 56, 57, 58, 59, 60, 61, 62, 63, 64, 65, 66], tails := [] }], [])
def sp5_6 : List LSpec × List Nat := ([{ id := 5006000, known := false, toks := [], items := [], junk := [6], tails := [] }, { id := 5006001, known := false, toks := [], items := [.slot 7 (.val .bool)], junk := [18], tails := [] }, { id := 5006002, known := true, toks := [], items := [.slot 36 (.val .bool)], junk := [19, 20, 21, 22, 23, 24, 25, 26, 27, 28, 29, 30, 31, 32, 33, 34, 35], tails := [] }, { id := 5006003, known := false, toks := [], items := [], junk := [37, 6], tails := [] }, { id := 5006004, known := false, toks := [], items := [.slot 6 (.val .bool)], junk := [37], tails := [] }, { id := 5006005, known := false, toks := [], items := [.slot 9 (.val (.int .i64))], junk := [39, 40, 41, 38, 42, 43], tails := [] }, { id := 5006006, known := false, toks := [], items := [.slot 11 (.val (.int .i64))], junk := [45, 46, 47, 44, 48, 49], tails := [] }, { id := 5006007, known := false, toks := [], items := [.slot 13 (.val (.int .i64))], junk := [51, 52, 53, 54, 55, 56, 57, 50, 58, 59], tails := [] }, { id := 5006008, known := true, toks := [], items := [.slot 65 (.val .bool)], junk := [60, 61, 62, 63, 64], tails := [] }, { id := 5006009, known := false, toks := [], items := [], junk := [66, 67, 68, 69, 70, 71, 72, 73, 74, 75, 76, 77, 78, 79, 80, 81, 82, 83, 84, 6], tails := [] }, { id := 5006010, known := true, toks := [], items := [.slot 6 (.val .bool)], junk := [66, 67, 68, 69, 70, 71, 72, 73, 74, 75, 76, 77, 78, 79, 80, 81, 82, 83, 84], tails := [] }, { id := 5006011, known := false, toks := [], items := [.slot 15 (.val (.int .i64))], junk := [86, 87, 85, 88, 89], tails := [] }, { id := 5006012, known := false, toks := [], items := [.slot 17 (.val (.int .i64))], junk := [91, 92, 90, 93, 94], tails := [] }, { id := 5006013, known := true, toks := [], items := [.slot 6 (.val .bool)], junk := [95, 96, 97, 98, 99, 100, 101, 102, 103, 104, 105, 106, 107, 108, 109, 110, 111, 112, 113, 114, 115, 116, 117, 118, 119, 120, 121, 122, 123, 124, 125, 126, 127, 128, 129, 130, 131, 132, 133, 134, 135, 136, 137, 138, 139, 140], tails := [] }], [])
def sp5_7 : List LSpec × List Nat := ([{ id := 5007000, known := false, toks := [], items := [], junk := [4], tails := [] }, { id := 5007001, known := false, toks := [], items := [.slot 5 (.val .bool)], junk := [12], tails := [] }, { id := 5007002, known := true, toks := [], items := [.slot 24 (.val .bool)], junk := [13, 14, 15, 16, 17, 18, 19, 20, 21, 22, 23], tails := [] }, { id := 5007003, known := false, toks := [], items := [], junk := [25, 4], tails := [] }, { id := 5007004, known := false, toks := [], items := [.slot 4 (.val .bool)], junk := [25], tails := [] }, { id := 5007005, known := false, toks := [], items := [.slot 7 (.val (.int .i64))], junk := [27, 28, 29, 26, 30, 31], tails := [] }, { id := 5007006, known := false, toks := [], items := [.slot 9 (.val (.int .i64))], junk := [33, 34, 35, 32, 36, 37], tails := [] }, { id := 5007007, known := false, toks := [], items := [.slot 11 (.val (.int .i64))], junk := [39, 40, 38, 41, 42], tails := [] }, { id := 5007008, known := true, toks := [], items := [.slot 4 (.val .bool)], junk := [43, 44, 45, 46, 47, 48, 49, 50, 51, 52, 53, 54, 55, 56, 57, 58, 59, 60, 61, 62, 63, 64, 65, 66, 67, 68, 69, 70, 71, 72, 73, 74, 75, 76, 77, 78, 79, 80, 81, 82, 83, 84, 85], tails := [] }], [])
def spt5 : Tab (List LSpec × List Nat) := (.node (.node (.node (.node (.node (.node .leaf (some sp5_31) .leaf) none .leaf) (some sp5_7) .leaf) (some sp5_3) .leaf) none (.node (.node (.node .leaf (some sp5_17) .leaf) (some sp5_9) (.node .leaf (some sp5_25) .leaf)) (some sp5_5) (.node .leaf (some sp5_13) .leaf))) none (.node (.node .leaf (some sp5_4) (.node .leaf none (.node .leaf (some sp5_28) .leaf))) none (.node (.node .leaf (some sp5_10) .leaf) (some sp5_6) .leaf)))
def spf5 (f : Nat) : List LSpec × List Nat := (spt5.get f).getD ([], [])
theorem pd_law02_ShaTells : PureD Tryd.prog cfg 5 p_law02_ShaTells := fnD spf5 (l := [(12, p_sha_Of), (21, p_ref02_Joined), (20, p_ref02_Of)]) cfgOk cfgGlob (.cons pd_sha_Of (.cons pd_ref02_Joined (.cons pd_ref02_Of .nil))) (fun d => by kernel_rfl)

/-- thimblerig/thimbleriglaw02.ShaParts -/
noncomputable def law02_ShaParts (d0 : ((List (Int)) × ((List (Int)) × ((Int) × (Unit)))) × ((List (Int)) × (List (Int)))) : Option (Bool) :=
 Dat.bind (law02_alive ()) fun (x1 : Bool) =>
 Dat.join (σ := Bool) (fun k2 =>
 (bif (Dat.igt (Dat.ofN (Dat.len d0.1.2.1)) 500) then k2 true
 else (bif (Dat.pickB false true (Dat.igt (Dat.ofN (Dat.len d0.2.1)) 500)) then k2 true
 else (bif (Dat.pickB false true (Dat.igt (Dat.ofN (Dat.len d0.2.2)) 500)) then k2 true
 else k2 (Dat.pickB false true (Dat.bnot x1)))))) fun (j3 : Bool) =>
 (bif j3 then some x1
 else Dat.bind (sha_More ((((Dat.get d0.1.1 0 0) :: ((Dat.get d0.1.1 1 0) :: ((Dat.get d0.1.1 2 0) :: ((Dat.get d0.1.1 3 0) :: ((Dat.get d0.1.1 4 0) :: ((Dat.get d0.1.1 5 0) :: ((Dat.get d0.1.1 6 0) :: ((Dat.get d0.1.1 7 0) :: ([] : List (Int)))))))))), (d0.1.2.1, (d0.1.2.2.1, ()))), d0.2.1)) fun (x4 : ((List (Int)) × ((List (Int)) × ((Int) × (Unit)))) × (Int)) =>
 Dat.bind (sha_More ((((Dat.get x4.1.1 0 0) :: ((Dat.get x4.1.1 1 0) :: ((Dat.get x4.1.1 2 0) :: ((Dat.get x4.1.1 3 0) :: ((Dat.get x4.1.1 4 0) :: ((Dat.get x4.1.1 5 0) :: ((Dat.get x4.1.1 6 0) :: ((Dat.get x4.1.1 7 0) :: ([] : List (Int)))))))))), (x4.1.2.1, (x4.1.2.2.1, ()))), d0.2.2)) fun (x5 : ((List (Int)) × ((List (Int)) × ((Int) × (Unit)))) × (Int)) =>
 if (Dat.Le (Dat.addN 0 0) (Dat.len ([] : List (Int)))) then if (Dat.Big (Dat.len (Dat.seg ([] : List (Int)) 0 0)) (Dat.len d0.2.1) 1) then none
 else Dat.bnd (Dat.app (Dat.seg ([] : List (Int)) 0 0) d0.2.1) fun (x10 : List (Int)) =>
 if (Dat.Big (Dat.len x10) (Dat.len d0.2.2) 1) then none
 else if (Dat.EqN (Dat.len x10) (Dat.len x10)) then Dat.bnd (Dat.app x10 d0.2.2) fun (x15 : List (Int)) =>
 Dat.bind (sha_More ((((Dat.get d0.1.1 0 0) :: ((Dat.get d0.1.1 1 0) :: ((Dat.get d0.1.1 2 0) :: ((Dat.get d0.1.1 3 0) :: ((Dat.get d0.1.1 4 0) :: ((Dat.get d0.1.1 5 0) :: ((Dat.get d0.1.1 6 0) :: ((Dat.get d0.1.1 7 0) :: ([] : List (Int)))))))))), (d0.1.2.1, (d0.1.2.2.1, ()))), x15)) fun (x16 : ((List (Int)) × ((List (Int)) × ((Int) × (Unit)))) × (Int)) =>
 Dat.join (σ := Bool) (fun k17 =>
 (bif (Dat.ine x4.2 0) then k17 true
 else k17 (Dat.pickB false true (Dat.ine x5.2 0)))) fun (j18 : Bool) =>
 (bif j18 then Dat.join (σ := Bool) (fun k19 =>
 (bif x1 then (bif (Dat.pickB true (Dat.ine x16.2 0) false) then (bif (Dat.ieq x4.2 0) then k19 (Dat.pickB true true false)
 else Dat.bind (sha_Check (((Dat.get d0.1.1 0 0) :: ((Dat.get d0.1.1 1 0) :: ((Dat.get d0.1.1 2 0) :: ((Dat.get d0.1.1 3 0) :: ((Dat.get d0.1.1 4 0) :: ((Dat.get d0.1.1 5 0) :: ((Dat.get d0.1.1 6 0) :: ((Dat.get d0.1.1 7 0) :: ([] : List (Int)))))))))), (d0.1.2.1, (d0.1.2.2.1, ())))) fun (x20 : Int) =>
 (bif (Dat.pickB false true (Dat.ieq x4.2 x20)) then k19 (Dat.pickB true true false)
 else k19 (Dat.pickB true (Dat.pickB false true (Dat.ieq x4.2 4)) false)))
 else k19 false)
 else k19 false)) fun (j21 : Bool) =>
 some j21
 else Dat.bind (sha_End (((Dat.get x5.1.1 0 0) :: ((Dat.get x5.1.1 1 0) :: ((Dat.get x5.1.1 2 0) :: ((Dat.get x5.1.1 3 0) :: ((Dat.get x5.1.1 4 0) :: ((Dat.get x5.1.1 5 0) :: ((Dat.get x5.1.1 6 0) :: ((Dat.get x5.1.1 7 0) :: ([] : List (Int)))))))))), (x5.1.2.1, (x5.1.2.2.1, ())))) fun (x22 : (List (Int)) × (Int)) =>
 if (Dat.EqN (Dat.len (Dat.rep 32 0)) 32) then Dat.bind (sha_End (((Dat.get x16.1.1 0 0) :: ((Dat.get x16.1.1 1 0) :: ((Dat.get x16.1.1 2 0) :: ((Dat.get x16.1.1 3 0) :: ((Dat.get x16.1.1 4 0) :: ((Dat.get x16.1.1 5 0) :: ((Dat.get x16.1.1 6 0) :: ((Dat.get x16.1.1 7 0) :: ([] : List (Int)))))))))), (x16.1.2.1, (x16.1.2.2.1, ())))) fun (x25 : (List (Int)) × (Int)) =>
 if (Dat.EqN (Dat.len (Dat.rep 32 0)) 32) then Dat.join (σ := Bool) (fun k28 =>
 (bif x1 then (bif (Dat.pickB true (Dat.ieq x16.2 0) false) then (bif (Dat.pickB true (Dat.ieq x22.2 0) false) then (bif (Dat.pickB true (Dat.ieq x25.2 0) false) then if (Dat.EqN (Dat.len (Dat.norm 32 x22.1 0)) 32) then if (Dat.EqN (Dat.len (Dat.norm 32 x25.1 0)) 32) then (bif (Dat.pickB true (Dat.lq 32 (Dat.norm 32 x22.1 0) (Dat.norm 32 x25.1 0)) false) then (bif (Dat.pickB true (Dat.andB (Dat.ieq (Dat.get x5.1.1 0 0) (Dat.get x16.1.1 0 0)) (Dat.andB (Dat.ieq (Dat.get x5.1.1 1 0) (Dat.get x16.1.1 1 0)) (Dat.andB (Dat.ieq (Dat.get x5.1.1 2 0) (Dat.get x16.1.1 2 0)) (Dat.andB (Dat.ieq (Dat.get x5.1.1 3 0) (Dat.get x16.1.1 3 0)) (Dat.andB (Dat.ieq (Dat.get x5.1.1 4 0) (Dat.get x16.1.1 4 0)) (Dat.andB (Dat.ieq (Dat.get x5.1.1 5 0) (Dat.get x16.1.1 5 0)) (Dat.andB (Dat.ieq (Dat.get x5.1.1 6 0) (Dat.get x16.1.1 6 0)) (Dat.andB (Dat.ieq (Dat.get x5.1.1 7 0) (Dat.get x16.1.1 7 0)) true)))))))) false) then Dat.bnd (Dat.str x5.1.2.1) fun (x33 : List (UInt8)) =>
 Dat.bnd (Dat.str x16.1.2.1) fun (x34 : List (UInt8)) =>
 (bif (Dat.pickB true (Dat.seq x33 x34) false) then (bif (Dat.pickB true (Dat.ieq x5.1.2.2.1 x16.1.2.2.1) false) then Dat.bind (sha_Check (((Dat.get x5.1.1 0 0) :: ((Dat.get x5.1.1 1 0) :: ((Dat.get x5.1.1 2 0) :: ((Dat.get x5.1.1 3 0) :: ((Dat.get x5.1.1 4 0) :: ((Dat.get x5.1.1 5 0) :: ((Dat.get x5.1.1 6 0) :: ((Dat.get x5.1.1 7 0) :: ([] : List (Int)))))))))), (x5.1.2.1, (x5.1.2.2.1, ())))) fun (x35 : Int) =>
 k28 (Dat.pickB true (Dat.ieq x35 0) false)
 else k28 false)
 else k28 false)
 else k28 false)
 else k28 false)
 else none
 else none
 else k28 false)
 else k28 false)
 else k28 false)
 else k28 false)) fun (j36 : Bool) =>
 some j36
 else none
 else none)
 else none
 else none)
noncomputable def p_law02_ShaParts : PFn := { args := [(.pair (.arr 8 (.int .u32)) (.pair (.list (.int .u8)) (.pair (.int .u64) .unit))), (.list (.int .u8)), (.list (.int .u8))], res := [.bool], fn := law02_ShaParts }
def sp6_13 : List LSpec × List Nat := ([{ id := 5013000, known := false, toks := [], items := [], junk := [2], tails := [] }, { id := 5013001, known := true, toks := [], items := [.slot 15 (.val .bool)], junk := [3, 4, 5, 6, 7, 8, 9, 10, 11, 12, 13, 14], tails := [] }, { id := 5013002, known := false, toks := [], items := [], junk := [2], tails := [] }, { id := 5013003, known := false, toks := [], items := [.slot 2 (.val (.int .i64))], junk := [], tails := [] }, { id := 5013004, known := false, toks := [], items := [.slot 2 (.val (.int .i64))], junk := [], tails := [] }], [])
def sp6_31 : List LSpec × List Nat := ([{ id := 5031000, known := false, toks := [], items := [], junk := [4], tails := [] }, { id := 5031001, known := false, toks := [], items := [.slot 5 (.val (.int .u32))], junk := [6, 7, 8, 9, 10, 11], tails := [] }, { id := 5031002, known := false, toks := [], items := [.slot 13 (.val .bool)], junk := [12], tails := [] }, { id := 5031003, known := true, toks := [], items := [.slot 5 (.val (.int .u32))], junk := [14, 15, 16, 17, 18], tails := [] }, { id := 5031004, known := false, toks := [], items := [.slot 5 (.val (.int .u32))], junk := [14, 15, 16, 17, 18], tails := [] }, { id := 5031005, known := false, toks := [], items := [.slot 4 (.val (.int .u32))], junk := [19, 20, 21, 22, 23, 24, 25, 26, 27, 28, 29, 30, 31, 32, 33], tails := [] }], [])
def sp6_28 : List LSpec × List Nat := ([{ id := 5028000, known := false, toks := [], items := [], junk := [], tails := [] }, { id := 5028001, known := false, toks := [], items := [], junk := [7, 8], tails := [] }, { id := 5028002, known := false, toks := [], items := [], junk := [9, 10], tails := [] }, { id := 5028003, known := false, toks := [], items := [], junk := [], tails := [] }, { id := 5028004, known := false, toks := [], items := [.slot 11 (.val (.int .i64))], junk := [], tails := [] }, { id := 2800, known := false, toks := [], items := [], junk := [], tails := [] }, { id := 5028005, known := false, toks := [], items := [], junk := [], tails := [] }, { id := 5028006, known := false, toks := [], items := [], junk := [], tails := [] }, { id := 5028007, known := false, toks := [], items := [.slot 6 (.val (.int .i64))], junk := [13], tails := [] }, { id := 5028008, known := false, toks := [], items := [.slot 15 (.val .bool)], junk := [14], tails := [] }, { id := 5028009, known := true, toks := [], items := [], junk := [16, 17, 18, 19, 20, 21, 22, 23, 24, 25, 26, 27, 28, 29, 30, 31, 32, 33, 34, 35, 36, 37, 38, 39, 40, 41, 42, 43, 44, 45, 46, 47, 48, 49, 50, 51, 52, 53, 54, 55, 56, 57, 58, 59, 60, 61, 62, 63, 64, 65, 66, 67, 68, 69, 70, 71], tails := [] }, { id := 5028010, known := false, toks := [], items := [], junk := [16, 17, 18, 19, 20, 21, 22, 23, 24, 25, 26, 27, 28, 29, 30, 31, 32, 33, 34, 35, 36, 37, 38, 39, 40, 41, 42, 43, 44, 45, 46], tails := [] }, { id := 5028011, known := false, toks := [], items := [], junk := [47, 48, 49, 50, 51, 52, 53, 54, 55, 56, 57, 58, 59, 60, 61, 62, 63, 64, 65, 66, 67, 68, 69, 70, 71], tails := [] }, { id := 5028012, known := false, toks := [], items := [.slot 11 (.val (.int .i64))], junk := [72], tails := [] }, { id := 5028013, known := false, toks := [], items := [], junk := [73], tails := [] }], [])
def sp6_9 : List LSpec × List Nat := ([{ id := 5009000, known := false, toks := [], items := [], junk := [3], tails := [] }, { id := 5009001, known := false, toks := [], items := [.slot 4 (.val (.int .i64))], junk := [9, 10], tails := [] }, { id := 5009002, known := false, toks := [], items := [.slot 12 (.val .bool)], junk := [11], tails := [] }, { id := 5009003, known := false, toks := [], items := [], junk := [13, 14, 3], tails := [] }, { id := 5009004, known := false, toks := [], items := [.slot 3 (.val (.int .i64))], junk := [13, 14], tails := [] }, { id := 5009005, known := false, toks := [], items := [], junk := [15, 16], tails := [] }, { id := 5009006, known := false, toks := [], items := [], junk := [], tails := [] }, { id := 5009007, known := false, toks := [], items := [.slot 7 (.val (.int .i64))], junk := [17, 18, 19, 20], tails := [] }, { id := 5009008, known := false, toks := [], items := [], junk := [21, 22], tails := [] }, { id := 5009009, known := false, toks := [], items := [.slot 24 (.val .bool)], junk := [23], tails := [] }, { id := 5009010, known := true, toks := [], items := [], junk := [25, 26, 27, 28], tails := [] }, { id := 5009011, known := false, toks := [], items := [], junk := [25, 26, 27], tails := [] }, { id := 5009012, known := false, toks := [], items := [], junk := [28], tails := [] }, { id := 5009013, known := false, toks := [], items := [.slot 29 (.val (.int .i64))], junk := [], tails := [] }, { id := 900, known := false, toks := [], items := [], junk := [], tails := [] }, { id := 5009014, known := false, toks := [], items := [.slot 30 (.val .bool)], junk := [], tails := [] }, { id := 5009015, known := false, toks := [], items := [], junk := [], tails := [] }, { id := 5009016, known := false, toks := [], items := [.slot 8 (.val (.int .i64))], junk := [31], tails := [] }, { id := 5009017, known := false, toks := [], items := [], junk := [32, 33, 34, 35, 36, 37, 38, 39, 40, 41], tails := [] }, { id := 5009018, known := false, toks := [], items := [.slot 29 (.val (.int .i64))], junk := [42], tails := [] }, { id := 5009019, known := false, toks := [], items := [.slot 3 (.val (.int .i64))], junk := [43, 44, 45, 46], tails := [] }], [])
def sp6_10 : List LSpec × List Nat := ([{ id := 5010000, known := false, toks := [], items := [], junk := [0], tails := [] }, { id := 5010001, known := true, toks := [], items := [.slot 0 (.val .bool)], junk := [1, 2, 3, 4, 5, 6, 7, 8, 9, 10, 11, 12, 13], tails := [] }], [])
def sp6_3 : List LSpec × List Nat := ([{ id := 5003000, known := false, toks := [], items := [], junk := [0], tails := [] }, { id := 5003001, known := false, toks := [], items := [.slot 2 (.val (.int .i64))], junk := [8, 9, 10, 7, 11, 12, 1], tails := [] }, { id := 5003002, known := false, toks := [], items := [.slot 4 (.val (.int .i64))], junk := [14, 15, 16, 13, 17, 18, 3], tails := [] }, { id := 5003003, known := false, toks := [], items := [.slot 6 (.val (.int .i64))], junk := [20, 21, 19, 22, 23, 5], tails := [] }, { id := 5003004, known := true, toks := [], items := [.slot 0 (.val .bool)], junk := [24, 25, 26, 27, 28, 29, 30, 31, 32, 33, 34, 35, 36, 37, 38, 39, 40, 41, 42, 43, 44, 45, 46, 47, 48, 49, 50, 51], tails := [] }], [])
def sp6_25 : List LSpec × List Nat := ([{ id := 5025000, known := false, toks := [], items := [], junk := [2], tails := [] }, { id := 5025001, known := true, toks := [], items := [.slot 2 (.val .bool)], junk := [3, 4, 5, 6, 7, 8, 9, 10, 11, 12, 13, 14, 15], tails := [] }], [])
def sp6_17 : List LSpec × List Nat := ([{ id := 5017000, known := false, toks := [], items := [], junk := [4], tails := [] }, { id := 5017001, known := true, toks := [], items := [.slot 4 (.val .bool)], junk := [5, 6, 7, 8, 9, 10, 11, 12, 13, 14, 15, 16, 17, 18, 19, 20, 21, 22, 23, 24, 25], tails := [] }], [])
def sp6_4 : List LSpec × List Nat := ([{ id := 5004000, known := false, toks := [], items := [], junk := [4], tails := [] }, { id := 5004001, known := true, toks := [], items := [.slot 25 (.val .bool)], junk := [17, 18, 19, 20, 21, 22, 23, 24], tails := [] }, { id := 5004002, known := false, toks := [], items := [], junk := [4], tails := [] }, { id := 5004003, known := false, toks := [], items := [.slot 4 (.val .bool)], junk := [], tails := [] }, { id := 5004004, known := false, toks := [], items := [], junk := [26, 27, 28, 29, 30, 31, 32, 33, 34], tails := [] }, { id := 5004005, known := false, toks := [], items := [], junk := [35, 36, 37], tails := [] }, { id := 5004006, known := false, toks := [], items := [.slot 8 (.val (.int .i64))], junk := [39, 40, 41, 38, 42, 43], tails := [] }, { id := 5004007, known := false, toks := [], items := [.slot 10 (.val (.int .i64))], junk := [45, 46, 47, 44, 48, 49], tails := [] }, { id := 5004008, known := false, toks := [], items := [.slot 12 (.val (.int .i64))], junk := [51, 52, 50, 53, 54], tails := [] }, { id := 5004009, known := false, toks := [], items := [.slot 14 (.val (.int .i64))], junk := [56, 57, 55, 58, 59], tails := [] }, { id := 5004010, known := true, toks := [], items := [.slot 15 (.val .bool)], junk := [60, 61, 62, 63, 64, 65, 66, 67, 68, 69, 70, 71, 72, 73, 74, 75, 76, 77, 78, 79, 80, 81, 82, 83, 84, 85, 86, 87, 88, 89], tails := [] }, { id := 5004011, known := false, toks := [], items := [.slot 16 (.val (.int .i64))], junk := [], tails := [] }, { id := 400, known := false, toks := [], items := [], junk := [], tails := [] }, { id := 5004012, known := false, toks := [], items := [.slot 94 (.val .bool)], junk := [90, 91, 92, 93], tails := [] }, { id := 5004013, known := false, toks := [], items := [], junk := [], tails := [] }, { id := 5004014, known := false, toks := [], items := [], junk := [97, 98, 99, 100, 101, 102, 103, 104, 105, 106], tails := [] }, { id := 5004015, known := false, toks := [], items := [.slot 16 (.val (.int .i64))], junk := [95, 96], tails := [] }, { id := 5004016, known := true, toks := [], items := [.slot 4 (.val .bool)], junk := [107, 108, 109, 110, 111, 112, 113, 114, 115, 116, 117, 118, 119], tails := [] }], [])
def sp6_5 : List LSpec × List Nat := ([{ id := 5005000, known := false, toks := [], items := [], junk := [6], tails := [] }, { id := 5005001, known := true, toks := [], items := [.slot 23 (.val .bool)], junk := [11, 12, 13, 14, 15, 16, 17, 18, 19, 20, 21, 22], tails := [] }, { id := 5005002, known := false, toks := [], items := [], junk := [6], tails := [] }, { id := 5005003, known := false, toks := [], items := [.slot 6 (.val .bool)], junk := [], tails := [] }, { id := 5005004, known := false, toks := [], items := [], junk := [24, 25, 26, 27, 28, 29, 30, 31, 32], tails := [] }, { id := 5005005, known := false, toks := [], items := [], junk := [33, 34, 35, 36, 37], tails := [] }, { id := 5005006, known := true, toks := [], items := [.slot 6 (.val .bool)], junk := [38, 39, 40, 41, 42, 43, 44, 45, 46, 47, 48, 49, 50, 51, 52, 53, 54, 55, 56, 57, 58, 59, 60, 61, 62, 63, 64, 65, 66], tails := [] }], [])
def sp6_6 : List LSpec × List Nat := ([{ id := 5006000, known := false, toks := [], items := [], junk := [6], tails := [] }, { id := 5006001, known := false, toks := [], items := [.slot 7 (.val .bool)], junk := [18], tails := [] }, { id := 5006002, known := true, toks := [], items := [.slot 36 (.val .bool)], junk := [19, 20, 21, 22, 23, 24, 25, 26, 27, 28, 29, 30, 31, 32, 33, 34, 35], tails := [] }, { id := 5006003, known := false, toks := [], items := [], junk := [37, 6], tails := [] }, { id := 5006004, known := false, toks := [], items := [.slot 6 (.val .bool)], junk := [37], tails := [] }, { id := 5006005, known := false, toks := [], items := [.slot 9 (.val (.int .i64))], junk := [39, 40, 41, 38, 42, 43], tails := [] }, { id := 5006006, known := false, toks := [], items := [.slot 11 (.val (.int .i64))], junk := [45, 46, 47, 44, 48, 49], tails := [] }, { id := 5006007, known := false, toks := [], items := [.slot 13 (.val (.int .i64))], junk := [51, 52, 53, 54, 55, 56, 57, 50, 58, 59], tails := [] }, { id := 5006008, known := true, toks := [], items := [.slot 65 (.val .bool)], junk := [60, 61, 62, 63, 64], tails := [] }, { id := 5006009, known := false, toks := [], items := [], junk := [66, 67, 68, 69, 70, 71, 72, 73, 74, 75, 76, 77, 78, 79, 80, 81, 82, 83, 84, 6], tails := [] }, { id := 5006010, known := true, toks := [], items := [.slot 6 (.val .bool)], junk := [66, 67, 68, 69, 70, 71, 72, 73, 74, 75, 76, 77, 78, 79, 80, 81, 82, 83, 84], tails := [] }, { id := 5006011, known := false, toks := [], items := [.slot 15 (.val (.int .i64))], junk := [86, 87, 85, 88, 89], tails := [] }, { id := 5006012, known := false, toks := [], items := [.slot 17 (.val (.int .i64))], junk := [91, 92, 90, 93, 94], tails := [] }, { id := 5006013, known := true, toks := [], items := [.slot 6 (.val .bool)], junk := [95, 96, 97, 98, 99, 100, 101, 102, 103, 104, 105, 106, 107, 108, 109, 110, 111, 112, 113, 114, 115, 116, 117, 118, 119, 120, 121, 122, 123, 124, 125, 126, 127, 128, 129, 130, 131, 132, 133, 134, 135, 136, 137, 138, 139, 140], tails := [] }], [])
def sp6_7 : List LSpec × List Nat := ([{ id := 5007000, known := false, toks := [], items := [], junk := [4], tails := [] }, { id := 5007001, known := false, toks := [], items := [.slot 5 (.val .bool)], junk := [12], tails := [] }, { id := 5007002, known := true, toks := [], items := [.slot 24 (.val .bool)], junk := [13, 14, 15, 16, 17, 18, 19, 20, 21, 22, 23], tails := [] }, { id := 5007003, known := false, toks := [], items := [], junk := [25, 4], tails := [] }, { id := 5007004, known := false, toks := [], items := [.slot 4 (.val .bool)], junk := [25], tails := [] }, { id := 5007005, known := false, toks := [], items := [.slot 7 (.val (.int .i64))], junk := [27, 28, 29, 26, 30, 31], tails := [] }, { id := 5007006, known := false, toks := [], items := [.slot 9 (.val (.int .i64))], junk := [33, 34, 35, 32, 36, 37], tails := [] }, { id := 5007007, known := false, toks := [], items := [.slot 11 (.val (.int .i64))], junk := [39, 40, 38, 41, 42], tails := [] }, { id := 5007008, known := true, toks := [], items := [.slot 4 (.val .bool)], junk := [43, 44, 45, 46, 47, 48, 49, 50, 51, 52, 53, 54, 55, 56, 57, 58, 59, 60, 61, 62, 63, 64, 65, 66, 67, 68, 69, 70, 71, 72, 73, 74, 75, 76, 77, 78, 79, 80, 81, 82, 83, 84, 85], tails := [] }], [])
def spt6 : Tab (List LSpec × List Nat) := (.node (.node (.node (.node (.node (.node .leaf (some sp6_31) .leaf) none .leaf) (some sp6_7) .leaf) (some sp6_3) .leaf) none (.node (.node (.node .leaf (some sp6_17) .leaf) (some sp6_9) (.node .leaf (some sp6_25) .leaf)) (some sp6_5) (.node .leaf (some sp6_13) .leaf))) none (.node (.node .leaf (some sp6_4) (.node .leaf none (.node .leaf (some sp6_28) .leaf))) none (.node (.node .leaf (some sp6_10) .leaf) (some sp6_6) .leaf)))
def spf6 (f : Nat) : List LSpec × List Nat := (spt6.get f).getD ([], [])
theorem pd_law02_ShaParts : PureD Tryd.prog cfg 6 p_law02_ShaParts := fnD spf6 (l := [(10, p_law02_alive), (8, p_sha_More), (13, p_sha_Check), (9, p_sha_End)]) cfgOk cfgGlob (.cons pd_law02_alive (.cons pd_sha_More (.cons pd_sha_Check (.cons pd_sha_End .nil)))) (fun d => by kernel_rfl)

/-- thimblerig/thimbleriglaw02.ShaWhole -/
noncomputable def law02_ShaWhole (d0 : (List (Int)) × (List (Int))) : Option (Bool) :=
 Dat.bind (law02_alive ()) fun (x1 : Bool) =>
 Dat.join (σ := Bool) (fun k2 =>
 (bif (Dat.igt (Dat.ofN (Dat.len d0.1)) 500) then k2 true
 else (bif (Dat.pickB false true (Dat.igt (Dat.ofN (Dat.len d0.2)) 500)) then k2 true
 else k2 (Dat.pickB false true (Dat.bnot x1))))) fun (j3 : Bool) =>
 (bif j3 then some x1
 else Dat.bind (sha_Begin ()) fun (x4 : (List (Int)) × ((List (Int)) × ((Int) × (Unit)))) =>
 Dat.bind (sha_More ((((Dat.get x4.1 0 0) :: ((Dat.get x4.1 1 0) :: ((Dat.get x4.1 2 0) :: ((Dat.get x4.1 3 0) :: ((Dat.get x4.1 4 0) :: ((Dat.get x4.1 5 0) :: ((Dat.get x4.1 6 0) :: ((Dat.get x4.1 7 0) :: ([] : List (Int)))))))))), (x4.2.1, (x4.2.2.1, ()))), d0.1)) fun (x5 : ((List (Int)) × ((List (Int)) × ((Int) × (Unit)))) × (Int)) =>
 Dat.bind (sha_More ((((Dat.get x5.1.1 0 0) :: ((Dat.get x5.1.1 1 0) :: ((Dat.get x5.1.1 2 0) :: ((Dat.get x5.1.1 3 0) :: ((Dat.get x5.1.1 4 0) :: ((Dat.get x5.1.1 5 0) :: ((Dat.get x5.1.1 6 0) :: ((Dat.get x5.1.1 7 0) :: ([] : List (Int)))))))))), (x5.1.2.1, (x5.1.2.2.1, ()))), d0.2)) fun (x6 : ((List (Int)) × ((List (Int)) × ((Int) × (Unit)))) × (Int)) =>
 Dat.bind (sha_End (((Dat.get x6.1.1 0 0) :: ((Dat.get x6.1.1 1 0) :: ((Dat.get x6.1.1 2 0) :: ((Dat.get x6.1.1 3 0) :: ((Dat.get x6.1.1 4 0) :: ((Dat.get x6.1.1 5 0) :: ((Dat.get x6.1.1 6 0) :: ((Dat.get x6.1.1 7 0) :: ([] : List (Int)))))))))), (x6.1.2.1, (x6.1.2.2.1, ())))) fun (x7 : (List (Int)) × (Int)) =>
 if (Dat.EqN (Dat.len (Dat.rep 32 0)) 32) then (bif x1 then (bif (Dat.pickB true (Dat.ieq x5.2 0) false) then (bif (Dat.pickB true (Dat.ieq x6.2 0) false) then (bif (Dat.pickB true (Dat.ieq x7.2 0) false) then if (Dat.EqN (Dat.len (Dat.norm 32 x7.1 0)) 32) then if (Dat.Le (Dat.addN 0 2) (Dat.len (d0.1 :: (d0.2 :: ([] : List (List (Int))))))) then Dat.bind (sha_Of (Dat.seg (d0.1 :: (d0.2 :: ([] : List (List (Int))))) 0 2)) fun (x14 : List (Int)) =>
 (bif (Dat.pickB true (Dat.lq 32 (Dat.norm 32 x7.1 0) x14) false) then if (Dat.EqN (Dat.len (Dat.norm 32 x7.1 0)) 32) then if (Dat.Le (Dat.addN 0 0) (Dat.len ([] : List (Int)))) then if (Dat.Big (Dat.len (Dat.seg ([] : List (Int)) 0 0)) (Dat.len d0.1) 1) then none
 else Dat.bnd (Dat.app (Dat.seg ([] : List (Int)) 0 0) d0.1) fun (x21 : List (Int)) =>
 if (Dat.Big (Dat.len x21) (Dat.len d0.2) 1) then none
 else if (Dat.EqN (Dat.len x21) (Dat.len x21)) then Dat.bnd (Dat.app x21 d0.2) fun (x26 : List (Int)) =>
 Dat.bind (sha_Of (x26 :: ([] : List (List (Int))))) fun (x27 : List (Int)) =>
 (bif (Dat.pickB true (Dat.lq 32 (Dat.norm 32 x7.1 0) x27) false) then Dat.bnd (Dat.wrap .i64 (Dat.add (Dat.ofN (Dat.len d0.1)) (Dat.ofN (Dat.len d0.2)))) fun (x28 : Int) =>
 Dat.bnd (Dat.wrap .u64 x28) fun (x29 : Int) =>
 some (Dat.pickB true (Dat.ieq x6.1.2.2.1 x29) false)
 else some false)
 else none
 else none
 else none
 else some false)
 else none
 else none
 else some false)
 else some false)
 else some false)
 else some false)
 else none)
noncomputable def p_law02_ShaWhole : PFn := { args := [(.list (.int .u8)), (.list (.int .u8))], res := [.bool], fn := law02_ShaWhole }
def sp7_13 : List LSpec × List Nat := ([{ id := 5013000, known := false, toks := [], items := [], junk := [2], tails := [] }, { id := 5013001, known := true, toks := [], items := [.slot 15 (.val .bool)], junk := [3, 4, 5, 6, 7, 8, 9, 10, 11, 12, 13, 14], tails := [] }, { id := 5013002, known := false, toks := [], items := [], junk := [2], tails := [] }, { id := 5013003, known := false, toks := [], items := [.slot 2 (.val (.int .i64))], junk := [], tails := [] }, { id := 5013004, known := false, toks := [], items := [.slot 2 (.val (.int .i64))], junk := [], tails := [] }], [])
def sp7_31 : List LSpec × List Nat := ([{ id := 5031000, known := false, toks := [], items := [], junk := [4], tails := [] }, { id := 5031001, known := false, toks := [], items := [.slot 5 (.val (.int .u32))], junk := [6, 7, 8, 9, 10, 11], tails := [] }, { id := 5031002, known := false, toks := [], items := [.slot 13 (.val .bool)], junk := [12], tails := [] }, { id := 5031003, known := true, toks := [], items := [.slot 5 (.val (.int .u32))], junk := [14, 15, 16, 17, 18], tails := [] }, { id := 5031004, known := false, toks := [], items := [.slot 5 (.val (.int .u32))], junk := [14, 15, 16, 17, 18], tails := [] }, { id := 5031005, known := false, toks := [], items := [.slot 4 (.val (.int .u32))], junk := [19, 20, 21, 22, 23, 24, 25, 26, 27, 28, 29, 30, 31, 32, 33], tails := [] }], [])
def sp7_28 : List LSpec × List Nat := ([{ id := 5028000, known := false, toks := [], items := [], junk := [], tails := [] }, { id := 5028001, known := false, toks := [], items := [], junk := [7, 8], tails := [] }, { id := 5028002, known := false, toks := [], items := [], junk := [9, 10], tails := [] }, { id := 5028003, known := false, toks := [], items := [], junk := [], tails := [] }, { id := 5028004, known := false, toks := [], items := [.slot 11 (.val (.int .i64))], junk := [], tails := [] }, { id := 2800, known := false, toks := [], items := [], junk := [], tails := [] }, { id := 5028005, known := false, toks := [], items := [], junk := [], tails := [] }, { id := 5028006, known := false, toks := [], items := [], junk := [], tails := [] }, { id := 5028007, known := false, toks := [], items := [.slot 6 (.val (.int .i64))], junk := [13], tails := [] }, { id := 5028008, known := false, toks := [], items := [.slot 15 (.val .bool)], junk := [14], tails := [] }, { id := 5028009, known := true, toks := [], items := [], junk := [16, 17, 18, 19, 20, 21, 22, 23, 24, 25, 26, 27, 28, 29, 30, 31, 32, 33, 34, 35, 36, 37, 38, 39, 40, 41, 42, 43, 44, 45, 46, 47, 48, 49, 50, 51, 52, 53, 54, 55, 56, 57, 58, 59, 60, 61, 62, 63, 64, 65, 66, 67, 68, 69, 70, 71], tails := [] }, { id := 5028010, known := false, toks := [], items := [], junk := [16, 17, 18, 19, 20, 21, 22, 23, 24, 25, 26, 27, 28, 29, 30, 31, 32, 33, 34, 35, 36, 37, 38, 39, 40, 41, 42, 43, 44, 45, 46], tails := [] }, { id := 5028011, known := false, toks := [], items := [], junk := [47, 48, 49, 50, 51, 52, 53, 54, 55, 56, 57, 58, 59, 60, 61, 62, 63, 64, 65, 66, 67, 68, 69, 70, 71], tails := [] }, { id := 5028012, known := false, toks := [], items := [.slot 11 (.val (.int .i64))], junk := [72], tails := [] }, { id := 5028013, known := false, toks := [], items := [], junk := [73], tails := [] }], [])
def sp7_9 : List LSpec × List Nat := ([{ id := 5009000, known := false, toks := [], items := [], junk := [3], tails := [] }, { id := 5009001, known := false, toks := [], items := [.slot 4 (.val (.int .i64))], junk := [9, 10], tails := [] }, { id := 5009002, known := false, toks := [], items := [.slot 12 (.val .bool)], junk := [11], tails := [] }, { id := 5009003, known := false, toks := [], items := [], junk := [13, 14, 3], tails := [] }, { id := 5009004, known := false, toks := [], items := [.slot 3 (.val (.int .i64))], junk := [13, 14], tails := [] }, { id := 5009005, known := false, toks := [], items := [], junk := [15, 16], tails := [] }, { id := 5009006, known := false, toks := [], items := [], junk := [], tails := [] }, { id := 5009007, known := false, toks := [], items := [.slot 7 (.val (.int .i64))], junk := [17, 18, 19, 20], tails := [] }, { id := 5009008, known := false, toks := [], items := [], junk := [21, 22], tails := [] }, { id := 5009009, known := false, toks := [], items := [.slot 24 (.val .bool)], junk := [23], tails := [] }, { id := 5009010, known := true, toks := [], items := [], junk := [25, 26, 27, 28], tails := [] }, { id := 5009011, known := false, toks := [], items := [], junk := [25, 26, 27], tails := [] }, { id := 5009012, known := false, toks := [], items := [], junk := [28], tails := [] }, { id := 5009013, known := false, toks := [], items := [.slot 29 (.val (.int .i64))], junk := [], tails := [] }, { id := 900, known := false, toks := [], items := [], junk := [], tails := [] }, { id := 5009014, known := false, toks := [], items := [.slot 30 (.val .bool)], junk := [], tails := [] }, { id := 5009015, known := false, toks := [], items := [], junk := [], tails := [] }, { id := 5009016, known := false, toks := [], items := [.slot 8 (.val (.int .i64))], junk := [31], tails := [] }, { id := 5009017, known := false, toks := [], items := [], junk := [32, 33, 34, 35, 36, 37, 38, 39, 40, 41], tails := [] }, { id := 5009018, known := false, toks := [], items := [.slot 29 (.val (.int .i64))], junk := [42], tails := [] }, { id := 5009019, known := false, toks := [], items := [.slot 3 (.val (.int .i64))], junk := [43, 44, 45, 46], tails := [] }], [])
def sp7_10 : List LSpec × List Nat := ([{ id := 5010000, known := false, toks := [], items := [], junk := [0], tails := [] }, { id := 5010001, known := true, toks := [], items := [.slot 0 (.val .bool)], junk := [1, 2, 3, 4, 5, 6, 7, 8, 9, 10, 11, 12, 13], tails := [] }], [])
def sp7_3 : List LSpec × List Nat := ([{ id := 5003000, known := false, toks := [], items := [], junk := [0], tails := [] }, { id := 5003001, known := false, toks := [], items := [.slot 2 (.val (.int .i64))], junk := [8, 9, 10, 7, 11, 12, 1], tails := [] }, { id := 5003002, known := false, toks := [], items := [.slot 4 (.val (.int .i64))], junk := [14, 15, 16, 13, 17, 18, 3], tails := [] }, { id := 5003003, known := false, toks := [], items := [.slot 6 (.val (.int .i64))], junk := [20, 21, 19, 22, 23, 5], tails := [] }, { id := 5003004, known := true, toks := [], items := [.slot 0 (.val .bool)], junk := [24, 25, 26, 27, 28, 29, 30, 31, 32, 33, 34, 35, 36, 37, 38, 39, 40, 41, 42, 43, 44, 45, 46, 47, 48, 49, 50, 51], tails := [] }], [])
def sp7_25 : List LSpec × List Nat := ([{ id := 5025000, known := false, toks := [], items := [], junk := [2], tails := [] }, { id := 5025001, known := true, toks := [], items := [.slot 2 (.val .bool)], junk := [3, 4, 5, 6, 7, 8, 9, 10, 11, 12, 13, 14, 15], tails := [] }], [])
def sp7_17 : List LSpec × List Nat := ([{ id := 5017000, known := false, toks := [], items := [], junk := [4], tails := [] }, { id := 5017001, known := true, toks := [], items := [.slot 4 (.val .bool)], junk := [5, 6, 7, 8, 9, 10, 11, 12, 13, 14, 15, 16, 17, 18, 19, 20, 21, 22, 23, 24, 25], tails := [] }], [])
def sp7_4 : List LSpec × List Nat := ([{ id := 5004000, known := false, toks := [], items := [], junk := [4], tails := [] }, { id := 5004001, known := true, toks := [], items := [.slot 25 (.val .bool)], junk := [17, 18, 19, 20, 21, 22, 23, 24], tails := [] }, { id := 5004002, known := false, toks := [], items := [], junk := [4], tails := [] }, { id := 5004003, known := false, toks := [], items := [.slot 4 (.val .bool)], junk := [], tails := [] }, { id := 5004004, known := false, toks := [], items := [], junk := [26, 27, 28, 29, 30, 31, 32, 33, 34], tails := [] }, { id := 5004005, known := false, toks := [], items := [], junk := [35, 36, 37], tails := [] }, { id := 5004006, known := false, toks := [], items := [.slot 8 (.val (.int .i64))], junk := [39, 40, 41, 38, 42, 43], tails := [] }, { id := 5004007, known := false, toks := [], items := [.slot 10 (.val (.int .i64))], junk := [45, 46, 47, 44, 48, 49], tails := [] }, { id := 5004008, known := false, toks := [], items := [.slot 12 (.val (.int .i64))], junk := [51, 52, 50, 53, 54], tails := [] }, { id := 5004009, known := false, toks := [], items := [.slot 14 (.val (.int .i64))], junk := [56, 57, 55, 58, 59], tails := [] }, { id := 5004010, known := true, toks := [], items := [.slot 15 (.val .bool)], junk := [60, 61, 62, 63, 64, 65, 66, 67, 68, 69, 70, 71, 72, 73, 74, 75, 76, 77, 78, 79, 80, 81, 82, 83, 84, 85, 86, 87, 88, 89], tails := [] }, { id := 5004011, known := false, toks := [], items := [.slot 16 (.val (.int .i64))], junk := [], tails := [] }, { id := 400, known := false, toks := [], items := [], junk := [], tails := [] }, { id := 5004012, known := false, toks := [], items := [.slot 94 (.val .bool)], junk := [90, 91, 92, 93], tails := [] }, { id := 5004013, known := false, toks := [], items := [], junk := [], tails := [] }, { id := 5004014, known := false, toks := [], items := [], junk := [97, 98, 99, 100, 101, 102, 103, 104, 105, 106], tails := [] }, { id := 5004015, known := false, toks := [], items := [.slot 16 (.val (.int .i64))], junk := [95, 96], tails := [] }, { id := 5004016, known := true, toks := [], items := [.slot 4 (.val .bool)], junk := [107, 108, 109, 110, 111, 112, 113, 114, 115, 116, 117, 118, 119], tails := [] }], [])
def sp7_5 : List LSpec × List Nat := ([{ id := 5005000, known := false, toks := [], items := [], junk := [6], tails := [] }, { id := 5005001, known := true, toks := [], items := [.slot 23 (.val .bool)], junk := [11, 12, 13, 14, 15, 16, 17, 18, 19, 20, 21, 22], tails := [] }, { id := 5005002, known := false, toks := [], items := [], junk := [6], tails := [] }, { id := 5005003, known := false, toks := [], items := [.slot 6 (.val .bool)], junk := [], tails := [] }, { id := 5005004, known := false, toks := [], items := [], junk := [24, 25, 26, 27, 28, 29, 30, 31, 32], tails := [] }, { id := 5005005, known := false, toks := [], items := [], junk := [33, 34, 35, 36, 37], tails := [] }, { id := 5005006, known := true, toks := [], items := [.slot 6 (.val .bool)], junk := [38, 39, 40, 41, 42, 43, 44, 45, 46, 47, 48, 49, 50, 51, 52, 53, 54, 55, 56, 57, 58, 59, 60, 61, 62, 63, 64, 65, 66], tails := [] }], [])
def sp7_6 : List LSpec × List Nat := ([{ id := 5006000, known := false, toks := [], items := [], junk := [6], tails := [] }, { id := 5006001, known := false, toks := [], items := [.slot 7 (.val .bool)], junk := [18], tails := [] }, { id := 5006002, known := true, toks := [], items := [.slot 36 (.val .bool)], junk := [19, 20, 21, 22, 23, 24, 25, 26, 27, 28, 29, 30, 31, 32, 33, 34, 35], tails := [] }, { id := 5006003, known := false, toks := [], items := [], junk := [37, 6], tails := [] }, { id := 5006004, known := false, toks := [], items := [.slot 6 (.val .bool)], junk := [37], tails := [] }, { id := 5006005, known := false, toks := [], items := [.slot 9 (.val (.int .i64))], junk := [39, 40, 41, 38, 42, 43], tails := [] }, { id := 5006006, known := false, toks := [], items := [.slot 11 (.val (.int .i64))], junk := [45, 46, 47, 44, 48, 49], tails := [] }, { id := 5006007, known := false, toks := [], items := [.slot 13 (.val (.int .i64))], junk := [51, 52, 53, 54, 55, 56, 57, 50, 58, 59], tails := [] }, { id := 5006008, known := true, toks := [], items := [.slot 65 (.val .bool)], junk := [60, 61, 62, 63, 64], tails := [] }, { id := 5006009, known := false, toks := [], items := [], junk := [66, 67, 68, 69, 70, 71, 72, 73, 74, 75, 76, 77, 78, 79, 80, 81, 82, 83, 84, 6], tails := [] }, { id := 5006010, known := true, toks := [], items := [.slot 6 (.val .bool)], junk := [66, 67, 68, 69, 70, 71, 72, 73, 74, 75, 76, 77, 78, 79, 80, 81, 82, 83, 84], tails := [] }, { id := 5006011, known := false, toks := [], items := [.slot 15 (.val (.int .i64))], junk := [86, 87, 85, 88, 89], tails := [] }, { id := 5006012, known := false, toks := [], items := [.slot 17 (.val (.int .i64))], junk := [91, 92, 90, 93, 94], tails := [] }, { id := 5006013, known := true, toks := [], items := [.slot 6 (.val .bool)], junk := [95, 96, 97, 98, 99, 100, 101, 102, 103, 104, 105, 106, 107, 108, 109, 110, 111, 112, 113, 114, 115, 116, 117, 118, 119, 120, 121, 122, 123, 124, 125, 126, 127, 128, 129, 130, 131, 132, 133, 134, 135, 136, 137, 138, 139, 140], tails := [] }], [])
def sp7_7 : List LSpec × List Nat := ([{ id := 5007000, known := false, toks := [], items := [], junk := [4], tails := [] }, { id := 5007001, known := false, toks := [], items := [.slot 5 (.val .bool)], junk := [12], tails := [] }, { id := 5007002, known := true, toks := [], items := [.slot 24 (.val .bool)], junk := [13, 14, 15, 16, 17, 18, 19, 20, 21, 22, 23], tails := [] }, { id := 5007003, known := false, toks := [], items := [], junk := [25, 4], tails := [] }, { id := 5007004, known := false, toks := [], items := [.slot 4 (.val .bool)], junk := [25], tails := [] }, { id := 5007005, known := false, toks := [], items := [.slot 7 (.val (.int .i64))], junk := [27, 28, 29, 26, 30, 31], tails := [] }, { id := 5007006, known := false, toks := [], items := [.slot 9 (.val (.int .i64))], junk := [33, 34, 35, 32, 36, 37], tails := [] }, { id := 5007007, known := false, toks := [], items := [.slot 11 (.val (.int .i64))], junk := [39, 40, 38, 41, 42], tails := [] }, { id := 5007008, known := false, toks := [], items := [.slot 4 (.val .bool)], junk := [43, 44, 45, 46, 47, 48, 49, 50, 51, 52, 53, 54, 55, 56, 57, 58, 59, 60, 61, 62, 63, 64, 65, 66, 67, 68, 69, 70, 71, 72, 73, 74, 75, 76, 77, 78, 79, 80, 81, 82, 83, 84, 85], tails := [] }], [])
def spt7 : Tab (List LSpec × List Nat) := (.node (.node (.node (.node (.node (.node .leaf (some sp7_31) .leaf) none .leaf) (some sp7_7) .leaf) (some sp7_3) .leaf) none (.node (.node (.node .leaf (some sp7_17) .leaf) (some sp7_9) (.node .leaf (some sp7_25) .leaf)) (some sp7_5) (.node .leaf (some sp7_13) .leaf))) none (.node (.node .leaf (some sp7_4) (.node .leaf none (.node .leaf (some sp7_28) .leaf))) none (.node (.node .leaf (some sp7_10) .leaf) (some sp7_6) .leaf)))
def spf7 (f : Nat) : List LSpec × List Nat := (spt7.get f).getD ([], [])
theorem pd_law02_ShaWhole : PureD Tryd.prog cfg 7 p_law02_ShaWhole := fnD spf7 (l := [(10, p_law02_alive), (14, p_sha_Begin), (8, p_sha_More), (9, p_sha_End), (12, p_sha_Of)]) cfgOk cfgGlob (.cons pd_law02_alive (.cons pd_sha_Begin (.cons pd_sha_More (.cons pd_sha_End (.cons pd_sha_Of .nil))))) (fun d => by kernel_rfl)
end Go.Proofs.YtpmejooihjdapaaDoor
