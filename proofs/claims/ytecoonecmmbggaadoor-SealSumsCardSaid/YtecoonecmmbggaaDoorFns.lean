/- The functions of the program, as functions on plain data. -/
import Derived.Test.YtecoonecmmbggaaDoorCfg
import Derived.Test.YtecoonecmmbggaaDoorM6
import Derived.ProofKit
namespace Go.Proofs.YtecoonecmmbggaaDoor
open Go.Eng
set_option linter.unusedVariables false
set_option maxRecDepth 100000
def sp0 (f : Nat) : List LSpec × List Nat := ([], [])

/-- thimblerig/num.together -/
noncomputable def num_together (d0 : (List (Int)) × ((Int) × (Int))) : Option ((Int) × (Int)) :=
 (bif (Dat.igt (Dat.ofN (Dat.len d0.1)) 64) then some (0, 2)
 else Dat.loop (fun (s1 : (Int) × (Int)) k2 =>
 (bif (Dat.ilt s1.1 (Dat.ofN (Dat.len d0.1))) then if (Dat.Ix s1.1 (Dat.len d0.1)) then Dat.bnd (Dat.get d0.1 (Dat.toN s1.1) 0) fun (x5 : Int) =>
 (bif (Dat.ilt x5 d0.2.1) then some (0, 2)
 else (bif (Dat.pickB false true (Dat.igt x5 d0.2.2)) then some (0, 2)
 else Dat.bnd (Dat.wrap .i64 (Dat.add s1.2 x5)) fun (x6 : Int) =>
 (bif (Dat.bnot (Dat.ile x6 65536)) then some (0, 2)
 else Dat.bnd (Dat.wrap .i64 (Dat.add s1.1 1)) fun (x7 : Int) =>
 k2 (x7, x6))))
 else none
 else some (s1.2, 0))) (0, 0))
noncomputable def p_num_together : PFn := { args := [(.list (.int .i64)), (.int .i64), (.int .i64)], res := [(.int .i64), (.int .i64)], fn := num_together }
def sp15_15 : List LSpec × List Nat := ([{ id := 1500, known := true, toks := [], items := [.slot 18 (.val (.int .i64)), .cells 1000008 [.val (.int .i64)]], junk := [19, 20, 21, 11, 22, 23, 24, 25, 6, 7, 26], tails := [] }], [])
def sp15_25 : List LSpec × List Nat := ([], [5])
def spt15 : Tab (List LSpec × List Nat) := (.node (.node (.node (.node (.node .leaf (some sp15_15) .leaf) none .leaf) none .leaf) none (.node (.node .leaf none (.node .leaf (some sp15_25) .leaf)) none .leaf)) none .leaf)
def spf15 (f : Nat) : List LSpec × List Nat := (spt15.get f).getD ([], [])
theorem pd_num_together : PureD Tryd.prog cfg 15 p_num_together := fnD spf15 (l := []) cfgOk cfgGlob .nil (fun d => by kernel_rfl)

/-- thimblerig/num.fits -/
noncomputable def num_fits (d0 : (Int) × (Int)) : Option (Bool) :=
 (bif (Dat.ige d0.2 8) then some true
 else Dat.bnd (Dat.wrap .i64 (Dat.mul 8 d0.2)) fun (x1 : Int) =>
 if (Dat.Neg x1) then none
 else Dat.bnd (Dat.shr .u64 d0.1 x1) fun (x4 : Int) =>
 some (Dat.pickB false true (Dat.ieq x4 0)))
noncomputable def p_num_fits : PFn := { args := [(.int .u64), (.int .i64)], res := [.bool], fn := num_fits }
def sp16_25 : List LSpec × List Nat := ([], [5])
def spt16 : Tab (List LSpec × List Nat) := (.node (.node .leaf none (.node (.node .leaf none (.node .leaf (some sp16_25) .leaf)) none .leaf)) none .leaf)
def spf16 (f : Nat) : List LSpec × List Nat := (spt16.get f).getD ([], [])
theorem pd_num_fits : PureD Tryd.prog cfg 16 p_num_fits := fnD spf16 (l := []) cfgOk cfgGlob .nil (fun d => by kernel_rfl)

/-- thimblerig/num.Put -/
noncomputable def num_Put (d0 : (List (Int)) × (List (Int))) : Option ((List (Int)) × (Int)) :=
 Dat.bind (num_together (d0.2, (1, 8))) fun (x1 : (Int) × (Int)) =>
 (bif (Dat.ine x1.2 0) then some (([] : List (Int)), x1.2)
 else (bif (Dat.ine (Dat.ofN (Dat.len d0.1)) (Dat.ofN (Dat.len d0.2))) then some (([] : List (Int)), 2)
 else if (Dat.MkOk 0 x1.1 1) then if (Dat.EqN (Dat.toN 0) 0) then if (Dat.EqN 0 (Dat.len ([] : List (Int)))) then Dat.loop (fun (s8 : (List (Int)) × (Int)) k9 =>
 (bif (Dat.ilt s8.2 (Dat.ofN (Dat.len d0.2))) then if (Dat.Ix s8.2 (Dat.len d0.2)) then Dat.bnd (Dat.get d0.2 (Dat.toN s8.2) 0) fun (x12 : Int) =>
 if (Dat.Ix s8.2 (Dat.len d0.1)) then Dat.bnd (Dat.get d0.1 (Dat.toN s8.2) 0) fun (x15 : Int) =>
 Dat.bind (num_fits (x15, x12)) fun (x16 : Bool) =>
 (bif (Dat.bnot x16) then some (([] : List (Int)), 4)
 else if (Dat.Ix s8.2 (Dat.len d0.1)) then Dat.bnd (Dat.get d0.1 (Dat.toN s8.2) 0) fun (x19 : Int) =>
 if (Dat.EqN (Dat.len s8.1) (Dat.len s8.1)) then Dat.loop (fun (s22 : (List (Int)) × (Int)) k23 =>
 (bif (Dat.ilt s22.2 x12) then Dat.bnd (Dat.wrap .i64 (Dat.mul 8 s22.2)) fun (x24 : Int) =>
 if (Dat.Neg x24) then none
 else Dat.bnd (Dat.shr .u64 x19 x24) fun (x27 : Int) =>
 Dat.bnd (Dat.wrap .u8 x27) fun (x28 : Int) =>
 if (Dat.Le (Dat.addN 0 1) (Dat.len (x28 :: ([] : List (Int))))) then if (Dat.Big (Dat.len s22.1) (Dat.len (Dat.seg (x28 :: ([] : List (Int))) 0 1)) 1) then none
 else if (Dat.EqN (Dat.len s22.1) (Dat.len s22.1)) then Dat.bnd (Dat.app s22.1 (Dat.seg (x28 :: ([] : List (Int))) 0 1)) fun (x35 : List (Int)) =>
 Dat.bnd (Dat.wrap .i64 (Dat.add s22.2 1)) fun (x36 : Int) =>
 if (Dat.EqN (Dat.len x35) (Dat.len x35)) then k23 (x35, x36)
 else none
 else none
 else none
 else Dat.bnd (Dat.wrap .i64 (Dat.add s8.2 1)) fun (x39 : Int) =>
 if (Dat.EqN (Dat.len s22.1) (Dat.len s22.1)) then k9 (s22.1, x39)
 else none)) (s8.1, 0)
 else none
 else none)
 else none
 else none
 else if (Dat.EqN (Dat.len s8.1) (Dat.len s8.1)) then some (s8.1, 0)
 else none)) (([] : List (Int)), 0)
 else none
 else none
 else none))
noncomputable def p_num_Put : PFn := { args := [(.list (.int .u64)), (.list (.int .i64))], res := [(.list (.int .u8)), (.int .i64)], fn := num_Put }
def sp9_17 : List LSpec × List Nat := ([{ id := 1700, known := true, toks := [(0, (.int .u8))], items := [.slot 0 (.slt (.int .u8) (some 1000000) false), .slot 9 (.val (.int .i64))], junk := [10, 11, 7, 12, 13, 14, 15, 16, 17, 18, 19, 20], tails := [(1000000, 0)] }], [])
def sp9_9 : List LSpec × List Nat := ([{ id := 900, known := true, toks := [(8, (.int .u8))], items := [.slot 8 (.slt (.int .u8) (some 1000008) false), .slot 28 (.val (.int .i64))], junk := [29, 30, 31, 32, 9, 10, 33, 34, 35, 36, 37, 38, 39, 4, 5, 40, 41, 42, 43, 44, 45, 46, 47], tails := [(1000008, 8)] }], [])
def sp9_25 : List LSpec × List Nat := ([], [5])
def spt9 : Tab (List LSpec × List Nat) := (.node (.node .leaf none (.node (.node (.node .leaf (some sp9_17) .leaf) (some sp9_9) (.node .leaf (some sp9_25) .leaf)) none .leaf)) none .leaf)
def spf9 (f : Nat) : List LSpec × List Nat := (spt9.get f).getD ([], [])
noncomputable def o_num_Put : OFn := { args := [(.list (.int .u64)), (.list (.int .i64))], ores := [(.own (.int .u8)), (.plain (.int .i64))], fn := num_Put }
theorem od_num_Put : OwnD Tryd.prog cfg 9 o_num_Put ∧ PureD Tryd.prog cfg 9 o_num_Put.pfn := fnO spf9 [] (l := [(15, p_num_together), (16, p_num_fits)]) (lo := []) cfgOk cfgGlob (.cons pd_num_together (.cons pd_num_fits .nil)) .nil (fun d => by kernel_rfl)
theorem pd_num_Put : PureD Tryd.prog cfg 9 p_num_Put := od_num_Put.2

/-- slices.Concat(()byte,byte) -/
noncomputable def slices_Concat_byte_byte (d0 : List (List (Int))) : Option (List (Int)) :=
 Dat.loop (fun (s1 : (Int) × (Int)) k2 =>
 (bif (Dat.ilt s1.2 (Dat.ofN (Dat.len d0))) then if (Dat.Ix s1.2 (Dat.len d0)) then Dat.bnd (Dat.get d0 (Dat.toN s1.2) ([] : List (Int))) fun (x5 : List (Int)) =>
 Dat.bnd (Dat.wrap .i64 (Dat.add s1.1 (Dat.ofN (Dat.len x5)))) fun (x6 : Int) =>
 (bif (Dat.ilt x6 0) then none
 else Dat.bnd (Dat.wrap .i64 (Dat.add s1.2 1)) fun (x7 : Int) =>
 k2 (x6, x7))
 else none
 else (bif (Dat.ilt s1.1 0) then none
 else Dat.bnd (Dat.wrap .i64 (Dat.sub 0 0)) fun (x8 : Int) =>
 Dat.bnd (Dat.wrap .i64 (Dat.sub s1.1 x8)) fun (x9 : Int) =>
 (bif (Dat.igt x9 0) then if (Dat.Bd 0 0) then if (Dat.ZOk x9 1) then Dat.bnd (Dat.rep (α := Int) (Dat.toN x9) 0) fun (x14 : List (Int)) =>
 if (Dat.EqN (Dat.len x14) 0) then none
 else if (Dat.Big (Dat.len ([] : List (Int))) (Dat.len x14) 1) then none
 else Dat.bnd (Dat.app ([] : List (Int)) x14) fun (x19 : List (Int)) =>
 if (Dat.Bd 0 (Dat.len x19)) then if (Dat.Lt 0 (Dat.len x19)) then if (Dat.EqN (Dat.subN (Dat.toN 0) 0) 0) then if (Dat.EqN 0 (Dat.len ([] : List (Int)))) then Dat.loop (fun (s28 : (List (Int)) × (Int)) k29 =>
 (bif (Dat.ilt s28.2 (Dat.ofN (Dat.len d0))) then if (Dat.Ix s28.2 (Dat.len d0)) then Dat.bnd (Dat.get d0 (Dat.toN s28.2) ([] : List (Int))) fun (x32 : List (Int)) =>
 if (Dat.Big (Dat.len s28.1) (Dat.len x32) 1) then none
 else if (Dat.EqN (Dat.len s28.1) (Dat.len s28.1)) then Dat.bnd (Dat.app s28.1 x32) fun (x37 : List (Int)) =>
 Dat.bnd (Dat.wrap .i64 (Dat.add s28.2 1)) fun (x38 : Int) =>
 if (Dat.EqN (Dat.len x37) (Dat.len x37)) then k29 (x37, x38)
 else none
 else none
 else none
 else if (Dat.EqN (Dat.len s28.1) (Dat.len s28.1)) then some s28.1
 else none)) (([] : List (Int)), 0)
 else none
 else none
 else none
 else none
 else none
 else none
 else if (Dat.EqN 0 (Dat.len ([] : List (Int)))) then Dat.loop (fun (s45 : (List (Int)) × (Int)) k46 =>
 (bif (Dat.ilt s45.2 (Dat.ofN (Dat.len d0))) then if (Dat.Ix s45.2 (Dat.len d0)) then Dat.bnd (Dat.get d0 (Dat.toN s45.2) ([] : List (Int))) fun (x49 : List (Int)) =>
 if (Dat.Big (Dat.len s45.1) (Dat.len x49) 1) then none
 else if (Dat.EqN (Dat.len s45.1) (Dat.len s45.1)) then Dat.bnd (Dat.app s45.1 x49) fun (x54 : List (Int)) =>
 Dat.bnd (Dat.wrap .i64 (Dat.add s45.2 1)) fun (x55 : Int) =>
 if (Dat.EqN (Dat.len x54) (Dat.len x54)) then k46 (x54, x55)
 else none
 else none
 else none
 else if (Dat.EqN (Dat.len s45.1) (Dat.len s45.1)) then some s45.1
 else none)) (([] : List (Int)), 0)
 else none)))) (0, 0)
noncomputable def p_slices_Concat_byte_byte : PFn := { args := [(.list (.list (.int .u8)))], res := [(.list (.int .u8))], fn := slices_Concat_byte_byte }
def sp18_25 : List LSpec × List Nat := ([], [5])
def sp18_18 : List LSpec × List Nat := ([{ id := 1800, known := true, toks := [], items := [.slot 3 (.val (.int .i64)), .slot 11 (.val (.int .i64))], junk := [12, 13, 14, 5, 15, 16, 17, 18, 19, 20, 21, 22], tails := [] }, { id := 1801, known := true, toks := [(6, (.int .u8))], items := [.slot 6 (.slt (.int .u8) (some 1000006) false), .slot 27 (.val (.int .i64))], junk := [28, 29, 30, 8, 31, 32, 33, 34], tails := [(1000006, 6)] }], [])
def spt18 : Tab (List LSpec × List Nat) := (.node (.node .leaf none (.node (.node .leaf none (.node .leaf (some sp18_25) .leaf)) none .leaf)) none (.node .leaf none (.node (.node (.node .leaf (some sp18_18) .leaf) none .leaf) none .leaf)))
def spf18 (f : Nat) : List LSpec × List Nat := (spt18.get f).getD ([], [])
noncomputable def o_slices_Concat_byte_byte : OFn := { args := [(.list (.list (.int .u8)))], ores := [(.own (.int .u8))], fn := slices_Concat_byte_byte }
theorem od_slices_Concat_byte_byte : OwnD Tryd.prog cfg 18 o_slices_Concat_byte_byte ∧ PureD Tryd.prog cfg 18 o_slices_Concat_byte_byte.pfn := fnO spf18 [] (l := []) (lo := []) cfgOk cfgGlob .nil .nil (fun d => by kernel_rfl)
theorem pd_slices_Concat_byte_byte : PureD Tryd.prog cfg 18 p_slices_Concat_byte_byte := od_slices_Concat_byte_byte.2

/-- thimblerig/seal.join -/
noncomputable def seal_join (d0 : List (List (Int))) : Option (List (Int)) :=
 Dat.bind (slices_Concat_byte_byte d0) fun (x1 : List (Int)) =>
 if (Dat.EqN (Dat.len x1) 0) then if (Dat.EqN (Dat.len x1) 0) then some x1
 else none
 else if (Dat.Le (Dat.addN 0 (Dat.len x1)) (Dat.len x1)) then some (Dat.seg x1 0 (Dat.len x1))
 else none
noncomputable def p_seal_join : PFn := { args := [(.list (.list (.int .u8)))], res := [(.list (.int .u8))], fn := seal_join }
def sp10_25 : List LSpec × List Nat := ([], [5])
def spt10 : Tab (List LSpec × List Nat) := (.node (.node .leaf none (.node (.node .leaf none (.node .leaf (some sp10_25) .leaf)) none .leaf)) none .leaf)
def spf10 (f : Nat) : List LSpec × List Nat := (spt10.get f).getD ([], [])
noncomputable def o_seal_join : OFn := { args := [(.list (.list (.int .u8)))], ores := [(.own (.int .u8))], fn := seal_join }
theorem od_seal_join : OwnD Tryd.prog cfg 10 o_seal_join ∧ PureD Tryd.prog cfg 10 o_seal_join.pfn := fnO spf10 [] (l := [(18, p_slices_Concat_byte_byte)]) (lo := [(18, o_slices_Concat_byte_byte)]) cfgOk cfgGlob (.cons pd_slices_Concat_byte_byte .nil) (.cons od_slices_Concat_byte_byte.1 .nil) (fun d => by kernel_rfl)
theorem pd_seal_join : PureD Tryd.prog cfg 10 p_seal_join := od_seal_join.2

/-- thimblerig/seal.Hashed -/
noncomputable def seal_Hashed (d0 : (Int) × ((Int) × (List (Int)))) : Option ((List (Int)) × (Int)) :=
 (bif (Dat.ilt d0.1 0) then some (([] : List (Int)), 2)
 else (bif (Dat.pickB false true (Dat.ige d0.1 4)) then some (([] : List (Int)), 2)
 else (bif (Dat.pickB false true (Dat.ilt d0.2.1 1)) then some (([] : List (Int)), 2)
 else (bif (Dat.pickB false true (Dat.igt d0.2.1 127)) then some (([] : List (Int)), 2)
 else Dat.bnd (Dat.wrap .u64 d0.1) fun (x1 : Int) =>
 Dat.bnd (Dat.wrap .u64 d0.2.1) fun (x2 : Int) =>
 if (Dat.Le (Dat.addN 0 2) (Dat.len (x1 :: (x2 :: ([] : List (Int)))))) then if (Dat.Le (Dat.addN 0 2) (Dat.len (1 :: (4 :: ([] : List (Int)))))) then Dat.bind (num_Put ((Dat.seg (x1 :: (x2 :: ([] : List (Int)))) 0 2), (Dat.seg (1 :: (4 :: ([] : List (Int)))) 0 2))) fun (x7 : (List (Int)) × (Int)) =>
 (bif (Dat.ine x7.2 0) then some (([] : List (Int)), x7.2)
 else if (Dat.Le (Dat.addN 0 2) (Dat.len (x7.1 :: (d0.2.2 :: ([] : List (List (Int))))))) then Dat.bind (seal_join (Dat.seg (x7.1 :: (d0.2.2 :: ([] : List (List (Int))))) 0 2)) fun (x10 : List (Int)) =>
 if (Dat.EqN (Dat.len x10) 0) then if (Dat.EqN (Dat.len x10) 0) then some (x10, 0)
 else none
 else if (Dat.Le (Dat.addN 0 (Dat.len x10)) (Dat.len x10)) then some ((Dat.seg x10 0 (Dat.len x10)), 0)
 else none
 else none)
 else none
 else none))))
noncomputable def p_seal_Hashed : PFn := { args := [(.int .i64), (.int .i64), (.list (.int .u8))], res := [(.list (.int .u8)), (.int .i64)], fn := seal_Hashed }
def sp4_25 : List LSpec × List Nat := ([], [5])
def spt4 : Tab (List LSpec × List Nat) := (.node (.node .leaf none (.node (.node .leaf none (.node .leaf (some sp4_25) .leaf)) none .leaf)) none .leaf)
def spf4 (f : Nat) : List LSpec × List Nat := (spt4.get f).getD ([], [])
noncomputable def o_seal_Hashed : OFn := { args := [(.int .i64), (.int .i64), (.list (.int .u8))], ores := [(.own (.int .u8)), (.plain (.int .i64))], fn := seal_Hashed }
theorem od_seal_Hashed : OwnD Tryd.prog cfg 4 o_seal_Hashed ∧ PureD Tryd.prog cfg 4 o_seal_Hashed.pfn := fnO spf4 [] (l := [(9, p_num_Put), (10, p_seal_join)]) (lo := [(10, o_seal_join)]) cfgOk cfgGlob (.cons pd_num_Put (.cons pd_seal_join .nil)) (.cons od_seal_join.1 .nil) (fun d => by kernel_rfl)
theorem pd_seal_Hashed : PureD Tryd.prog cfg 4 p_seal_Hashed := od_seal_Hashed.2

/-- thimblerig/thimblerigref11.may -/
noncomputable def ref11_may (d0 : (Int) × (Int)) : Option (Bool) :=
 (bif (Dat.ige d0.1 0) then (bif (Dat.pickB true (Dat.ilt d0.1 4) false) then (bif (Dat.pickB true (Dat.ige d0.2 1) false) then some (Dat.pickB true (Dat.ilt d0.2 128) false)
 else some false)
 else some false)
 else some false)
noncomputable def p_ref11_may : PFn := { args := [(.int .i64), (.int .i64)], res := [.bool], fn := ref11_may }
def sp11_25 : List LSpec × List Nat := ([], [5])
def spt11 : Tab (List LSpec × List Nat) := (.node (.node .leaf none (.node (.node .leaf none (.node .leaf (some sp11_25) .leaf)) none .leaf)) none .leaf)
def spf11 (f : Nat) : List LSpec × List Nat := (spt11.get f).getD ([], [])
theorem pd_ref11_may : PureD Tryd.prog cfg 11 p_ref11_may := fnD spf11 (l := []) cfgOk cfgGlob .nil (fun d => by kernel_rfl)

/-- thimblerig/thimblerigref01.Digits -/
noncomputable def ref01_Digits (d0 : (Int) × (Int)) : Option ((List (Int)) × (Bool)) :=
 if (Dat.EqN 0 (Dat.len ([] : List (Int)))) then Dat.loop (fun (s3 : (List (Int)) × ((Int) × (Int))) k4 =>
 (bif (Dat.ilt s3.2.2 d0.2) then if (Dat.IsZ 256) then none
 else Dat.bnd (Dat.tmod s3.2.1 256) fun (x7 : Int) =>
 Dat.bnd (Dat.wrap .u8 x7) fun (x8 : Int) =>
 if (Dat.Le (Dat.addN 0 1) (Dat.len (x8 :: ([] : List (Int))))) then if (Dat.Big (Dat.len s3.1) (Dat.len (Dat.seg (x8 :: ([] : List (Int))) 0 1)) 1) then none
 else if (Dat.EqN (Dat.len s3.1) (Dat.len s3.1)) then Dat.bnd (Dat.app s3.1 (Dat.seg (x8 :: ([] : List (Int))) 0 1)) fun (x15 : List (Int)) =>
 if (Dat.IsZ 256) then none
 else Dat.bnd (Dat.wrap .u64 (Dat.tdiv s3.2.1 256)) fun (x18 : Int) =>
 Dat.bnd (Dat.wrap .i64 (Dat.add s3.2.2 1)) fun (x19 : Int) =>
 if (Dat.EqN (Dat.len x15) (Dat.len x15)) then k4 (x15, (x18, x19))
 else none
 else none
 else none
 else some (s3.1, (Dat.ieq s3.2.1 0)))) (([] : List (Int)), (d0.1, 0))
 else none
noncomputable def p_ref01_Digits : PFn := { args := [(.int .u64), (.int .i64)], res := [(.list (.int .u8)), .bool], fn := ref01_Digits }
def sp19_25 : List LSpec × List Nat := ([], [5])
def sp19_19 : List LSpec × List Nat := ([{ id := 1900, known := true, toks := [(6, (.int .u8))], items := [.slot 6 (.slt (.int .u8) (some 1000006) false), .slot 0 (.val (.int .u64)), .slot 7 (.val (.int .i64))], junk := [8, 9, 10, 13, 14, 15, 16, 17, 18, 19, 20, 11, 12], tails := [(1000006, 6)] }], [])
def spt19 : Tab (List LSpec × List Nat) := (.node (.node (.node .leaf none (.node (.node .leaf (some sp19_19) .leaf) none .leaf)) none (.node (.node .leaf none (.node .leaf (some sp19_25) .leaf)) none .leaf)) none .leaf)
def spf19 (f : Nat) : List LSpec × List Nat := (spt19.get f).getD ([], [])
theorem pd_ref01_Digits : PureD Tryd.prog cfg 19 p_ref01_Digits := fnD spf19 (l := []) cfgOk cfgGlob .nil (fun d => by kernel_rfl)

/-- thimblerig/thimblerigref11.Text -/
noncomputable def ref11_Text (d0 : (Int) × ((Int) × (List (Int)))) : Option (List (Int)) :=
 Dat.bnd (Dat.wrap .u8 d0.1) fun (x1 : Int) =>
 Dat.bnd (Dat.wrap .u64 d0.2.1) fun (x2 : Int) =>
 Dat.bind (ref01_Digits (x2, 4)) fun (x3 : (List (Int)) × (Bool)) =>
 if (Dat.Le (Dat.addN 0 1) (Dat.len (x1 :: ([] : List (Int))))) then if (Dat.Big (Dat.len (Dat.seg (x1 :: ([] : List (Int))) 0 1)) (Dat.len x3.1) 1) then none
 else Dat.bnd (Dat.app (Dat.seg (x1 :: ([] : List (Int))) 0 1) x3.1) fun (x8 : List (Int)) =>
 if (Dat.Big (Dat.len x8) (Dat.len d0.2.2) 1) then none
 else if (Dat.EqN (Dat.len x8) (Dat.len x8)) then Dat.bnd (Dat.app x8 d0.2.2) fun (x13 : List (Int)) =>
 some x13
 else none
 else none
noncomputable def p_ref11_Text : PFn := { args := [(.int .i64), (.int .i64), (.list (.int .u8))], res := [(.list (.int .u8))], fn := ref11_Text }
def sp12_25 : List LSpec × List Nat := ([], [5])
def spt12 : Tab (List LSpec × List Nat) := (.node (.node .leaf none (.node (.node .leaf none (.node .leaf (some sp12_25) .leaf)) none .leaf)) none .leaf)
def spf12 (f : Nat) : List LSpec × List Nat := (spt12.get f).getD ([], [])
theorem pd_ref11_Text : PureD Tryd.prog cfg 12 p_ref11_Text := fnD spf12 (l := [(19, p_ref01_Digits)]) cfgOk cfgGlob (.cons pd_ref01_Digits .nil) (fun d => by kernel_rfl)

/-- thimblerig/thimblerigref11.Hashed -/
noncomputable def ref11_Hashed (d0 : (Int) × ((Int) × (List (Int)))) : Option ((List (Int)) × (Int)) :=
 Dat.bind (ref11_may (d0.1, d0.2.1)) fun (x1 : Bool) =>
 (bif (Dat.bnot x1) then some (([] : List (Int)), 2)
 else Dat.bind (ref11_Text (d0.1, (d0.2.1, d0.2.2))) fun (x2 : List (Int)) =>
 some (x2, 0))
noncomputable def p_ref11_Hashed : PFn := { args := [(.int .i64), (.int .i64), (.list (.int .u8))], res := [(.list (.int .u8)), (.int .i64)], fn := ref11_Hashed }
def sp5_25 : List LSpec × List Nat := ([], [5])
def spt5 : Tab (List LSpec × List Nat) := (.node (.node .leaf none (.node (.node .leaf none (.node .leaf (some sp5_25) .leaf)) none .leaf)) none .leaf)
def spf5 (f : Nat) : List LSpec × List Nat := (spt5.get f).getD ([], [])
theorem pd_ref11_Hashed : PureD Tryd.prog cfg 5 p_ref11_Hashed := fnD spf5 (l := [(11, p_ref11_may), (12, p_ref11_Text)]) cfgOk cfgGlob (.cons pd_ref11_may (.cons pd_ref11_Text .nil)) (fun d => by kernel_rfl)

/-- thimblerig/sha.Begin -/
noncomputable def sha_Begin (d0 : Unit) : Option ((List (Int)) × ((List (Int)) × ((Int) × (Unit)))) :=
 some ((1779033703 :: (3144134277 :: (1013904242 :: (2773480762 :: (1359893119 :: (2600822924 :: (528734635 :: (1541459225 :: ([] : List (Int)))))))))), (([] : List (Int)), (0, ())))
noncomputable def p_sha_Begin : PFn := { args := [], res := [(.pair (.arr 8 (.int .u32)) (.pair (.list (.int .u8)) (.pair (.int .u64) .unit)))], fn := sha_Begin }
def sp20_25 : List LSpec × List Nat := ([], [5])
def spt20 : Tab (List LSpec × List Nat) := (.node (.node .leaf none (.node (.node .leaf none (.node .leaf (some sp20_25) .leaf)) none .leaf)) none .leaf)
def spf20 (f : Nat) : List LSpec × List Nat := (spt20.get f).getD ([], [])
theorem pd_sha_Begin : PureD Tryd.prog cfg 20 p_sha_Begin := fnD spf20 (l := []) cfgOk cfgGlob .nil (fun d => by kernel_rfl)

/-- thimblerig/sha.Check -/
noncomputable def sha_Check (d0 : (List (Int)) × ((List (Int)) × ((Int) × (Unit)))) : Option (Int) :=
 (bif (Dat.ige d0.2.2.1 72057594037927936) then some 8
 else Dat.bnd (Dat.wrap .u64 (Dat.ofN (Dat.len d0.2.1))) fun (x1 : Int) =>
 if (Dat.IsZ 64) then none
 else Dat.bnd (Dat.tmod d0.2.2.1 64) fun (x4 : Int) =>
 (bif (Dat.pickB false true (Dat.ine x1 x4)) then some 8
 else some 0))
noncomputable def p_sha_Check : PFn := { args := [(.pair (.arr 8 (.int .u32)) (.pair (.list (.int .u8)) (.pair (.int .u64) .unit)))], res := [(.int .i64)], fn := sha_Check }
def sp26_25 : List LSpec × List Nat := ([], [5])
def spt26 : Tab (List LSpec × List Nat) := (.node (.node .leaf none (.node (.node .leaf none (.node .leaf (some sp26_25) .leaf)) none .leaf)) none .leaf)
def spf26 (f : Nat) : List LSpec × List Nat := (spt26.get f).getD ([], [])
theorem pd_sha_Check : PureD Tryd.prog cfg 26 p_sha_Check := fnD spf26 (l := []) cfgOk cfgGlob .nil (fun d => by kernel_rfl)

/-- math/bits.RotateLeft32 -/
noncomputable def math_bits_RotateLeft32 (d0 : (Int) × (Int)) : Option (Int) :=
 Dat.bnd (Dat.wrap .u64 d0.2) fun (x1 : Int) =>
 Dat.bnd (Dat.band .u64 x1 31) fun (x2 : Int) =>
 if (Dat.Neg x2) then none
 else Dat.bnd (Dat.shl .u32 d0.1 x2) fun (x5 : Int) =>
 Dat.bnd (Dat.wrap .u64 (Dat.sub 32 x2)) fun (x6 : Int) =>
 if (Dat.Neg x6) then none
 else Dat.bnd (Dat.shr .u32 d0.1 x6) fun (x9 : Int) =>
 Dat.bnd (Dat.bor .u32 x5 x9) fun (x10 : Int) =>
 some x10
noncomputable def p_math_bits_RotateLeft32 : PFn := { args := [(.int .u32), (.int .i64)], res := [(.int .u32)], fn := math_bits_RotateLeft32 }
def sp40_25 : List LSpec × List Nat := ([], [5])
def spt40 : Tab (List LSpec × List Nat) := (.node (.node .leaf none (.node (.node .leaf none (.node .leaf (some sp40_25) .leaf)) none .leaf)) none .leaf)
def spf40 (f : Nat) : List LSpec × List Nat := (spt40.get f).getD ([], [])
theorem pd_math_bits_RotateLeft32 : PureD Tryd.prog cfg 40 p_math_bits_RotateLeft32 := fnD spf40 (l := []) cfgOk cfgGlob .nil (fun d => by kernel_rfl)

/-- (thimblerig/sha.amounts).of -/
noncomputable def sha_amounts_of (d0 : ((List (Int)) × ((Bool) × (Unit))) × (Int)) : Option (Int) :=
 if (Dat.In 2 3) then Dat.bnd (Dat.wrap .i64 (Dat.sub 0 (Dat.get d0.1.1 2 0))) fun (x3 : Int) =>
 Dat.bind (math_bits_RotateLeft32 (d0.2, x3)) fun (x4 : Int) =>
 (bif d0.1.2.1 then if (Dat.In 2 3) then if (Dat.Neg (Dat.get d0.1.1 2 0)) then none
 else Dat.bnd (Dat.shr .u32 d0.2 (Dat.get d0.1.1 2 0)) fun (x9 : Int) =>
 if (Dat.In 0 3) then Dat.bnd (Dat.wrap .i64 (Dat.sub 0 (Dat.get d0.1.1 0 0))) fun (x12 : Int) =>
 if (Dat.In 1 3) then Dat.bnd (Dat.wrap .i64 (Dat.sub 0 (Dat.get d0.1.1 1 0))) fun (x15 : Int) =>
 Dat.bind (math_bits_RotateLeft32 (d0.2, x12)) fun (x16 : Int) =>
 Dat.bind (math_bits_RotateLeft32 (d0.2, x15)) fun (x17 : Int) =>
 Dat.bnd (Dat.bxor .u32 x16 x17) fun (x18 : Int) =>
 Dat.bnd (Dat.bxor .u32 x18 x9) fun (x19 : Int) =>
 some x19
 else none
 else none
 else none
 else if (Dat.In 0 3) then Dat.bnd (Dat.wrap .i64 (Dat.sub 0 (Dat.get d0.1.1 0 0))) fun (x22 : Int) =>
 if (Dat.In 1 3) then Dat.bnd (Dat.wrap .i64 (Dat.sub 0 (Dat.get d0.1.1 1 0))) fun (x25 : Int) =>
 Dat.bind (math_bits_RotateLeft32 (d0.2, x22)) fun (x26 : Int) =>
 Dat.bind (math_bits_RotateLeft32 (d0.2, x25)) fun (x27 : Int) =>
 Dat.bnd (Dat.bxor .u32 x26 x27) fun (x28 : Int) =>
 Dat.bnd (Dat.bxor .u32 x28 x4) fun (x29 : Int) =>
 some x29
 else none
 else none)
 else none
noncomputable def p_sha_amounts_of : PFn := { args := [(.pair (.arr 3 (.int .i64)) (.pair .bool .unit)), (.int .u32)], res := [(.int .u32)], fn := sha_amounts_of }
def sp36_25 : List LSpec × List Nat := ([], [5])
def spt36 : Tab (List LSpec × List Nat) := (.node (.node .leaf none (.node (.node .leaf none (.node .leaf (some sp36_25) .leaf)) none .leaf)) none .leaf)
def spf36 (f : Nat) : List LSpec × List Nat := (spt36.get f).getD ([], [])
theorem pd_sha_amounts_of : PureD Tryd.prog cfg 36 p_sha_amounts_of := fnD spf36 (l := [(40, p_math_bits_RotateLeft32)]) cfgOk cfgGlob (.cons pd_math_bits_RotateLeft32 .nil) (fun d => by kernel_rfl)

/-- thimblerig/sha.spread -/
noncomputable def sha_spread (d0 : List (Int)) : Option (List (Int)) :=
 Dat.loop (fun (s1 : (Int) × (List (Int))) k2 =>
 (bif (Dat.ilt s1.1 64) then (bif (Dat.ilt s1.1 16) then Dat.bnd (Dat.wrap .i64 (Dat.mul 4 s1.1)) fun (x3 : Int) =>
 if (Dat.In x3 64) then if (Dat.Lt (Dat.toN x3) (Dat.len (Dat.norm 64 d0 0))) then Dat.bnd (Dat.get (Dat.norm 64 d0 0) (Dat.toN x3) 0) fun (x8 : Int) =>
 Dat.bnd (Dat.wrap .u32 x8) fun (x9 : Int) =>
 if (Dat.Neg 24) then none
 else Dat.bnd (Dat.shl .u32 x9 24) fun (x12 : Int) =>
 Dat.bnd (Dat.wrap .i64 (Dat.mul 4 s1.1)) fun (x13 : Int) =>
 Dat.bnd (Dat.wrap .i64 (Dat.add x13 1)) fun (x14 : Int) =>
 if (Dat.In x14 64) then if (Dat.Lt (Dat.toN x14) (Dat.len (Dat.norm 64 d0 0))) then Dat.bnd (Dat.get (Dat.norm 64 d0 0) (Dat.toN x14) 0) fun (x19 : Int) =>
 Dat.bnd (Dat.wrap .u32 x19) fun (x20 : Int) =>
 if (Dat.Neg 16) then none
 else Dat.bnd (Dat.shl .u32 x20 16) fun (x23 : Int) =>
 Dat.bnd (Dat.bor .u32 x12 x23) fun (x24 : Int) =>
 Dat.bnd (Dat.wrap .i64 (Dat.mul 4 s1.1)) fun (x25 : Int) =>
 Dat.bnd (Dat.wrap .i64 (Dat.add x25 2)) fun (x26 : Int) =>
 if (Dat.In x26 64) then if (Dat.Lt (Dat.toN x26) (Dat.len (Dat.norm 64 d0 0))) then Dat.bnd (Dat.get (Dat.norm 64 d0 0) (Dat.toN x26) 0) fun (x31 : Int) =>
 Dat.bnd (Dat.wrap .u32 x31) fun (x32 : Int) =>
 if (Dat.Neg 8) then none
 else Dat.bnd (Dat.shl .u32 x32 8) fun (x35 : Int) =>
 Dat.bnd (Dat.bor .u32 x24 x35) fun (x36 : Int) =>
 Dat.bnd (Dat.wrap .i64 (Dat.mul 4 s1.1)) fun (x37 : Int) =>
 Dat.bnd (Dat.wrap .i64 (Dat.add x37 3)) fun (x38 : Int) =>
 if (Dat.In x38 64) then if (Dat.Lt (Dat.toN x38) (Dat.len (Dat.norm 64 d0 0))) then Dat.bnd (Dat.get (Dat.norm 64 d0 0) (Dat.toN x38) 0) fun (x43 : Int) =>
 Dat.bnd (Dat.wrap .u32 x43) fun (x44 : Int) =>
 Dat.bnd (Dat.bor .u32 x36 x44) fun (x45 : Int) =>
 if (Dat.In s1.1 64) then if (Dat.Lt (Dat.toN s1.1) (Dat.len s1.2)) then Dat.bnd (Dat.set s1.2 (Dat.toN s1.1) x45) fun (x50 : List (Int)) =>
 Dat.bnd (Dat.wrap .i64 (Dat.add s1.1 1)) fun (x51 : Int) =>
 k2 (x51, x50)
 else none
 else none
 else none
 else none
 else none
 else none
 else none
 else none
 else none
 else none
 else Dat.bnd (Dat.wrap .i64 (Dat.sub s1.1 16)) fun (x52 : Int) =>
 if (Dat.In x52 64) then if (Dat.Lt (Dat.toN x52) (Dat.len s1.2)) then Dat.bnd (Dat.get s1.2 (Dat.toN x52) 0) fun (x57 : Int) =>
 Dat.bnd (Dat.wrap .i64 (Dat.sub s1.1 7)) fun (x58 : Int) =>
 if (Dat.In x58 64) then if (Dat.Lt (Dat.toN x58) (Dat.len s1.2)) then Dat.bnd (Dat.get s1.2 (Dat.toN x58) 0) fun (x63 : Int) =>
 Dat.bnd (Dat.wrap .u32 (Dat.add x57 x63)) fun (x64 : Int) =>
 Dat.bnd (Dat.wrap .i64 (Dat.sub s1.1 15)) fun (x65 : Int) =>
 if (Dat.In x65 64) then if (Dat.Lt (Dat.toN x65) (Dat.len s1.2)) then Dat.bnd (Dat.get s1.2 (Dat.toN x65) 0) fun (x70 : Int) =>
 Dat.bnd (Dat.wrap .i64 (Dat.sub s1.1 2)) fun (x71 : Int) =>
 if (Dat.In x71 64) then if (Dat.Lt (Dat.toN x71) (Dat.len s1.2)) then Dat.bnd (Dat.get s1.2 (Dat.toN x71) 0) fun (x76 : Int) =>
 Dat.bind (sha_amounts_of (((7 :: (18 :: (3 :: ([] : List (Int))))), (true, ())), x70)) fun (x77 : Int) =>
 Dat.bnd (Dat.wrap .u32 (Dat.add x64 x77)) fun (x78 : Int) =>
 Dat.bind (sha_amounts_of (((17 :: (19 :: (10 :: ([] : List (Int))))), (true, ())), x76)) fun (x79 : Int) =>
 Dat.bnd (Dat.wrap .u32 (Dat.add x78 x79)) fun (x80 : Int) =>
 if (Dat.In s1.1 64) then if (Dat.Lt (Dat.toN s1.1) (Dat.len s1.2)) then Dat.bnd (Dat.set s1.2 (Dat.toN s1.1) x80) fun (x85 : List (Int)) =>
 Dat.bnd (Dat.wrap .i64 (Dat.add s1.1 1)) fun (x86 : Int) =>
 k2 (x86, x85)
 else none
 else none
 else none
 else none
 else none
 else none
 else none
 else none
 else none
 else none)
 else if (Dat.EqN (Dat.len s1.2) 64) then if (Dat.EqN (Dat.len (Dat.rep 64 0)) 64) then if (Dat.EqN (Dat.len (Dat.norm 64 s1.2 0)) 64) then some (Dat.norm 64 s1.2 0)
 else none
 else none
 else none)) (0, (Dat.rep 64 0))
noncomputable def p_sha_spread : PFn := { args := [(.arr 64 (.int .u8))], res := [(.arr 64 (.int .u32))], fn := sha_spread }
def sp33_25 : List LSpec × List Nat := ([], [5])
def sp33_33 : List LSpec × List Nat := ([{ id := 3300, known := true, toks := [], items := [.slot 11 (.val (.int .i64)), .vec 1000005 (.int .u32)], junk := [12, 13, 6, 14, 15, 16, 17, 18, 19, 20, 21, 22, 23, 24, 25, 26, 27, 28, 29, 30, 31, 32, 33, 34, 35, 36, 37, 38, 39, 40, 41, 42, 43, 44, 45, 46, 47, 48, 49, 50, 51, 52, 53, 54, 55, 56, 57, 58, 59, 60, 61, 62, 63, 64, 65, 66, 67, 68, 69, 70, 71, 72], tails := [] }], [])
def spt33 : Tab (List LSpec × List Nat) := (.node (.node .leaf none (.node (.node (.node (.node .leaf (some sp33_33) .leaf) none .leaf) none (.node .leaf (some sp33_25) .leaf)) none .leaf)) none .leaf)
def spf33 (f : Nat) : List LSpec × List Nat := (spt33.get f).getD ([], [])
theorem pd_sha_spread : PureD Tryd.prog cfg 33 p_sha_spread := fnD spf33 (l := [(36, p_sha_amounts_of)]) cfgOk cfgGlob (.cons pd_sha_amounts_of .nil) (fun d => by kernel_rfl)

/-- thimblerig/sha.round -/
noncomputable def sha_round (d0 : (List (Int)) × (Int)) : Option (List (Int)) :=
 if (Dat.In 0 8) then if (Dat.Lt (Dat.toN 0) (Dat.len (Dat.norm 8 d0.1 0))) then Dat.bnd (Dat.get (Dat.norm 8 d0.1 0) (Dat.toN 0) 0) fun (x5 : Int) =>
 if (Dat.In 1 8) then if (Dat.Lt (Dat.toN 1) (Dat.len (Dat.norm 8 d0.1 0))) then Dat.bnd (Dat.get (Dat.norm 8 d0.1 0) (Dat.toN 1) 0) fun (x10 : Int) =>
 if (Dat.In 2 8) then if (Dat.Lt (Dat.toN 2) (Dat.len (Dat.norm 8 d0.1 0))) then Dat.bnd (Dat.get (Dat.norm 8 d0.1 0) (Dat.toN 2) 0) fun (x15 : Int) =>
 if (Dat.In 3 8) then if (Dat.Lt (Dat.toN 3) (Dat.len (Dat.norm 8 d0.1 0))) then Dat.bnd (Dat.get (Dat.norm 8 d0.1 0) (Dat.toN 3) 0) fun (x20 : Int) =>
 if (Dat.In 4 8) then if (Dat.Lt (Dat.toN 4) (Dat.len (Dat.norm 8 d0.1 0))) then Dat.bnd (Dat.get (Dat.norm 8 d0.1 0) (Dat.toN 4) 0) fun (x25 : Int) =>
 if (Dat.In 5 8) then if (Dat.Lt (Dat.toN 5) (Dat.len (Dat.norm 8 d0.1 0))) then Dat.bnd (Dat.get (Dat.norm 8 d0.1 0) (Dat.toN 5) 0) fun (x30 : Int) =>
 if (Dat.In 6 8) then if (Dat.Lt (Dat.toN 6) (Dat.len (Dat.norm 8 d0.1 0))) then Dat.bnd (Dat.get (Dat.norm 8 d0.1 0) (Dat.toN 6) 0) fun (x35 : Int) =>
 if (Dat.In 7 8) then if (Dat.Lt (Dat.toN 7) (Dat.len (Dat.norm 8 d0.1 0))) then Dat.bnd (Dat.get (Dat.norm 8 d0.1 0) (Dat.toN 7) 0) fun (x40 : Int) =>
 Dat.bind (sha_amounts_of (((6 :: (11 :: (25 :: ([] : List (Int))))), (false, ())), x25)) fun (x41 : Int) =>
 Dat.bnd (Dat.wrap .u32 (Dat.add x40 x41)) fun (x42 : Int) =>
 Dat.bnd (Dat.band .u32 x25 x30) fun (x43 : Int) =>
 Dat.bnd (Dat.bxor .u32 4294967295 x25) fun (x44 : Int) =>
 Dat.bnd (Dat.band .u32 x44 x35) fun (x45 : Int) =>
 Dat.bnd (Dat.bxor .u32 x43 x45) fun (x46 : Int) =>
 Dat.bnd (Dat.wrap .u32 (Dat.add x42 x46)) fun (x47 : Int) =>
 Dat.bnd (Dat.wrap .u32 (Dat.add x47 d0.2)) fun (x48 : Int) =>
 Dat.bind (sha_amounts_of (((2 :: (13 :: (22 :: ([] : List (Int))))), (false, ())), x5)) fun (x49 : Int) =>
 Dat.bnd (Dat.band .u32 x5 x10) fun (x50 : Int) =>
 Dat.bnd (Dat.band .u32 x5 x15) fun (x51 : Int) =>
 Dat.bnd (Dat.bxor .u32 x50 x51) fun (x52 : Int) =>
 Dat.bnd (Dat.band .u32 x10 x15) fun (x53 : Int) =>
 Dat.bnd (Dat.bxor .u32 x52 x53) fun (x54 : Int) =>
 Dat.bnd (Dat.wrap .u32 (Dat.add x49 x54)) fun (x55 : Int) =>
 Dat.bnd (Dat.wrap .u32 (Dat.add x48 x55)) fun (x56 : Int) =>
 Dat.bnd (Dat.wrap .u32 (Dat.add x20 x48)) fun (x57 : Int) =>
 if (Dat.EqN (Dat.len (Dat.rep 8 0)) (Dat.len (x56 :: (x5 :: (x10 :: (x15 :: (x57 :: (x25 :: (x30 :: (x35 :: ([] : List (Int)))))))))))) then if (Dat.EqN (Dat.len (x56 :: (x5 :: (x10 :: (x15 :: (x57 :: (x25 :: (x30 :: (x35 :: ([] : List (Int))))))))))) 8) then some (x56 :: (x5 :: (x10 :: (x15 :: (x57 :: (x25 :: (x30 :: (x35 :: ([] : List (Int))))))))))
 else none
 else none
 else none
 else none
 else none
 else none
 else none
 else none
 else none
 else none
 else none
 else none
 else none
 else none
 else none
 else none
 else none
 else none
noncomputable def p_sha_round : PFn := { args := [(.arr 8 (.int .u32)), (.int .u32)], res := [(.arr 8 (.int .u32))], fn := sha_round }
def sp34_25 : List LSpec × List Nat := ([], [5])
def spt34 : Tab (List LSpec × List Nat) := (.node (.node .leaf none (.node (.node .leaf none (.node .leaf (some sp34_25) .leaf)) none .leaf)) none .leaf)
def spf34 (f : Nat) : List LSpec × List Nat := (spt34.get f).getD ([], [])
theorem pd_sha_round : PureD Tryd.prog cfg 34 p_sha_round := fnD spf34 (l := [(36, p_sha_amounts_of)]) cfgOk cfgGlob (.cons pd_sha_amounts_of .nil) (fun d => by kernel_rfl)

/-- thimblerig/sha.turn -/
noncomputable def sha_turn (d0 : (List (Int)) × (List (Int))) : Option (List (Int)) :=
 if (Dat.EqN (Dat.len (Dat.norm 64 d0.2 0)) 64) then Dat.bind (sha_spread (Dat.norm 64 d0.2 0)) fun (x3 : List (Int)) =>
 if (Dat.EqN (Dat.len (Dat.rep 64 0)) 64) then if (Dat.EqN (Dat.len (Dat.norm 8 d0.1 0)) 8) then if (Dat.EqN (Dat.len (Dat.rep 8 0)) 8) then Dat.loop (fun (s10 : (Int) × (List (Int))) k11 =>
 (bif (Dat.ilt s10.1 64) then if (Dat.EqN (Dat.len s10.2) 8) then if (Dat.In s10.1 64) then Dat.bnd (Dat.get gl0 (Dat.toN s10.1) 0) fun (x16 : Int) =>
 if (Dat.In s10.1 64) then if (Dat.Lt (Dat.toN s10.1) (Dat.len (Dat.norm 64 x3 0))) then Dat.bnd (Dat.get (Dat.norm 64 x3 0) (Dat.toN s10.1) 0) fun (x21 : Int) =>
 Dat.bnd (Dat.wrap .u32 (Dat.add x16 x21)) fun (x22 : Int) =>
 Dat.bind (sha_round (s10.2, x22)) fun (x23 : List (Int)) =>
 if (Dat.EqN (Dat.len s10.2) 8) then Dat.bnd (Dat.wrap .i64 (Dat.add s10.1 1)) fun (x26 : Int) =>
 k11 (x26, (Dat.norm 8 x23 0))
 else none
 else none
 else none
 else none
 else none
 else Dat.loop (fun (s27 : (Int) × (List (Int))) k28 =>
 (bif (Dat.ilt s27.1 8) then if (Dat.In s27.1 8) then if (Dat.Lt (Dat.toN s27.1) (Dat.len s27.2)) then Dat.bnd (Dat.get s27.2 (Dat.toN s27.1) 0) fun (x33 : Int) =>
 if (Dat.In s27.1 8) then if (Dat.Lt (Dat.toN s27.1) (Dat.len s10.2)) then Dat.bnd (Dat.get s10.2 (Dat.toN s27.1) 0) fun (x38 : Int) =>
 Dat.bnd (Dat.wrap .u32 (Dat.add x33 x38)) fun (x39 : Int) =>
 if (Dat.In s27.1 8) then if (Dat.Lt (Dat.toN s27.1) (Dat.len s27.2)) then Dat.bnd (Dat.set s27.2 (Dat.toN s27.1) x39) fun (x44 : List (Int)) =>
 Dat.bnd (Dat.wrap .i64 (Dat.add s27.1 1)) fun (x45 : Int) =>
 k28 (x45, x44)
 else none
 else none
 else none
 else none
 else none
 else none
 else if (Dat.EqN (Dat.len s27.2) 8) then if (Dat.EqN (Dat.len (Dat.rep 8 0)) 8) then if (Dat.EqN (Dat.len (Dat.norm 8 s27.2 0)) 8) then some (Dat.norm 8 s27.2 0)
 else none
 else none
 else none)) (0, (Dat.norm 8 d0.1 0)))) (0, (Dat.norm 8 (Dat.norm 8 d0.1 0) 0))
 else none
 else none
 else none
 else none
noncomputable def p_sha_turn : PFn := { args := [(.arr 8 (.int .u32)), (.arr 64 (.int .u8))], res := [(.arr 8 (.int .u32))], fn := sha_turn }
def sp27_25 : List LSpec × List Nat := ([], [5])
def sp27_27 : List LSpec × List Nat := ([{ id := 2700, known := true, toks := [], items := [.slot 12 (.val (.int .i64)), .vec 1000006 (.int .u32)], junk := [13, 14, 7, 15, 16, 17, 18, 19, 20, 21, 22, 23, 24], tails := [] }, { id := 2701, known := true, toks := [], items := [.slot 25 (.val (.int .i64)), .vec 1000002 (.int .u32)], junk := [26, 27, 8, 28, 29, 30, 31, 32, 33, 34, 35, 36], tails := [] }], [])
def spt27 : Tab (List LSpec × List Nat) := (.node (.node (.node .leaf none (.node .leaf none (.node .leaf (some sp27_27) .leaf))) none (.node (.node .leaf none (.node .leaf (some sp27_25) .leaf)) none .leaf)) none .leaf)
def spf27 (f : Nat) : List LSpec × List Nat := (spt27.get f).getD ([], [])
theorem pd_sha_turn : PureD Tryd.prog cfg 27 p_sha_turn := fnD spf27 (l := [(33, p_sha_spread), (34, p_sha_round)]) cfgOk cfgGlob (.cons pd_sha_spread (.cons pd_sha_round .nil)) (fun d => by kernel_rfl)

/-- slices.Clone(()byte,byte) -/
noncomputable def slices_Clone_byte_byte (d0 : List (Int)) : Option (List (Int)) :=
 if (Dat.Le (Dat.addN 0 0) (Dat.len ([] : List (Int)))) then if (Dat.Big (Dat.len (Dat.seg ([] : List (Int)) 0 0)) (Dat.len d0) 1) then none
 else Dat.bnd (Dat.app (Dat.seg ([] : List (Int)) 0 0) d0) fun (x5 : List (Int)) =>
 some x5
 else none
noncomputable def p_slices_Clone_byte_byte : PFn := { args := [(.list (.int .u8))], res := [(.list (.int .u8))], fn := slices_Clone_byte_byte }
noncomputable def cx28 : CloneX Tryd.prog cfg 28 5 (.int .u8) := clx xf28 5 (xf28.body.cOps.getD 0 ⟨none, .move (.tmp 0), 0, "", #[], none⟩) (xf28.body.cOps.getD 1 ⟨none, .move (.tmp 0), 0, "", #[], none⟩) (by kernel_rfl) (by kernel_rfl) (by kernel_rfl) (by kernel_rfl) (by kernel_rfl) (by kernel_rfl) (by kernel_rfl) (by kernel_rfl) (by kernel_rfl)
theorem pd_slices_Clone_byte_byte : PureD Tryd.prog cfg 28 p_slices_Clone_byte_byte := cloneD sp0 cfgOk cfgGlob cx28 (of_decide_eq_true (by kernel_rfl)) (by kernel_rfl) (by kernel_rfl) (by kernel_rfl) (fun d => by kernel_rfl) (fun d => by kernel_rfl) (by kernel_rfl) (fun d r h => by
  unfold slices_Clone_byte_byte at h
  split at h
  · split at h
    · cases h
    · have h1 : some d = some r := h
      exact (Option.some.inj h1).symm
  · cases h)

/-- thimblerig/sha.More -/
noncomputable def sha_More (d0 : ((List (Int)) × ((List (Int)) × ((Int) × (Unit)))) × (List (Int))) : Option (((List (Int)) × ((List (Int)) × ((Int) × (Unit)))) × (Int)) :=
 Dat.bind (sha_Check (((Dat.get d0.1.1 0 0) :: ((Dat.get d0.1.1 1 0) :: ((Dat.get d0.1.1 2 0) :: ((Dat.get d0.1.1 3 0) :: ((Dat.get d0.1.1 4 0) :: ((Dat.get d0.1.1 5 0) :: ((Dat.get d0.1.1 6 0) :: ((Dat.get d0.1.1 7 0) :: ([] : List (Int)))))))))), (d0.1.2.1, (d0.1.2.2.1, ())))) fun (x1 : Int) =>
 (bif (Dat.ine x1 0) then some (((0 :: (0 :: (0 :: (0 :: (0 :: (0 :: (0 :: (0 :: ([] : List (Int)))))))))), (([] : List (Int)), (0, ()))), x1)
 else Dat.bnd (Dat.wrap .u64 (Dat.ofN (Dat.len d0.2))) fun (x2 : Int) =>
 Dat.bnd (Dat.wrap .u64 (Dat.sub 72057594037927936 d0.1.2.2.1)) fun (x3 : Int) =>
 (bif (Dat.ige x2 x3) then some (((0 :: (0 :: (0 :: (0 :: (0 :: (0 :: (0 :: (0 :: ([] : List (Int)))))))))), (([] : List (Int)), (0, ()))), 4)
 else Dat.bnd (Dat.wrap .u64 (Dat.ofN (Dat.len d0.2))) fun (x4 : Int) =>
 Dat.bnd (Dat.wrap .u64 (Dat.add d0.1.2.2.1 x4)) fun (x5 : Int) =>
 if (Dat.Le 64 (Dat.len (Dat.rep 64 0))) then if (Dat.Lt 0 64) then if (Dat.Le (Dat.addN 0 (Dat.subN 64 0)) (Dat.len (Dat.rep 64 0))) then Dat.loop (fun (s12 : (Int) × ((List (Int)) × (((Int) × ((Int) × ((Int) × ((Int) × ((Int) × ((Int) × ((Int) × ((Int) × ((List (Int)) × (Int)))))))))) × (List (Int))))) k13 =>
 if (Dat.Le 64 (Dat.len s12.2.2.2)) then if (Dat.Bd s12.1 64) then if (Dat.Lt (Dat.toN s12.1) 64) then if (Dat.Le (Dat.addN (Dat.toN s12.1) (Dat.subN 64 (Dat.toN s12.1))) (Dat.len s12.2.2.2)) then Dat.bnd (Dat.wrap .i64 (Dat.add s12.1 (Dat.ofN (Dat.minN (Dat.len s12.2.1) (Dat.subN 64 (Dat.toN s12.1)))))) fun (x22 : Int) =>
 if (Dat.Bd (Dat.ofN (Dat.minN (Dat.len s12.2.1) (Dat.subN 64 (Dat.toN s12.1)))) (Dat.len s12.2.1)) then Dat.bnd (Dat.slice s12.2.1 (Dat.toN (Dat.ofN (Dat.minN (Dat.len s12.2.1) (Dat.subN 64 (Dat.toN s12.1))))) (Dat.len s12.2.1)) fun (x25 : List (Int)) =>
 (bif (Dat.ilt x22 64) then if (Dat.Le 64 (Dat.len (Dat.put s12.2.2.2 (Dat.toN s12.1) (Dat.take (Dat.minN (Dat.len s12.2.1) (Dat.subN 64 (Dat.toN s12.1))) s12.2.1)))) then if (Dat.Bd x22 64) then if (Dat.Lt 0 64) then if (Dat.Le (Dat.addN 0 (Dat.subN (Dat.toN x22) 0)) (Dat.len (Dat.put s12.2.2.2 (Dat.toN s12.1) (Dat.take (Dat.minN (Dat.len s12.2.1) (Dat.subN 64 (Dat.toN s12.1))) s12.2.1)))) then if (Dat.EqN (Dat.len (Dat.seg (Dat.put s12.2.2.2 (Dat.toN s12.1) (Dat.take (Dat.minN (Dat.len s12.2.1) (Dat.subN 64 (Dat.toN s12.1))) s12.2.1)) 0 (Dat.subN (Dat.toN x22) 0))) 0) then if (Dat.Le (Dat.addN 0 (Dat.subN (Dat.toN x22) 0)) (Dat.len (Dat.put s12.2.2.2 (Dat.toN s12.1) (Dat.take (Dat.minN (Dat.len s12.2.1) (Dat.subN 64 (Dat.toN s12.1))) s12.2.1)))) then Dat.bind (slices_Clone_byte_byte (Dat.seg (Dat.put s12.2.2.2 (Dat.toN s12.1) (Dat.take (Dat.minN (Dat.len s12.2.1) (Dat.subN 64 (Dat.toN s12.1))) s12.2.1)) 0 (Dat.subN (Dat.toN x22) 0))) fun (x38 : List (Int)) =>
 if (Dat.EqN (Dat.len x38) 0) then some (((s12.2.2.1.1 :: (s12.2.2.1.2.1 :: (s12.2.2.1.2.2.1 :: (s12.2.2.1.2.2.2.1 :: (s12.2.2.1.2.2.2.2.1 :: (s12.2.2.1.2.2.2.2.2.1 :: (s12.2.2.1.2.2.2.2.2.2.1 :: (s12.2.2.1.2.2.2.2.2.2.2.1 :: ([] : List (Int)))))))))), (x38, (s12.2.2.1.2.2.2.2.2.2.2.2.2, ()))), 0)
 else none
 else none
 else if (Dat.Le (Dat.addN 0 (Dat.subN (Dat.toN x22) 0)) (Dat.len (Dat.put s12.2.2.2 (Dat.toN s12.1) (Dat.take (Dat.minN (Dat.len s12.2.1) (Dat.subN 64 (Dat.toN s12.1))) s12.2.1)))) then if (Dat.Le (Dat.addN 0 0) (Dat.len ([] : List (Int)))) then if (Dat.EqN (Dat.len (Dat.seg (Dat.put s12.2.2.2 (Dat.toN s12.1) (Dat.take (Dat.minN (Dat.len s12.2.1) (Dat.subN 64 (Dat.toN s12.1))) s12.2.1)) 0 (Dat.subN (Dat.toN x22) 0))) 0) then if (Dat.Le (Dat.addN 0 0) (Dat.len ([] : List (Int)))) then some (((s12.2.2.1.1 :: (s12.2.2.1.2.1 :: (s12.2.2.1.2.2.1 :: (s12.2.2.1.2.2.2.1 :: (s12.2.2.1.2.2.2.2.1 :: (s12.2.2.1.2.2.2.2.2.1 :: (s12.2.2.1.2.2.2.2.2.2.1 :: (s12.2.2.1.2.2.2.2.2.2.2.1 :: ([] : List (Int)))))))))), ((Dat.seg ([] : List (Int)) 0 0), (s12.2.2.1.2.2.2.2.2.2.2.2.2, ()))), 0)
 else none
 else if (Dat.Big (Dat.len (Dat.seg ([] : List (Int)) 0 0)) (Dat.len (Dat.seg (Dat.put s12.2.2.2 (Dat.toN s12.1) (Dat.take (Dat.minN (Dat.len s12.2.1) (Dat.subN 64 (Dat.toN s12.1))) s12.2.1)) 0 (Dat.subN (Dat.toN x22) 0))) 1) then none
 else Dat.bnd (Dat.app (Dat.seg ([] : List (Int)) 0 0) (Dat.seg (Dat.put s12.2.2.2 (Dat.toN s12.1) (Dat.take (Dat.minN (Dat.len s12.2.1) (Dat.subN 64 (Dat.toN s12.1))) s12.2.1)) 0 (Dat.subN (Dat.toN x22) 0))) fun (x51 : List (Int)) =>
 if (Dat.Le (Dat.addN 0 (Dat.len x51)) (Dat.len x51)) then some (((s12.2.2.1.1 :: (s12.2.2.1.2.1 :: (s12.2.2.1.2.2.1 :: (s12.2.2.1.2.2.2.1 :: (s12.2.2.1.2.2.2.2.1 :: (s12.2.2.1.2.2.2.2.2.1 :: (s12.2.2.1.2.2.2.2.2.2.1 :: (s12.2.2.1.2.2.2.2.2.2.2.1 :: ([] : List (Int)))))))))), ((Dat.seg x51 0 (Dat.len x51)), (s12.2.2.1.2.2.2.2.2.2.2.2.2, ()))), 0)
 else none
 else none
 else none
 else none
 else if (Dat.EqN (Dat.len ([] : List (Int))) 0) then Dat.bind (slices_Clone_byte_byte ([] : List (Int))) fun (x56 : List (Int)) =>
 if (Dat.EqN (Dat.len x56) 0) then some (((s12.2.2.1.1 :: (s12.2.2.1.2.1 :: (s12.2.2.1.2.2.1 :: (s12.2.2.1.2.2.2.1 :: (s12.2.2.1.2.2.2.2.1 :: (s12.2.2.1.2.2.2.2.2.1 :: (s12.2.2.1.2.2.2.2.2.2.1 :: (s12.2.2.1.2.2.2.2.2.2.2.1 :: ([] : List (Int)))))))))), (x56, (s12.2.2.1.2.2.2.2.2.2.2.2.2, ()))), 0)
 else none
 else if (Dat.EqN (Dat.len ([] : List (Int))) 0) then none
 else if (Dat.Le (Dat.addN 0 0) (Dat.len ([] : List (Int)))) then if (Dat.EqN (Dat.len ([] : List (Int))) 0) then if (Dat.Le (Dat.addN 0 0) (Dat.len ([] : List (Int)))) then some (((s12.2.2.1.1 :: (s12.2.2.1.2.1 :: (s12.2.2.1.2.2.1 :: (s12.2.2.1.2.2.2.1 :: (s12.2.2.1.2.2.2.2.1 :: (s12.2.2.1.2.2.2.2.2.1 :: (s12.2.2.1.2.2.2.2.2.2.1 :: (s12.2.2.1.2.2.2.2.2.2.2.1 :: ([] : List (Int)))))))))), ((Dat.seg ([] : List (Int)) 0 0), (s12.2.2.1.2.2.2.2.2.2.2.2.2, ()))), 0)
 else none
 else if (Dat.Big (Dat.len (Dat.seg ([] : List (Int)) 0 0)) (Dat.len ([] : List (Int))) 1) then none
 else Dat.bnd (Dat.app (Dat.seg ([] : List (Int)) 0 0) ([] : List (Int))) fun (x69 : List (Int)) =>
 if (Dat.Le (Dat.addN 0 (Dat.len x69)) (Dat.len x69)) then some (((s12.2.2.1.1 :: (s12.2.2.1.2.1 :: (s12.2.2.1.2.2.1 :: (s12.2.2.1.2.2.2.1 :: (s12.2.2.1.2.2.2.2.1 :: (s12.2.2.1.2.2.2.2.2.1 :: (s12.2.2.1.2.2.2.2.2.2.1 :: (s12.2.2.1.2.2.2.2.2.2.2.1 :: ([] : List (Int)))))))))), ((Dat.seg x69 0 (Dat.len x69)), (s12.2.2.1.2.2.2.2.2.2.2.2.2, ()))), 0)
 else none
 else none
 else none
 else none
 else if (Dat.EqN (Dat.len (Dat.put s12.2.2.2 (Dat.toN s12.1) (Dat.take (Dat.minN (Dat.len s12.2.1) (Dat.subN 64 (Dat.toN s12.1))) s12.2.1))) 64) then Dat.bind (sha_turn ((s12.2.2.1.1 :: (s12.2.2.1.2.1 :: (s12.2.2.1.2.2.1 :: (s12.2.2.1.2.2.2.1 :: (s12.2.2.1.2.2.2.2.1 :: (s12.2.2.1.2.2.2.2.2.1 :: (s12.2.2.1.2.2.2.2.2.2.1 :: (s12.2.2.1.2.2.2.2.2.2.2.1 :: ([] : List (Int)))))))))), (Dat.put s12.2.2.2 (Dat.toN s12.1) (Dat.take (Dat.minN (Dat.len s12.2.1) (Dat.subN 64 (Dat.toN s12.1))) s12.2.1)))) fun (x74 : List (Int)) =>
 k13 (0, (x25, (((Dat.get x74 0 0), ((Dat.get x74 1 0), ((Dat.get x74 2 0), ((Dat.get x74 3 0), ((Dat.get x74 4 0), ((Dat.get x74 5 0), ((Dat.get x74 6 0), ((Dat.get x74 7 0), (s12.2.2.1.2.2.2.2.2.2.2.2.1, s12.2.2.1.2.2.2.2.2.2.2.2.2))))))))), (Dat.put s12.2.2.2 (Dat.toN s12.1) (Dat.take (Dat.minN (Dat.len s12.2.1) (Dat.subN 64 (Dat.toN s12.1))) s12.2.1)))))
 else none)
 else none
 else none
 else none
 else none
 else none) ((Dat.ofN (Dat.minN (Dat.len d0.1.2.1) (Dat.subN 64 0))), (d0.2, (((Dat.get d0.1.1 0 0), ((Dat.get d0.1.1 1 0), ((Dat.get d0.1.1 2 0), ((Dat.get d0.1.1 3 0), ((Dat.get d0.1.1 4 0), ((Dat.get d0.1.1 5 0), ((Dat.get d0.1.1 6 0), ((Dat.get d0.1.1 7 0), (([] : List (Int)), x5))))))))), (Dat.put (Dat.rep 64 0) 0 (Dat.take (Dat.minN (Dat.len d0.1.2.1) (Dat.subN 64 0)) d0.1.2.1)))))
 else none
 else none
 else none))
noncomputable def p_sha_More : PFn := { args := [(.pair (.arr 8 (.int .u32)) (.pair (.list (.int .u8)) (.pair (.int .u64) .unit))), (.list (.int .u8))], res := [(.pair (.arr 8 (.int .u32)) (.pair (.list (.int .u8)) (.pair (.int .u64) .unit))), (.int .i64)], fn := sha_More }
def sp21_25 : List LSpec × List Nat := ([], [5])
def sp21_28 : List LSpec × List Nat := ([], [3])
def sp21_21 : List LSpec × List Nat := ([{ id := 2100, known := true, toks := [(4002008, (.int .u8))], items := [.slot 9 (.val (.int .i64)), .slot 1 (.val (.list (.int .u8))), .cells 1000007 [.val (.int .u32), .val (.int .u32), .val (.int .u32), .val (.int .u32), .val (.int .u32), .val (.int .u32), .val (.int .u32), .val (.int .u32), .val (.list (.int .u8)), .val (.int .u64)], .vec 1000008 (.int .u8)], junk := [38, 39, 40, 41, 10, 42, 43, 44, 45, 46, 47, 48, 49, 50, 51, 52, 53, 54], tails := [] }], [])
def spt21 : Tab (List LSpec × List Nat) := (.node (.node .leaf none (.node (.node .leaf none (.node .leaf (some sp21_25) .leaf)) none (.node (.node .leaf (some sp21_21) .leaf) none .leaf))) none (.node (.node .leaf none (.node .leaf none (.node .leaf (some sp21_28) .leaf))) none .leaf))
def spf21 (f : Nat) : List LSpec × List Nat := (spt21.get f).getD ([], [])
noncomputable def o_sha_More : OFn := { args := [(.pair (.arr 8 (.int .u32)) (.pair (.list (.int .u8)) (.pair (.int .u64) .unit))), (.list (.int .u8))], ores := [(.pair (.plain (.arr 8 (.int .u32))) (.pair (.own (.int .u8)) (.pair (.plain (.int .u64)) (.plain .unit)))), (.plain (.int .i64))], fn := sha_More }
theorem od_sha_More : OwnD Tryd.prog cfg 21 o_sha_More ∧ PureD Tryd.prog cfg 21 o_sha_More.pfn := fnO spf21 [28] (l := [(26, p_sha_Check), (28, p_slices_Clone_byte_byte), (27, p_sha_turn)]) (lo := []) cfgOk cfgGlob (.cons pd_sha_Check (.cons pd_slices_Clone_byte_byte (.cons pd_sha_turn .nil))) .nil (fun d => by kernel_rfl)
theorem pd_sha_More : PureD Tryd.prog cfg 21 p_sha_More := od_sha_More.2

/-- thimblerig/sha.told -/
noncomputable def sha_told (d0 : List (Int)) : Option (List (Int)) :=
 if (Dat.EqN (Dat.len (Dat.norm 8 d0 0)) 8) then Dat.loop (fun (s3 : (Int) × (List (Int))) k4 =>
 (bif (Dat.ilt s3.1 8) then if (Dat.In s3.1 8) then Dat.bnd (Dat.get (Dat.norm 8 d0 0) (Dat.toN s3.1) 0) fun (x7 : Int) =>
 Dat.loop (fun (s8 : (Int) × (List (Int))) k9 =>
 (bif (Dat.ilt s8.1 4) then Dat.bnd (Dat.wrap .i64 (Dat.mul 4 s3.1)) fun (x10 : Int) =>
 Dat.bnd (Dat.wrap .i64 (Dat.add x10 s8.1)) fun (x11 : Int) =>
 Dat.bnd (Dat.wrap .i64 (Dat.mul 8 s8.1)) fun (x12 : Int) =>
 Dat.bnd (Dat.wrap .i64 (Dat.sub 24 x12)) fun (x13 : Int) =>
 if (Dat.Neg x13) then none
 else Dat.bnd (Dat.shr .u32 x7 x13) fun (x16 : Int) =>
 Dat.bnd (Dat.wrap .u8 x16) fun (x17 : Int) =>
 if (Dat.In x11 32) then if (Dat.Lt (Dat.toN x11) (Dat.len s8.2)) then Dat.bnd (Dat.set s8.2 (Dat.toN x11) x17) fun (x22 : List (Int)) =>
 Dat.bnd (Dat.wrap .i64 (Dat.add s8.1 1)) fun (x23 : Int) =>
 k9 (x23, x22)
 else none
 else none
 else Dat.bnd (Dat.wrap .i64 (Dat.add s3.1 1)) fun (x24 : Int) =>
 k4 (x24, s8.2))) (0, s3.2)
 else none
 else if (Dat.EqN (Dat.len s3.2) 32) then if (Dat.EqN (Dat.len (Dat.rep 32 0)) 32) then if (Dat.EqN (Dat.len (Dat.norm 32 s3.2 0)) 32) then some (Dat.norm 32 s3.2 0)
 else none
 else none
 else none)) (0, (Dat.rep 32 0))
 else none
noncomputable def p_sha_told : PFn := { args := [(.arr 8 (.int .u32))], res := [(.arr 32 (.int .u8))], fn := sha_told }
def sp29_25 : List LSpec × List Nat := ([], [5])
def sp29_29 : List LSpec × List Nat := ([{ id := 2900, known := true, toks := [], items := [.slot 8 (.val (.int .i64)), .vec 1000003 (.int .u8)], junk := [9, 10, 11, 4, 5, 12, 13, 14, 6, 15, 16, 17, 18, 19, 20, 21, 22, 23, 24, 25, 26, 27], tails := [] }, { id := 2901, known := true, toks := [], items := [.slot 12 (.val (.int .i64)), .vec 1000003 (.int .u8)], junk := [13, 14, 6, 15, 16, 17, 18, 19, 20, 21, 22, 23, 24, 25, 26], tails := [] }], [])
def spt29 : Tab (List LSpec × List Nat) := (.node (.node .leaf none (.node (.node .leaf none (.node .leaf (some sp29_25) .leaf)) none (.node .leaf none (.node .leaf (some sp29_29) .leaf)))) none .leaf)
def spf29 (f : Nat) : List LSpec × List Nat := (spt29.get f).getD ([], [])
theorem pd_sha_told : PureD Tryd.prog cfg 29 p_sha_told := fnD spf29 (l := []) cfgOk cfgGlob .nil (fun d => by kernel_rfl)

/-- thimblerig/sha.End -/
noncomputable def sha_End (d0 : (List (Int)) × ((List (Int)) × ((Int) × (Unit)))) : Option ((List (Int)) × (Int)) :=
 Dat.bind (sha_Check (((Dat.get d0.1 0 0) :: ((Dat.get d0.1 1 0) :: ((Dat.get d0.1 2 0) :: ((Dat.get d0.1 3 0) :: ((Dat.get d0.1 4 0) :: ((Dat.get d0.1 5 0) :: ((Dat.get d0.1 6 0) :: ((Dat.get d0.1 7 0) :: ([] : List (Int)))))))))), (d0.2.1, (d0.2.2.1, ())))) fun (x1 : Int) =>
 (bif (Dat.ine x1 0) then if (Dat.EqN (Dat.len (Dat.rep 32 0)) (Dat.len (0 :: (0 :: (0 :: (0 :: (0 :: (0 :: (0 :: (0 :: (0 :: (0 :: (0 :: (0 :: (0 :: (0 :: (0 :: (0 :: (0 :: (0 :: (0 :: (0 :: (0 :: (0 :: (0 :: (0 :: (0 :: (0 :: (0 :: (0 :: (0 :: (0 :: (0 :: (0 :: ([] : List (Int)))))))))))))))))))))))))))))))))))) then if (Dat.EqN (Dat.len (0 :: (0 :: (0 :: (0 :: (0 :: (0 :: (0 :: (0 :: (0 :: (0 :: (0 :: (0 :: (0 :: (0 :: (0 :: (0 :: (0 :: (0 :: (0 :: (0 :: (0 :: (0 :: (0 :: (0 :: (0 :: (0 :: (0 :: (0 :: (0 :: (0 :: (0 :: (0 :: ([] : List (Int))))))))))))))))))))))))))))))))))) 32) then some ((0 :: (0 :: (0 :: (0 :: (0 :: (0 :: (0 :: (0 :: (0 :: (0 :: (0 :: (0 :: (0 :: (0 :: (0 :: (0 :: (0 :: (0 :: (0 :: (0 :: (0 :: (0 :: (0 :: (0 :: (0 :: (0 :: (0 :: (0 :: (0 :: (0 :: (0 :: (0 :: ([] : List (Int)))))))))))))))))))))))))))))))))), x1)
 else none
 else none
 else if (Dat.EqN (Dat.len (Dat.rep 8 0)) (Dat.len ((Dat.get d0.1 0 0) :: ((Dat.get d0.1 1 0) :: ((Dat.get d0.1 2 0) :: ((Dat.get d0.1 3 0) :: ((Dat.get d0.1 4 0) :: ((Dat.get d0.1 5 0) :: ((Dat.get d0.1 6 0) :: ((Dat.get d0.1 7 0) :: ([] : List (Int)))))))))))) then if (Dat.Le 64 (Dat.len (Dat.rep 64 0))) then if (Dat.Lt 0 64) then if (Dat.Le (Dat.addN 0 (Dat.subN 64 0)) (Dat.len (Dat.rep 64 0))) then if (Dat.In (Dat.ofN (Dat.minN (Dat.len d0.2.1) (Dat.subN 64 0))) 64) then if (Dat.Lt (Dat.toN (Dat.ofN (Dat.minN (Dat.len d0.2.1) (Dat.subN 64 0)))) (Dat.len (Dat.put (Dat.rep 64 0) 0 (Dat.take (Dat.minN (Dat.len d0.2.1) (Dat.subN 64 0)) d0.2.1)))) then Dat.bnd (Dat.set (Dat.put (Dat.rep 64 0) 0 (Dat.take (Dat.minN (Dat.len d0.2.1) (Dat.subN 64 0)) d0.2.1)) (Dat.toN (Dat.ofN (Dat.minN (Dat.len d0.2.1) (Dat.subN 64 0)))) 128) fun (x18 : List (Int)) =>
 (bif (Dat.ige (Dat.ofN (Dat.minN (Dat.len d0.2.1) (Dat.subN 64 0))) 56) then if (Dat.EqN (Dat.len ((Dat.get d0.1 0 0) :: ((Dat.get d0.1 1 0) :: ((Dat.get d0.1 2 0) :: ((Dat.get d0.1 3 0) :: ((Dat.get d0.1 4 0) :: ((Dat.get d0.1 5 0) :: ((Dat.get d0.1 6 0) :: ((Dat.get d0.1 7 0) :: ([] : List (Int))))))))))) 8) then if (Dat.EqN (Dat.len x18) 64) then Dat.bind (sha_turn (((Dat.get d0.1 0 0) :: ((Dat.get d0.1 1 0) :: ((Dat.get d0.1 2 0) :: ((Dat.get d0.1 3 0) :: ((Dat.get d0.1 4 0) :: ((Dat.get d0.1 5 0) :: ((Dat.get d0.1 6 0) :: ((Dat.get d0.1 7 0) :: ([] : List (Int)))))))))), x18)) fun (x23 : List (Int)) =>
 if (Dat.EqN (Dat.len ((Dat.get d0.1 0 0) :: ((Dat.get d0.1 1 0) :: ((Dat.get d0.1 2 0) :: ((Dat.get d0.1 3 0) :: ((Dat.get d0.1 4 0) :: ((Dat.get d0.1 5 0) :: ((Dat.get d0.1 6 0) :: ((Dat.get d0.1 7 0) :: ([] : List (Int))))))))))) 8) then if (Dat.EqN (Dat.len x18) (Dat.len (0 :: (0 :: (0 :: (0 :: (0 :: (0 :: (0 :: (0 :: (0 :: (0 :: (0 :: (0 :: (0 :: (0 :: (0 :: (0 :: (0 :: (0 :: (0 :: (0 :: (0 :: (0 :: (0 :: (0 :: (0 :: (0 :: (0 :: (0 :: (0 :: (0 :: (0 :: (0 :: (0 :: (0 :: (0 :: (0 :: (0 :: (0 :: (0 :: (0 :: (0 :: (0 :: (0 :: (0 :: (0 :: (0 :: (0 :: (0 :: (0 :: (0 :: (0 :: (0 :: (0 :: (0 :: (0 :: (0 :: (0 :: (0 :: (0 :: (0 :: (0 :: (0 :: (0 :: (0 :: ([] : List (Int)))))))))))))))))))))))))))))))))))))))))))))))))))))))))))))))))))) then Dat.loop (fun (s28 : (Int) × (List (Int))) k29 =>
 (bif (Dat.ilt s28.1 8) then Dat.bnd (Dat.wrap .i64 (Dat.sub 63 s28.1)) fun (x30 : Int) =>
 Dat.bnd (Dat.wrap .u64 (Dat.mul 8 d0.2.2.1)) fun (x31 : Int) =>
 Dat.bnd (Dat.wrap .i64 (Dat.mul 8 s28.1)) fun (x32 : Int) =>
 if (Dat.Neg x32) then none
 else Dat.bnd (Dat.shr .u64 x31 x32) fun (x35 : Int) =>
 Dat.bnd (Dat.wrap .u8 x35) fun (x36 : Int) =>
 if (Dat.In x30 64) then if (Dat.Lt (Dat.toN x30) (Dat.len s28.2)) then Dat.bnd (Dat.set s28.2 (Dat.toN x30) x36) fun (x41 : List (Int)) =>
 Dat.bnd (Dat.wrap .i64 (Dat.add s28.1 1)) fun (x42 : Int) =>
 k29 (x42, x41)
 else none
 else none
 else if (Dat.EqN (Dat.len (Dat.norm 8 x23 0)) 8) then if (Dat.EqN (Dat.len s28.2) 64) then Dat.bind (sha_turn ((Dat.norm 8 x23 0), s28.2)) fun (x47 : List (Int)) =>
 Dat.bind (sha_told x47) fun (x48 : List (Int)) =>
 if (Dat.EqN (Dat.len (Dat.rep 32 0)) 32) then if (Dat.EqN (Dat.len (Dat.norm 32 x48 0)) 32) then some ((Dat.norm 32 x48 0), 0)
 else none
 else none
 else none
 else none)) (0, (0 :: (0 :: (0 :: (0 :: (0 :: (0 :: (0 :: (0 :: (0 :: (0 :: (0 :: (0 :: (0 :: (0 :: (0 :: (0 :: (0 :: (0 :: (0 :: (0 :: (0 :: (0 :: (0 :: (0 :: (0 :: (0 :: (0 :: (0 :: (0 :: (0 :: (0 :: (0 :: (0 :: (0 :: (0 :: (0 :: (0 :: (0 :: (0 :: (0 :: (0 :: (0 :: (0 :: (0 :: (0 :: (0 :: (0 :: (0 :: (0 :: (0 :: (0 :: (0 :: (0 :: (0 :: (0 :: (0 :: (0 :: (0 :: (0 :: (0 :: (0 :: (0 :: (0 :: (0 :: ([] : List (Int)))))))))))))))))))))))))))))))))))))))))))))))))))))))))))))))))))
 else none
 else none
 else none
 else none
 else Dat.loop (fun (s53 : (Int) × (List (Int))) k54 =>
 (bif (Dat.ilt s53.1 8) then Dat.bnd (Dat.wrap .i64 (Dat.sub 63 s53.1)) fun (x55 : Int) =>
 Dat.bnd (Dat.wrap .u64 (Dat.mul 8 d0.2.2.1)) fun (x56 : Int) =>
 Dat.bnd (Dat.wrap .i64 (Dat.mul 8 s53.1)) fun (x57 : Int) =>
 if (Dat.Neg x57) then none
 else Dat.bnd (Dat.shr .u64 x56 x57) fun (x60 : Int) =>
 Dat.bnd (Dat.wrap .u8 x60) fun (x61 : Int) =>
 if (Dat.In x55 64) then if (Dat.Lt (Dat.toN x55) (Dat.len s53.2)) then Dat.bnd (Dat.set s53.2 (Dat.toN x55) x61) fun (x66 : List (Int)) =>
 Dat.bnd (Dat.wrap .i64 (Dat.add s53.1 1)) fun (x67 : Int) =>
 k54 (x67, x66)
 else none
 else none
 else if (Dat.EqN (Dat.len ((Dat.get d0.1 0 0) :: ((Dat.get d0.1 1 0) :: ((Dat.get d0.1 2 0) :: ((Dat.get d0.1 3 0) :: ((Dat.get d0.1 4 0) :: ((Dat.get d0.1 5 0) :: ((Dat.get d0.1 6 0) :: ((Dat.get d0.1 7 0) :: ([] : List (Int))))))))))) 8) then if (Dat.EqN (Dat.len s53.2) 64) then Dat.bind (sha_turn (((Dat.get d0.1 0 0) :: ((Dat.get d0.1 1 0) :: ((Dat.get d0.1 2 0) :: ((Dat.get d0.1 3 0) :: ((Dat.get d0.1 4 0) :: ((Dat.get d0.1 5 0) :: ((Dat.get d0.1 6 0) :: ((Dat.get d0.1 7 0) :: ([] : List (Int)))))))))), s53.2)) fun (x72 : List (Int)) =>
 Dat.bind (sha_told x72) fun (x73 : List (Int)) =>
 if (Dat.EqN (Dat.len (Dat.rep 32 0)) 32) then if (Dat.EqN (Dat.len (Dat.norm 32 x73 0)) 32) then some ((Dat.norm 32 x73 0), 0)
 else none
 else none
 else none
 else none)) (0, x18))
 else none
 else none
 else none
 else none
 else none
 else none)
noncomputable def p_sha_End : PFn := { args := [(.pair (.arr 8 (.int .u32)) (.pair (.list (.int .u8)) (.pair (.int .u64) .unit)))], res := [(.arr 32 (.int .u8)), (.int .i64)], fn := sha_End }
def sp22_25 : List LSpec × List Nat := ([], [5])
def sp22_22 : List LSpec × List Nat := ([{ id := 2200, known := true, toks := [], items := [.slot 29 (.val (.int .i64)), .vec 1000006 (.int .u8)], junk := [30, 31, 8, 32, 33, 34, 35, 36, 37, 38, 39, 40, 41, 42], tails := [] }], [])
def spt22 : Tab (List LSpec × List Nat) := (.node (.node .leaf none (.node (.node .leaf none (.node .leaf (some sp22_25) .leaf)) none .leaf)) none (.node .leaf none (.node .leaf none (.node (.node .leaf (some sp22_22) .leaf) none .leaf))))
def spf22 (f : Nat) : List LSpec × List Nat := (spt22.get f).getD ([], [])
theorem pd_sha_End : PureD Tryd.prog cfg 22 p_sha_End := fnD spf22 (l := [(26, p_sha_Check), (27, p_sha_turn), (29, p_sha_told)]) cfgOk cfgGlob (.cons pd_sha_Check (.cons pd_sha_turn (.cons pd_sha_told .nil))) (fun d => by kernel_rfl)

/-- thimblerig/sha.Of -/
noncomputable def sha_Of (d0 : List (List (Int))) : Option (List (Int)) :=
 Dat.bind (sha_Begin ()) fun (x1 : (List (Int)) × ((List (Int)) × ((Int) × (Unit)))) =>
 Dat.loop (fun (s2 : (Int) × ((Int) × ((Int) × ((Int) × ((Int) × ((Int) × ((Int) × ((Int) × ((Int) × ((List (Int)) × (Int))))))))))) k3 =>
 (bif (Dat.ilt s2.1 (Dat.ofN (Dat.len d0))) then if (Dat.Ix s2.1 (Dat.len d0)) then Dat.bnd (Dat.get d0 (Dat.toN s2.1) ([] : List (Int))) fun (x6 : List (Int)) =>
 Dat.bind (sha_More (((s2.2.1 :: (s2.2.2.1 :: (s2.2.2.2.1 :: (s2.2.2.2.2.1 :: (s2.2.2.2.2.2.1 :: (s2.2.2.2.2.2.2.1 :: (s2.2.2.2.2.2.2.2.1 :: (s2.2.2.2.2.2.2.2.2.1 :: ([] : List (Int)))))))))), (s2.2.2.2.2.2.2.2.2.2.1, (s2.2.2.2.2.2.2.2.2.2.2, ()))), x6)) fun (x7 : ((List (Int)) × ((List (Int)) × ((Int) × (Unit)))) × (Int)) =>
 Dat.bnd (Dat.wrap .i64 (Dat.add s2.1 1)) fun (x8 : Int) =>
 k3 (x8, ((Dat.get x7.1.1 0 0), ((Dat.get x7.1.1 1 0), ((Dat.get x7.1.1 2 0), ((Dat.get x7.1.1 3 0), ((Dat.get x7.1.1 4 0), ((Dat.get x7.1.1 5 0), ((Dat.get x7.1.1 6 0), ((Dat.get x7.1.1 7 0), (x7.1.2.1, x7.1.2.2.1))))))))))
 else none
 else Dat.bind (sha_End ((s2.2.1 :: (s2.2.2.1 :: (s2.2.2.2.1 :: (s2.2.2.2.2.1 :: (s2.2.2.2.2.2.1 :: (s2.2.2.2.2.2.2.1 :: (s2.2.2.2.2.2.2.2.1 :: (s2.2.2.2.2.2.2.2.2.1 :: ([] : List (Int)))))))))), (s2.2.2.2.2.2.2.2.2.2.1, (s2.2.2.2.2.2.2.2.2.2.2, ())))) fun (x9 : (List (Int)) × (Int)) =>
 if (Dat.EqN (Dat.len (Dat.rep 32 0)) 32) then if (Dat.EqN (Dat.len (Dat.norm 32 x9.1 0)) 32) then if (Dat.EqN (Dat.len (Dat.rep 32 0)) 32) then if (Dat.EqN (Dat.len (Dat.norm 32 (Dat.norm 32 x9.1 0) 0)) 32) then some (Dat.norm 32 (Dat.norm 32 x9.1 0) 0)
 else none
 else none
 else none
 else none)) (0, ((Dat.get x1.1 0 0), ((Dat.get x1.1 1 0), ((Dat.get x1.1 2 0), ((Dat.get x1.1 3 0), ((Dat.get x1.1 4 0), ((Dat.get x1.1 5 0), ((Dat.get x1.1 6 0), ((Dat.get x1.1 7 0), (x1.2.1, x1.2.2.1))))))))))
noncomputable def p_sha_Of : PFn := { args := [(.list (.list (.int .u8)))], res := [(.arr 32 (.int .u8))], fn := sha_Of }
def sp13_25 : List LSpec × List Nat := ([], [5])
def sp13_13 : List LSpec × List Nat := ([{ id := 1300, known := true, toks := [], items := [.slot 11 (.val (.int .i64)), .cells 1000003 [.val (.int .u32), .val (.int .u32), .val (.int .u32), .val (.int .u32), .val (.int .u32), .val (.int .u32), .val (.int .u32), .val (.int .u32), .val (.list (.int .u8)), .val (.int .u64)]], junk := [12, 13, 14, 5, 16, 17, 18, 15, 19, 20, 21], tails := [] }], [])
def spt13 : Tab (List LSpec × List Nat) := (.node (.node .leaf none (.node (.node .leaf none (.node .leaf (some sp13_25) .leaf)) none (.node .leaf (some sp13_13) .leaf))) none .leaf)
def spf13 (f : Nat) : List LSpec × List Nat := (spt13.get f).getD ([], [])
theorem pd_sha_Of : PureD Tryd.prog cfg 13 p_sha_Of := fnD spf13 (l := [(20, p_sha_Begin), (21, p_sha_More), (22, p_sha_End)]) cfgOk cfgGlob (.cons pd_sha_Begin (.cons pd_sha_More (.cons pd_sha_End .nil))) (fun d => by kernel_rfl)

/-- thimblerig/seal.Sum -/
noncomputable def seal_Sum (d0 : (Int) × ((Int) × (List (Int)))) : Option ((List (Int)) × (Int)) :=
 Dat.bind (seal_Hashed (d0.1, (d0.2.1, d0.2.2))) fun (x1 : (List (Int)) × (Int)) =>
 (bif (Dat.ine x1.2 0) then if (Dat.EqN (Dat.len (Dat.rep 32 0)) (Dat.len (0 :: (0 :: (0 :: (0 :: (0 :: (0 :: (0 :: (0 :: (0 :: (0 :: (0 :: (0 :: (0 :: (0 :: (0 :: (0 :: (0 :: (0 :: (0 :: (0 :: (0 :: (0 :: (0 :: (0 :: (0 :: (0 :: (0 :: (0 :: (0 :: (0 :: (0 :: (0 :: ([] : List (Int)))))))))))))))))))))))))))))))))))) then if (Dat.EqN (Dat.len (0 :: (0 :: (0 :: (0 :: (0 :: (0 :: (0 :: (0 :: (0 :: (0 :: (0 :: (0 :: (0 :: (0 :: (0 :: (0 :: (0 :: (0 :: (0 :: (0 :: (0 :: (0 :: (0 :: (0 :: (0 :: (0 :: (0 :: (0 :: (0 :: (0 :: (0 :: (0 :: ([] : List (Int))))))))))))))))))))))))))))))))))) 32) then some ((0 :: (0 :: (0 :: (0 :: (0 :: (0 :: (0 :: (0 :: (0 :: (0 :: (0 :: (0 :: (0 :: (0 :: (0 :: (0 :: (0 :: (0 :: (0 :: (0 :: (0 :: (0 :: (0 :: (0 :: (0 :: (0 :: (0 :: (0 :: (0 :: (0 :: (0 :: (0 :: ([] : List (Int)))))))))))))))))))))))))))))))))), x1.2)
 else none
 else none
 else if (Dat.Le (Dat.addN 0 1) (Dat.len (x1.1 :: ([] : List (List (Int)))))) then Dat.bind (sha_Of (Dat.seg (x1.1 :: ([] : List (List (Int)))) 0 1)) fun (x8 : List (Int)) =>
 if (Dat.EqN (Dat.len (Dat.rep 32 0)) 32) then if (Dat.EqN (Dat.len (Dat.norm 32 x8 0)) 32) then some ((Dat.norm 32 x8 0), 0)
 else none
 else none
 else none)
noncomputable def p_seal_Sum : PFn := { args := [(.int .i64), (.int .i64), (.list (.int .u8))], res := [(.arr 32 (.int .u8)), (.int .i64)], fn := seal_Sum }
def sp6_25 : List LSpec × List Nat := ([], [5])
def spt6 : Tab (List LSpec × List Nat) := (.node (.node .leaf none (.node (.node .leaf none (.node .leaf (some sp6_25) .leaf)) none .leaf)) none .leaf)
def spf6 (f : Nat) : List LSpec × List Nat := (spt6.get f).getD ([], [])
theorem pd_seal_Sum : PureD Tryd.prog cfg 6 p_seal_Sum := fnD spf6 (l := [(4, p_seal_Hashed), (13, p_sha_Of)]) cfgOk cfgGlob (.cons pd_seal_Hashed (.cons pd_sha_Of .nil)) (fun d => by kernel_rfl)

/-- thimblerig/thimblerigref02.Begin -/
noncomputable def ref02_Begin (d0 : Unit) : Option ((List (Int)) × ((List (Int)) × ((Int) × (Unit)))) :=
 some ((1779033703 :: (3144134277 :: (1013904242 :: (2773480762 :: (1359893119 :: (2600822924 :: (528734635 :: (1541459225 :: ([] : List (Int)))))))))), (([] : List (Int)), (0, ())))
noncomputable def p_ref02_Begin : PFn := { args := [], res := [(.pair (.arr 8 (.int .u32)) (.pair (.list (.int .u8)) (.pair (.int .u64) .unit)))], fn := ref02_Begin }
def sp32_25 : List LSpec × List Nat := ([], [5])
def spt32 : Tab (List LSpec × List Nat) := (.node (.node .leaf none (.node (.node .leaf none (.node .leaf (some sp32_25) .leaf)) none .leaf)) none .leaf)
def spf32 (f : Nat) : List LSpec × List Nat := (spt32.get f).getD ([], [])
theorem pd_ref02_Begin : PureD Tryd.prog cfg 32 p_ref02_Begin := fnD spf32 (l := []) cfgOk cfgGlob .nil (fun d => by kernel_rfl)

/-- thimblerig/thimblerigref02.table -/
noncomputable def ref02_table (d0 : Unit) : Option (List (Int)) :=
 if (Dat.EqN (Dat.len (Dat.rep 64 0)) (Dat.len (1116352408 :: (1899447441 :: (3049323471 :: (3921009573 :: (961987163 :: (1508970993 :: (2453635748 :: (2870763221 :: (3624381080 :: (310598401 :: (607225278 :: (1426881987 :: (1925078388 :: (2162078206 :: (2614888103 :: (3248222580 :: (3835390401 :: (4022224774 :: (264347078 :: (604807628 :: (770255983 :: (1249150122 :: (1555081692 :: (1996064986 :: (2554220882 :: (2821834349 :: (2952996808 :: (3210313671 :: (3336571891 :: (3584528711 :: (113926993 :: (338241895 :: (666307205 :: (773529912 :: (1294757372 :: (1396182291 :: (1695183700 :: (1986661051 :: (2177026350 :: (2456956037 :: (2730485921 :: (2820302411 :: (3259730800 :: (3345764771 :: (3516065817 :: (3600352804 :: (4094571909 :: (275423344 :: (430227734 :: (506948616 :: (659060556 :: (883997877 :: (958139571 :: (1322822218 :: (1537002063 :: (1747873779 :: (1955562222 :: (2024104815 :: (2227730452 :: (2361852424 :: (2428436474 :: (2756734187 :: (3204031479 :: (3329325298 :: ([] : List (Int)))))))))))))))))))))))))))))))))))))))))))))))))))))))))))))))))))) then if (Dat.EqN (Dat.len (1116352408 :: (1899447441 :: (3049323471 :: (3921009573 :: (961987163 :: (1508970993 :: (2453635748 :: (2870763221 :: (3624381080 :: (310598401 :: (607225278 :: (1426881987 :: (1925078388 :: (2162078206 :: (2614888103 :: (3248222580 :: (3835390401 :: (4022224774 :: (264347078 :: (604807628 :: (770255983 :: (1249150122 :: (1555081692 :: (1996064986 :: (2554220882 :: (2821834349 :: (2952996808 :: (3210313671 :: (3336571891 :: (3584528711 :: (113926993 :: (338241895 :: (666307205 :: (773529912 :: (1294757372 :: (1396182291 :: (1695183700 :: (1986661051 :: (2177026350 :: (2456956037 :: (2730485921 :: (2820302411 :: (3259730800 :: (3345764771 :: (3516065817 :: (3600352804 :: (4094571909 :: (275423344 :: (430227734 :: (506948616 :: (659060556 :: (883997877 :: (958139571 :: (1322822218 :: (1537002063 :: (1747873779 :: (1955562222 :: (2024104815 :: (2227730452 :: (2361852424 :: (2428436474 :: (2756734187 :: (3204031479 :: (3329325298 :: ([] : List (Int))))))))))))))))))))))))))))))))))))))))))))))))))))))))))))))))))) 64) then some (1116352408 :: (1899447441 :: (3049323471 :: (3921009573 :: (961987163 :: (1508970993 :: (2453635748 :: (2870763221 :: (3624381080 :: (310598401 :: (607225278 :: (1426881987 :: (1925078388 :: (2162078206 :: (2614888103 :: (3248222580 :: (3835390401 :: (4022224774 :: (264347078 :: (604807628 :: (770255983 :: (1249150122 :: (1555081692 :: (1996064986 :: (2554220882 :: (2821834349 :: (2952996808 :: (3210313671 :: (3336571891 :: (3584528711 :: (113926993 :: (338241895 :: (666307205 :: (773529912 :: (1294757372 :: (1396182291 :: (1695183700 :: (1986661051 :: (2177026350 :: (2456956037 :: (2730485921 :: (2820302411 :: (3259730800 :: (3345764771 :: (3516065817 :: (3600352804 :: (4094571909 :: (275423344 :: (430227734 :: (506948616 :: (659060556 :: (883997877 :: (958139571 :: (1322822218 :: (1537002063 :: (1747873779 :: (1955562222 :: (2024104815 :: (2227730452 :: (2361852424 :: (2428436474 :: (2756734187 :: (3204031479 :: (3329325298 :: ([] : List (Int))))))))))))))))))))))))))))))))))))))))))))))))))))))))))))))))))
 else none
 else none
noncomputable def p_ref02_table : PFn := { args := [], res := [(.arr 64 (.int .u32))], fn := ref02_table }
def sp37_25 : List LSpec × List Nat := ([], [5])
def spt37 : Tab (List LSpec × List Nat) := (.node (.node .leaf none (.node (.node .leaf none (.node .leaf (some sp37_25) .leaf)) none .leaf)) none .leaf)
def spf37 (f : Nat) : List LSpec × List Nat := (spt37.get f).getD ([], [])
theorem pd_ref02_table : PureD Tryd.prog cfg 37 p_ref02_table := fnD spf37 (l := []) cfgOk cfgGlob .nil (fun d => by kernel_rfl)

/-- thimblerig/thimblerigref02.turned -/
noncomputable def ref02_turned (d0 : (Int) × (Int)) : Option (Int) :=
 if (Dat.Neg d0.2) then none
 else Dat.bnd (Dat.shr .u32 d0.1 d0.2) fun (x3 : Int) =>
 Dat.bnd (Dat.wrap .u32 (Dat.sub 32 d0.2)) fun (x4 : Int) =>
 if (Dat.Neg x4) then none
 else Dat.bnd (Dat.shl .u32 d0.1 x4) fun (x7 : Int) =>
 Dat.bnd (Dat.bor .u32 x3 x7) fun (x8 : Int) =>
 some x8
noncomputable def p_ref02_turned : PFn := { args := [(.int .u32), (.int .u32)], res := [(.int .u32)], fn := ref02_turned }
def sp39_25 : List LSpec × List Nat := ([], [5])
def spt39 : Tab (List LSpec × List Nat) := (.node (.node .leaf none (.node (.node .leaf none (.node .leaf (some sp39_25) .leaf)) none .leaf)) none .leaf)
def spf39 (f : Nat) : List LSpec × List Nat := (spt39.get f).getD ([], [])
theorem pd_ref02_turned : PureD Tryd.prog cfg 39 p_ref02_turned := fnD spf39 (l := []) cfgOk cfgGlob .nil (fun d => by kernel_rfl)

/-- thimblerig/thimblerigref02.words -/
noncomputable def ref02_words (d0 : List (Int)) : Option (List (Int)) :=
 Dat.loop (fun (s1 : (Int) × (List (Int))) k2 =>
 (bif (Dat.ilt s1.1 16) then Dat.bnd (Dat.wrap .i64 (Dat.mul 4 s1.1)) fun (x3 : Int) =>
 if (Dat.Ix x3 (Dat.len d0)) then Dat.bnd (Dat.get d0 (Dat.toN x3) 0) fun (x6 : Int) =>
 Dat.bnd (Dat.wrap .u32 x6) fun (x7 : Int) =>
 if (Dat.Neg 24) then none
 else Dat.bnd (Dat.shl .u32 x7 24) fun (x10 : Int) =>
 Dat.bnd (Dat.wrap .i64 (Dat.mul 4 s1.1)) fun (x11 : Int) =>
 Dat.bnd (Dat.wrap .i64 (Dat.add x11 1)) fun (x12 : Int) =>
 if (Dat.Ix x12 (Dat.len d0)) then Dat.bnd (Dat.get d0 (Dat.toN x12) 0) fun (x15 : Int) =>
 Dat.bnd (Dat.wrap .u32 x15) fun (x16 : Int) =>
 if (Dat.Neg 16) then none
 else Dat.bnd (Dat.shl .u32 x16 16) fun (x19 : Int) =>
 Dat.bnd (Dat.bor .u32 x10 x19) fun (x20 : Int) =>
 Dat.bnd (Dat.wrap .i64 (Dat.mul 4 s1.1)) fun (x21 : Int) =>
 Dat.bnd (Dat.wrap .i64 (Dat.add x21 2)) fun (x22 : Int) =>
 if (Dat.Ix x22 (Dat.len d0)) then Dat.bnd (Dat.get d0 (Dat.toN x22) 0) fun (x25 : Int) =>
 Dat.bnd (Dat.wrap .u32 x25) fun (x26 : Int) =>
 if (Dat.Neg 8) then none
 else Dat.bnd (Dat.shl .u32 x26 8) fun (x29 : Int) =>
 Dat.bnd (Dat.bor .u32 x20 x29) fun (x30 : Int) =>
 Dat.bnd (Dat.wrap .i64 (Dat.mul 4 s1.1)) fun (x31 : Int) =>
 Dat.bnd (Dat.wrap .i64 (Dat.add x31 3)) fun (x32 : Int) =>
 if (Dat.Ix x32 (Dat.len d0)) then Dat.bnd (Dat.get d0 (Dat.toN x32) 0) fun (x35 : Int) =>
 Dat.bnd (Dat.wrap .u32 x35) fun (x36 : Int) =>
 Dat.bnd (Dat.bor .u32 x30 x36) fun (x37 : Int) =>
 if (Dat.In s1.1 64) then if (Dat.Lt (Dat.toN s1.1) (Dat.len s1.2)) then Dat.bnd (Dat.set s1.2 (Dat.toN s1.1) x37) fun (x42 : List (Int)) =>
 Dat.bnd (Dat.wrap .i64 (Dat.add s1.1 1)) fun (x43 : Int) =>
 k2 (x43, x42)
 else none
 else none
 else none
 else none
 else none
 else none
 else Dat.loop (fun (s44 : (Int) × (List (Int))) k45 =>
 (bif (Dat.ilt s44.1 64) then Dat.bnd (Dat.wrap .i64 (Dat.sub s44.1 15)) fun (x46 : Int) =>
 if (Dat.In x46 64) then if (Dat.Lt (Dat.toN x46) (Dat.len s44.2)) then Dat.bnd (Dat.get s44.2 (Dat.toN x46) 0) fun (x51 : Int) =>
 Dat.bnd (Dat.wrap .i64 (Dat.sub s44.1 2)) fun (x52 : Int) =>
 if (Dat.In x52 64) then if (Dat.Lt (Dat.toN x52) (Dat.len s44.2)) then Dat.bnd (Dat.get s44.2 (Dat.toN x52) 0) fun (x57 : Int) =>
 Dat.bind (ref02_turned (x51, 7)) fun (x58 : Int) =>
 Dat.bind (ref02_turned (x51, 18)) fun (x59 : Int) =>
 Dat.bnd (Dat.bxor .u32 x58 x59) fun (x60 : Int) =>
 if (Dat.Neg 3) then none
 else Dat.bnd (Dat.shr .u32 x51 3) fun (x63 : Int) =>
 Dat.bnd (Dat.bxor .u32 x60 x63) fun (x64 : Int) =>
 Dat.bind (ref02_turned (x57, 17)) fun (x65 : Int) =>
 Dat.bind (ref02_turned (x57, 19)) fun (x66 : Int) =>
 Dat.bnd (Dat.bxor .u32 x65 x66) fun (x67 : Int) =>
 if (Dat.Neg 10) then none
 else Dat.bnd (Dat.shr .u32 x57 10) fun (x70 : Int) =>
 Dat.bnd (Dat.bxor .u32 x67 x70) fun (x71 : Int) =>
 Dat.bnd (Dat.wrap .i64 (Dat.sub s44.1 16)) fun (x72 : Int) =>
 if (Dat.In x72 64) then if (Dat.Lt (Dat.toN x72) (Dat.len s44.2)) then Dat.bnd (Dat.get s44.2 (Dat.toN x72) 0) fun (x77 : Int) =>
 Dat.bnd (Dat.wrap .i64 (Dat.sub s44.1 7)) fun (x78 : Int) =>
 if (Dat.In x78 64) then if (Dat.Lt (Dat.toN x78) (Dat.len s44.2)) then Dat.bnd (Dat.get s44.2 (Dat.toN x78) 0) fun (x83 : Int) =>
 Dat.bnd (Dat.wrap .u32 (Dat.add x77 x83)) fun (x84 : Int) =>
 Dat.bnd (Dat.wrap .u32 (Dat.add x84 x64)) fun (x85 : Int) =>
 Dat.bnd (Dat.wrap .u32 (Dat.add x85 x71)) fun (x86 : Int) =>
 if (Dat.In s44.1 64) then if (Dat.Lt (Dat.toN s44.1) (Dat.len s44.2)) then Dat.bnd (Dat.set s44.2 (Dat.toN s44.1) x86) fun (x91 : List (Int)) =>
 Dat.bnd (Dat.wrap .i64 (Dat.add s44.1 1)) fun (x92 : Int) =>
 k45 (x92, x91)
 else none
 else none
 else none
 else none
 else none
 else none
 else none
 else none
 else none
 else none
 else if (Dat.EqN (Dat.len s44.2) 64) then if (Dat.EqN (Dat.len (Dat.rep 64 0)) 64) then if (Dat.EqN (Dat.len (Dat.norm 64 s44.2 0)) 64) then some (Dat.norm 64 s44.2 0)
 else none
 else none
 else none)) (16, s1.2))) (0, (Dat.rep 64 0))
noncomputable def p_ref02_words : PFn := { args := [(.list (.int .u8))], res := [(.arr 64 (.int .u32))], fn := ref02_words }
def sp38_25 : List LSpec × List Nat := ([], [5])
def sp38_38 : List LSpec × List Nat := ([{ id := 3800, known := true, toks := [], items := [.slot 4 (.val (.int .i64)), .vec 1000003 (.int .u32)], junk := [10, 11, 14, 15, 16, 17, 18, 19, 20, 21, 22, 23, 24, 25, 26, 27, 28, 29, 30, 31, 32, 33, 34, 35, 36, 37, 38, 39, 40, 41, 42, 43, 44, 45, 46, 47, 48, 12, 13], tails := [] }, { id := 3801, known := true, toks := [], items := [.slot 5 (.val (.int .i64)), .vec 1000003 (.int .u32)], junk := [49, 50, 53, 54, 55, 56, 6, 57, 58, 59, 60, 7, 61, 62, 63, 64, 65, 66, 67, 68, 8, 69, 70, 71, 72, 73, 74, 75, 76, 9, 77, 78, 79, 80, 81, 82, 83, 84, 85, 86, 87, 88, 89, 90, 91, 51, 52], tails := [] }], [])
def spt38 : Tab (List LSpec × List Nat) := (.node (.node .leaf none (.node (.node .leaf none (.node .leaf (some sp38_25) .leaf)) none .leaf)) none (.node .leaf none (.node .leaf none (.node (.node (.node .leaf (some sp38_38) .leaf) none .leaf) none .leaf))))
def spf38 (f : Nat) : List LSpec × List Nat := (spt38.get f).getD ([], [])
theorem pd_ref02_words : PureD Tryd.prog cfg 38 p_ref02_words := fnD spf38 (l := [(39, p_ref02_turned)]) cfgOk cfgGlob (.cons pd_ref02_turned .nil) (fun d => by kernel_rfl)

/-- thimblerig/thimblerigref02.Turn -/
noncomputable def ref02_Turn (d0 : (List (Int)) × (List (Int))) : Option (List (Int)) :=
 Dat.bind (ref02_table ()) fun (x1 : List (Int)) =>
 if (Dat.EqN (Dat.len (Dat.rep 64 0)) 64) then Dat.bind (ref02_words d0.2) fun (x4 : List (Int)) =>
 if (Dat.EqN (Dat.len (Dat.rep 64 0)) 64) then if (Dat.EqN (Dat.len (Dat.norm 8 d0.1 0)) 8) then if (Dat.EqN (Dat.len (Dat.rep 8 0)) 8) then Dat.loop (fun (s11 : (Int) × (List (Int))) k12 =>
 (bif (Dat.ilt s11.1 64) then if (Dat.In 4 8) then if (Dat.Lt (Dat.toN 4) (Dat.len s11.2)) then Dat.bnd (Dat.get s11.2 (Dat.toN 4) 0) fun (x17 : Int) =>
 if (Dat.In 5 8) then if (Dat.Lt (Dat.toN 5) (Dat.len s11.2)) then Dat.bnd (Dat.get s11.2 (Dat.toN 5) 0) fun (x22 : Int) =>
 Dat.bnd (Dat.band .u32 x17 x22) fun (x23 : Int) =>
 Dat.bnd (Dat.bxor .u32 x17 4294967295) fun (x24 : Int) =>
 if (Dat.In 6 8) then if (Dat.Lt (Dat.toN 6) (Dat.len s11.2)) then Dat.bnd (Dat.get s11.2 (Dat.toN 6) 0) fun (x29 : Int) =>
 Dat.bnd (Dat.band .u32 x24 x29) fun (x30 : Int) =>
 Dat.bnd (Dat.bxor .u32 x23 x30) fun (x31 : Int) =>
 if (Dat.In 7 8) then if (Dat.Lt (Dat.toN 7) (Dat.len s11.2)) then Dat.bnd (Dat.get s11.2 (Dat.toN 7) 0) fun (x36 : Int) =>
 if (Dat.In s11.1 64) then if (Dat.Lt (Dat.toN s11.1) (Dat.len (Dat.norm 64 x1 0))) then Dat.bnd (Dat.get (Dat.norm 64 x1 0) (Dat.toN s11.1) 0) fun (x41 : Int) =>
 if (Dat.In s11.1 64) then if (Dat.Lt (Dat.toN s11.1) (Dat.len (Dat.norm 64 x4 0))) then Dat.bnd (Dat.get (Dat.norm 64 x4 0) (Dat.toN s11.1) 0) fun (x46 : Int) =>
 Dat.bind (ref02_turned (x17, 6)) fun (x47 : Int) =>
 Dat.bind (ref02_turned (x17, 11)) fun (x48 : Int) =>
 Dat.bnd (Dat.bxor .u32 x47 x48) fun (x49 : Int) =>
 Dat.bind (ref02_turned (x17, 25)) fun (x50 : Int) =>
 Dat.bnd (Dat.bxor .u32 x49 x50) fun (x51 : Int) =>
 Dat.bnd (Dat.wrap .u32 (Dat.add x36 x51)) fun (x52 : Int) =>
 Dat.bnd (Dat.wrap .u32 (Dat.add x52 x31)) fun (x53 : Int) =>
 Dat.bnd (Dat.wrap .u32 (Dat.add x53 x41)) fun (x54 : Int) =>
 Dat.bnd (Dat.wrap .u32 (Dat.add x54 x46)) fun (x55 : Int) =>
 if (Dat.In 0 8) then if (Dat.Lt (Dat.toN 0) (Dat.len s11.2)) then Dat.bnd (Dat.get s11.2 (Dat.toN 0) 0) fun (x60 : Int) =>
 if (Dat.In 1 8) then if (Dat.Lt (Dat.toN 1) (Dat.len s11.2)) then Dat.bnd (Dat.get s11.2 (Dat.toN 1) 0) fun (x65 : Int) =>
 Dat.bnd (Dat.band .u32 x60 x65) fun (x66 : Int) =>
 if (Dat.In 2 8) then if (Dat.Lt (Dat.toN 2) (Dat.len s11.2)) then Dat.bnd (Dat.get s11.2 (Dat.toN 2) 0) fun (x71 : Int) =>
 Dat.bnd (Dat.band .u32 x60 x71) fun (x72 : Int) =>
 Dat.bnd (Dat.bxor .u32 x66 x72) fun (x73 : Int) =>
 if (Dat.In 1 8) then if (Dat.Lt (Dat.toN 1) (Dat.len s11.2)) then Dat.bnd (Dat.get s11.2 (Dat.toN 1) 0) fun (x78 : Int) =>
 if (Dat.In 2 8) then if (Dat.Lt (Dat.toN 2) (Dat.len s11.2)) then Dat.bnd (Dat.get s11.2 (Dat.toN 2) 0) fun (x83 : Int) =>
 Dat.bnd (Dat.band .u32 x78 x83) fun (x84 : Int) =>
 Dat.bnd (Dat.bxor .u32 x73 x84) fun (x85 : Int) =>
 Dat.bind (ref02_turned (x60, 2)) fun (x86 : Int) =>
 Dat.bind (ref02_turned (x60, 13)) fun (x87 : Int) =>
 Dat.bnd (Dat.bxor .u32 x86 x87) fun (x88 : Int) =>
 Dat.bind (ref02_turned (x60, 22)) fun (x89 : Int) =>
 Dat.bnd (Dat.bxor .u32 x88 x89) fun (x90 : Int) =>
 Dat.bnd (Dat.wrap .u32 (Dat.add x90 x85)) fun (x91 : Int) =>
 Dat.bnd (Dat.wrap .u32 (Dat.add x55 x91)) fun (x92 : Int) =>
 if (Dat.In 0 8) then if (Dat.Lt (Dat.toN 0) (Dat.len s11.2)) then Dat.bnd (Dat.get s11.2 (Dat.toN 0) 0) fun (x97 : Int) =>
 if (Dat.In 1 8) then if (Dat.Lt (Dat.toN 1) (Dat.len s11.2)) then Dat.bnd (Dat.get s11.2 (Dat.toN 1) 0) fun (x102 : Int) =>
 if (Dat.In 2 8) then if (Dat.Lt (Dat.toN 2) (Dat.len s11.2)) then Dat.bnd (Dat.get s11.2 (Dat.toN 2) 0) fun (x107 : Int) =>
 if (Dat.In 3 8) then if (Dat.Lt (Dat.toN 3) (Dat.len s11.2)) then Dat.bnd (Dat.get s11.2 (Dat.toN 3) 0) fun (x112 : Int) =>
 Dat.bnd (Dat.wrap .u32 (Dat.add x112 x55)) fun (x113 : Int) =>
 if (Dat.In 4 8) then if (Dat.Lt (Dat.toN 4) (Dat.len s11.2)) then Dat.bnd (Dat.get s11.2 (Dat.toN 4) 0) fun (x118 : Int) =>
 if (Dat.In 5 8) then if (Dat.Lt (Dat.toN 5) (Dat.len s11.2)) then Dat.bnd (Dat.get s11.2 (Dat.toN 5) 0) fun (x123 : Int) =>
 if (Dat.In 6 8) then if (Dat.Lt (Dat.toN 6) (Dat.len s11.2)) then Dat.bnd (Dat.get s11.2 (Dat.toN 6) 0) fun (x128 : Int) =>
 if (Dat.EqN (Dat.len s11.2) (Dat.len (x92 :: (x97 :: (x102 :: (x107 :: (x113 :: (x118 :: (x123 :: (x128 :: ([] : List (Int)))))))))))) then Dat.bnd (Dat.wrap .i64 (Dat.add s11.1 1)) fun (x131 : Int) =>
 k12 (x131, (x92 :: (x97 :: (x102 :: (x107 :: (x113 :: (x118 :: (x123 :: (x128 :: ([] : List (Int)))))))))))
 else none
 else none
 else none
 else none
 else none
 else none
 else none
 else none
 else none
 else none
 else none
 else none
 else none
 else none
 else none
 else none
 else none
 else none
 else none
 else none
 else none
 else none
 else none
 else none
 else none
 else none
 else none
 else none
 else none
 else none
 else none
 else none
 else none
 else none
 else none
 else none
 else none
 else Dat.loop (fun (s132 : (Int) × (List (Int))) k133 =>
 (bif (Dat.ilt s132.1 8) then if (Dat.In s132.1 8) then if (Dat.Lt (Dat.toN s132.1) (Dat.len s132.2)) then Dat.bnd (Dat.get s132.2 (Dat.toN s132.1) 0) fun (x138 : Int) =>
 if (Dat.In s132.1 8) then if (Dat.Lt (Dat.toN s132.1) (Dat.len s11.2)) then Dat.bnd (Dat.get s11.2 (Dat.toN s132.1) 0) fun (x143 : Int) =>
 Dat.bnd (Dat.wrap .u32 (Dat.add x138 x143)) fun (x144 : Int) =>
 if (Dat.In s132.1 8) then if (Dat.Lt (Dat.toN s132.1) (Dat.len s132.2)) then Dat.bnd (Dat.set s132.2 (Dat.toN s132.1) x144) fun (x149 : List (Int)) =>
 Dat.bnd (Dat.wrap .i64 (Dat.add s132.1 1)) fun (x150 : Int) =>
 k133 (x150, x149)
 else none
 else none
 else none
 else none
 else none
 else none
 else if (Dat.EqN (Dat.len s132.2) 8) then if (Dat.EqN (Dat.len (Dat.rep 8 0)) 8) then if (Dat.EqN (Dat.len (Dat.norm 8 s132.2 0)) 8) then some (Dat.norm 8 s132.2 0)
 else none
 else none
 else none)) (0, (Dat.norm 8 d0.1 0)))) (0, (Dat.norm 8 (Dat.norm 8 d0.1 0) 0))
 else none
 else none
 else none
 else none
noncomputable def p_ref02_Turn : PFn := { args := [(.arr 8 (.int .u32)), (.list (.int .u8))], res := [(.arr 8 (.int .u32))], fn := ref02_Turn }
def sp35_25 : List LSpec × List Nat := ([], [5])
def sp35_35 : List LSpec × List Nat := ([{ id := 3500, known := true, toks := [], items := [.slot 8 (.val (.int .i64)), .vec 1000007 (.int .u32)], junk := [20, 21, 24, 25, 9, 26, 27, 28, 29, 30, 31, 32, 33, 34, 35, 10, 36, 37, 38, 39, 40, 41, 42, 43, 44, 45, 46, 47, 48, 49, 50, 51, 52, 53, 54, 55, 56, 11, 57, 58, 12, 59, 60, 61, 62, 63, 64, 65, 66, 67, 68, 69, 70, 71, 72, 73, 13, 74, 75, 76, 77, 78, 79, 80, 81, 82, 83, 14, 84, 85, 86, 87, 88, 89, 90, 91, 92, 93, 94, 95, 96, 97, 98, 99, 100, 101, 102, 103, 22, 23], tails := [] }, { id := 3501, known := true, toks := [], items := [.slot 15 (.val (.int .i64)), .vec 1000002 (.int .u32)], junk := [104, 105, 108, 109, 110, 111, 112, 113, 114, 115, 116, 106, 107], tails := [] }], [])
def spt35 : Tab (List LSpec × List Nat) := (.node (.node (.node .leaf none (.node (.node (.node .leaf (some sp35_35) .leaf) none .leaf) none .leaf)) none (.node (.node .leaf none (.node .leaf (some sp35_25) .leaf)) none .leaf)) none .leaf)
def spf35 (f : Nat) : List LSpec × List Nat := (spt35.get f).getD ([], [])
theorem pd_ref02_Turn : PureD Tryd.prog cfg 35 p_ref02_Turn := fnD spf35 (l := [(37, p_ref02_table), (38, p_ref02_words), (39, p_ref02_turned)]) cfgOk cfgGlob (.cons pd_ref02_table (.cons pd_ref02_words (.cons pd_ref02_turned .nil))) (fun d => by kernel_rfl)

/-- thimblerig/thimblerigref02.Came -/
noncomputable def ref02_Came (d0 : ((List (Int)) × ((List (Int)) × ((Int) × (Unit)))) × (List (Int))) : Option ((List (Int)) × ((List (Int)) × ((Int) × (Unit)))) :=
 if (Dat.Le (Dat.addN 0 0) (Dat.len ([] : List (Int)))) then if (Dat.Big (Dat.len (Dat.seg ([] : List (Int)) 0 0)) (Dat.len d0.1.2.1) 1) then none
 else Dat.bnd (Dat.app (Dat.seg ([] : List (Int)) 0 0) d0.1.2.1) fun (x5 : List (Int)) =>
 if (Dat.Big (Dat.len x5) (Dat.len d0.2) 1) then none
 else if (Dat.EqN (Dat.len x5) (Dat.len x5)) then Dat.bnd (Dat.app x5 d0.2) fun (x10 : List (Int)) =>
 Dat.loop (fun (s11 : (List (Int)) × ((Int) × ((Int) × ((Int) × ((Int) × ((Int) × ((Int) × ((Int) × ((Int) × ((List (Int)) × (Int))))))))))) k12 =>
 (bif (Dat.ige (Dat.ofN (Dat.len s11.1)) 64) then if (Dat.Bd 64 (Dat.len s11.1)) then Dat.bnd (Dat.slice s11.1 0 (Dat.toN 64)) fun (x15 : List (Int)) =>
 Dat.bind (ref02_Turn ((s11.2.1 :: (s11.2.2.1 :: (s11.2.2.2.1 :: (s11.2.2.2.2.1 :: (s11.2.2.2.2.2.1 :: (s11.2.2.2.2.2.2.1 :: (s11.2.2.2.2.2.2.2.1 :: (s11.2.2.2.2.2.2.2.2.1 :: ([] : List (Int)))))))))), x15)) fun (x16 : List (Int)) =>
 if (Dat.Bd 64 (Dat.len s11.1)) then Dat.bnd (Dat.slice s11.1 (Dat.toN 64) (Dat.len s11.1)) fun (x19 : List (Int)) =>
 k12 (x19, ((Dat.get x16 0 0), ((Dat.get x16 1 0), ((Dat.get x16 2 0), ((Dat.get x16 3 0), ((Dat.get x16 4 0), ((Dat.get x16 5 0), ((Dat.get x16 6 0), ((Dat.get x16 7 0), (s11.2.2.2.2.2.2.2.2.2.1, s11.2.2.2.2.2.2.2.2.2.2))))))))))
 else none
 else none
 else Dat.bnd (Dat.wrap .u64 (Dat.ofN (Dat.len d0.2))) fun (x20 : Int) =>
 Dat.bnd (Dat.wrap .u64 (Dat.add s11.2.2.2.2.2.2.2.2.2.2 x20)) fun (x21 : Int) =>
 some ((s11.2.1 :: (s11.2.2.1 :: (s11.2.2.2.1 :: (s11.2.2.2.2.1 :: (s11.2.2.2.2.2.1 :: (s11.2.2.2.2.2.2.1 :: (s11.2.2.2.2.2.2.2.1 :: (s11.2.2.2.2.2.2.2.2.1 :: ([] : List (Int)))))))))), (s11.1, (x21, ()))))) (x10, ((Dat.get d0.1.1 0 0), ((Dat.get d0.1.1 1 0), ((Dat.get d0.1.1 2 0), ((Dat.get d0.1.1 3 0), ((Dat.get d0.1.1 4 0), ((Dat.get d0.1.1 5 0), ((Dat.get d0.1.1 6 0), ((Dat.get d0.1.1 7 0), (d0.1.2.1, d0.1.2.2.1))))))))))
 else none
 else none
noncomputable def p_ref02_Came : PFn := { args := [(.pair (.arr 8 (.int .u32)) (.pair (.list (.int .u8)) (.pair (.int .u64) .unit))), (.list (.int .u8))], res := [(.pair (.arr 8 (.int .u32)) (.pair (.list (.int .u8)) (.pair (.int .u64) .unit)))], fn := ref02_Came }
def sp31_25 : List LSpec × List Nat := ([], [5])
def sp31_31 : List LSpec × List Nat := ([{ id := 3100, known := true, toks := [], items := [.slot 5 (.val (.list (.int .u8))), .cells 1000002 [.val (.int .u32), .val (.int .u32), .val (.int .u32), .val (.int .u32), .val (.int .u32), .val (.int .u32), .val (.int .u32), .val (.int .u32), .val (.list (.int .u8)), .val (.int .u64)]], junk := [12, 13, 14, 15, 16, 17, 18, 19, 20, 21, 22], tails := [] }], [])
def spt31 : Tab (List LSpec × List Nat) := (.node (.node (.node (.node (.node (.node .leaf (some sp31_31) .leaf) none .leaf) none .leaf) none .leaf) none (.node (.node .leaf none (.node .leaf (some sp31_25) .leaf)) none .leaf)) none .leaf)
def spf31 (f : Nat) : List LSpec × List Nat := (spt31.get f).getD ([], [])
theorem pd_ref02_Came : PureD Tryd.prog cfg 31 p_ref02_Came := fnD spf31 (l := [(35, p_ref02_Turn)]) cfgOk cfgGlob (.cons pd_ref02_Turn .nil) (fun d => by kernel_rfl)

/-- thimblerig/thimblerigref02.Ended -/
noncomputable def ref02_Ended (d0 : (List (Int)) × ((List (Int)) × ((Int) × (Unit)))) : Option (List (Int)) :=
 if (Dat.Le (Dat.addN 0 0) (Dat.len ([] : List (Int)))) then if (Dat.Big (Dat.len (Dat.seg ([] : List (Int)) 0 0)) (Dat.len d0.2.1) 1) then none
 else Dat.bnd (Dat.app (Dat.seg ([] : List (Int)) 0 0) d0.2.1) fun (x5 : List (Int)) =>
 if (Dat.Le (Dat.addN 0 1) (Dat.len (128 :: ([] : List (Int))))) then if (Dat.Big (Dat.len x5) (Dat.len (Dat.seg (128 :: ([] : List (Int))) 0 1)) 1) then none
 else if (Dat.EqN (Dat.len x5) (Dat.len x5)) then Dat.bnd (Dat.app x5 (Dat.seg (128 :: ([] : List (Int))) 0 1)) fun (x12 : List (Int)) =>
 if (Dat.EqN (Dat.len x12) (Dat.len x12)) then Dat.loop (fun (s15 : List (Int)) k16 =>
 if (Dat.IsZ 64) then none
 else Dat.bnd (Dat.tmod (Dat.ofN (Dat.len s15)) 64) fun (x19 : Int) =>
 (bif (Dat.ine x19 56) then if (Dat.Le (Dat.addN 0 1) (Dat.len (0 :: ([] : List (Int))))) then if (Dat.Big (Dat.len s15) (Dat.len (Dat.seg (0 :: ([] : List (Int))) 0 1)) 1) then none
 else if (Dat.EqN (Dat.len s15) (Dat.len s15)) then Dat.bnd (Dat.app s15 (Dat.seg (0 :: ([] : List (Int))) 0 1)) fun (x26 : List (Int)) =>
 if (Dat.EqN (Dat.len x26) (Dat.len x26)) then k16 x26
 else none
 else none
 else none
 else Dat.bnd (Dat.wrap .u64 (Dat.mul 8 d0.2.2.1)) fun (x29 : Int) =>
 if (Dat.EqN (Dat.len s15) (Dat.len s15)) then Dat.loop (fun (s32 : (List (Int)) × (Int)) k33 =>
 (bif (Dat.ige s32.2 0) then Dat.bnd (Dat.wrap .i64 (Dat.mul 8 s32.2)) fun (x34 : Int) =>
 Dat.bnd (Dat.wrap .u64 x34) fun (x35 : Int) =>
 if (Dat.Neg x35) then none
 else Dat.bnd (Dat.shr .u64 x29 x35) fun (x38 : Int) =>
 Dat.bnd (Dat.wrap .u8 x38) fun (x39 : Int) =>
 if (Dat.Le (Dat.addN 0 1) (Dat.len (x39 :: ([] : List (Int))))) then if (Dat.Big (Dat.len s32.1) (Dat.len (Dat.seg (x39 :: ([] : List (Int))) 0 1)) 1) then none
 else if (Dat.EqN (Dat.len s32.1) (Dat.len s32.1)) then Dat.bnd (Dat.app s32.1 (Dat.seg (x39 :: ([] : List (Int))) 0 1)) fun (x46 : List (Int)) =>
 Dat.bnd (Dat.wrap .i64 (Dat.sub s32.2 1)) fun (x47 : Int) =>
 if (Dat.EqN (Dat.len x46) (Dat.len x46)) then k33 (x46, x47)
 else none
 else none
 else none
 else if (Dat.EqN (Dat.len (Dat.rep 8 0)) (Dat.len ((Dat.get d0.1 0 0) :: ((Dat.get d0.1 1 0) :: ((Dat.get d0.1 2 0) :: ((Dat.get d0.1 3 0) :: ((Dat.get d0.1 4 0) :: ((Dat.get d0.1 5 0) :: ((Dat.get d0.1 6 0) :: ((Dat.get d0.1 7 0) :: ([] : List (Int)))))))))))) then Dat.loop (fun (s52 : (List (Int)) × (List (Int))) k53 =>
 (bif (Dat.igt (Dat.ofN (Dat.len s52.1)) 0) then if (Dat.EqN (Dat.len s52.2) 8) then if (Dat.Bd 64 (Dat.len s52.1)) then Dat.bnd (Dat.slice s52.1 0 (Dat.toN 64)) fun (x58 : List (Int)) =>
 Dat.bind (ref02_Turn (s52.2, x58)) fun (x59 : List (Int)) =>
 if (Dat.EqN (Dat.len s52.2) 8) then if (Dat.Bd 64 (Dat.len s52.1)) then Dat.bnd (Dat.slice s52.1 (Dat.toN 64) (Dat.len s52.1)) fun (x64 : List (Int)) =>
 k53 (x64, (Dat.norm 8 x59 0))
 else none
 else none
 else none
 else none
 else Dat.loop (fun (s65 : (Int) × (List (Int))) k66 =>
 (bif (Dat.ilt s65.1 32) then if (Dat.IsZ 4) then none
 else Dat.bnd (Dat.wrap .i64 (Dat.tdiv s65.1 4)) fun (x69 : Int) =>
 if (Dat.In x69 8) then if (Dat.Lt (Dat.toN x69) (Dat.len s52.2)) then Dat.bnd (Dat.get s52.2 (Dat.toN x69) 0) fun (x74 : Int) =>
 if (Dat.IsZ 4) then none
 else Dat.bnd (Dat.tmod s65.1 4) fun (x77 : Int) =>
 Dat.bnd (Dat.wrap .i64 (Dat.mul 8 x77)) fun (x78 : Int) =>
 Dat.bnd (Dat.wrap .i64 (Dat.sub 24 x78)) fun (x79 : Int) =>
 Dat.bnd (Dat.wrap .u64 x79) fun (x80 : Int) =>
 if (Dat.Neg x80) then none
 else Dat.bnd (Dat.shr .u32 x74 x80) fun (x83 : Int) =>
 Dat.bnd (Dat.wrap .u8 x83) fun (x84 : Int) =>
 if (Dat.In s65.1 32) then if (Dat.Lt (Dat.toN s65.1) (Dat.len s65.2)) then Dat.bnd (Dat.set s65.2 (Dat.toN s65.1) x84) fun (x89 : List (Int)) =>
 Dat.bnd (Dat.wrap .i64 (Dat.add s65.1 1)) fun (x90 : Int) =>
 k66 (x90, x89)
 else none
 else none
 else none
 else none
 else if (Dat.EqN (Dat.len s65.2) 32) then if (Dat.EqN (Dat.len (Dat.rep 32 0)) 32) then if (Dat.EqN (Dat.len (Dat.norm 32 s65.2 0)) 32) then some (Dat.norm 32 s65.2 0)
 else none
 else none
 else none)) (0, (Dat.rep 32 0)))) (s32.1, ((Dat.get d0.1 0 0) :: ((Dat.get d0.1 1 0) :: ((Dat.get d0.1 2 0) :: ((Dat.get d0.1 3 0) :: ((Dat.get d0.1 4 0) :: ((Dat.get d0.1 5 0) :: ((Dat.get d0.1 6 0) :: ((Dat.get d0.1 7 0) :: ([] : List (Int)))))))))))
 else none)) (s15, 7)
 else none)) x12
 else none
 else none
 else none
 else none
noncomputable def p_ref02_Ended : PFn := { args := [(.pair (.arr 8 (.int .u32)) (.pair (.list (.int .u8)) (.pair (.int .u64) .unit)))], res := [(.arr 32 (.int .u8))], fn := ref02_Ended }
def sp30_25 : List LSpec × List Nat := ([], [5])
def sp30_30 : List LSpec × List Nat := ([{ id := 3000, known := true, toks := [(3, (.int .u8))], items := [.slot 3 (.slt (.int .u8) (some 1000003) false)], junk := [15, 16, 17, 18, 19, 20, 21], tails := [(1000003, 3)] }, { id := 3001, known := true, toks := [(3, (.int .u8))], items := [.slot 3 (.slt (.int .u8) (some 1000003) false), .slot 5 (.val (.int .i64))], junk := [25, 26, 29, 30, 31, 32, 33, 34, 35, 36, 37, 27, 28], tails := [(1000003, 3)] }, { id := 3002, known := true, toks := [], items := [.slot 3 (.val (.list (.int .u8))), .vec 1000006 (.int .u32)], junk := [40, 41, 42, 43, 44, 45, 46, 47, 48], tails := [] }, { id := 3003, known := true, toks := [], items := [.slot 8 (.val (.int .i64)), .vec 1000007 (.int .u8)], junk := [49, 50, 53, 54, 55, 56, 57, 58, 59, 60, 61, 62, 63, 64, 65, 51, 52], tails := [] }], [])
def spt30 : Tab (List LSpec × List Nat) := (.node (.node .leaf none (.node (.node .leaf none (.node .leaf (some sp30_25) .leaf)) none .leaf)) none (.node .leaf none (.node .leaf none (.node .leaf none (.node .leaf (some sp30_30) .leaf)))))
def spf30 (f : Nat) : List LSpec × List Nat := (spt30.get f).getD ([], [])
theorem pd_ref02_Ended : PureD Tryd.prog cfg 30 p_ref02_Ended := fnD spf30 (l := [(35, p_ref02_Turn)]) cfgOk cfgGlob (.cons pd_ref02_Turn .nil) (fun d => by kernel_rfl)

/-- thimblerig/thimblerigref02.Of -/
noncomputable def ref02_Of (d0 : List (Int)) : Option (List (Int)) :=
 Dat.bind (ref02_Begin ()) fun (x1 : (List (Int)) × ((List (Int)) × ((Int) × (Unit)))) =>
 Dat.bind (ref02_Came ((((Dat.get x1.1 0 0) :: ((Dat.get x1.1 1 0) :: ((Dat.get x1.1 2 0) :: ((Dat.get x1.1 3 0) :: ((Dat.get x1.1 4 0) :: ((Dat.get x1.1 5 0) :: ((Dat.get x1.1 6 0) :: ((Dat.get x1.1 7 0) :: ([] : List (Int)))))))))), (x1.2.1, (x1.2.2.1, ()))), d0)) fun (x2 : (List (Int)) × ((List (Int)) × ((Int) × (Unit)))) =>
 Dat.bind (ref02_Ended (((Dat.get x2.1 0 0) :: ((Dat.get x2.1 1 0) :: ((Dat.get x2.1 2 0) :: ((Dat.get x2.1 3 0) :: ((Dat.get x2.1 4 0) :: ((Dat.get x2.1 5 0) :: ((Dat.get x2.1 6 0) :: ((Dat.get x2.1 7 0) :: ([] : List (Int)))))))))), (x2.2.1, (x2.2.2.1, ())))) fun (x3 : List (Int)) =>
 if (Dat.EqN (Dat.len (Dat.rep 32 0)) 32) then if (Dat.EqN (Dat.len (Dat.norm 32 x3 0)) 32) then some (Dat.norm 32 x3 0)
 else none
 else none
noncomputable def p_ref02_Of : PFn := { args := [(.list (.int .u8))], res := [(.arr 32 (.int .u8))], fn := ref02_Of }
def sp23_25 : List LSpec × List Nat := ([], [5])
def spt23 : Tab (List LSpec × List Nat) := (.node (.node .leaf none (.node (.node .leaf none (.node .leaf (some sp23_25) .leaf)) none .leaf)) none .leaf)
def spf23 (f : Nat) : List LSpec × List Nat := (spt23.get f).getD ([], [])
theorem pd_ref02_Of : PureD Tryd.prog cfg 23 p_ref02_Of := fnD spf23 (l := [(32, p_ref02_Begin), (31, p_ref02_Came), (30, p_ref02_Ended)]) cfgOk cfgGlob (.cons pd_ref02_Begin (.cons pd_ref02_Came (.cons pd_ref02_Ended .nil))) (fun d => by kernel_rfl)

/-- thimblerig/thimblerigref11.Digest -/
noncomputable def ref11_Digest (d0 : (Int) × ((Int) × (List (Int)))) : Option (List (Int)) :=
 Dat.bind (ref11_Text (d0.1, (d0.2.1, d0.2.2))) fun (x1 : List (Int)) =>
 Dat.bind (ref02_Of x1) fun (x2 : List (Int)) =>
 if (Dat.EqN (Dat.len (Dat.rep 32 0)) 32) then if (Dat.EqN (Dat.len (Dat.norm 32 x2 0)) 32) then some (Dat.norm 32 x2 0)
 else none
 else none
noncomputable def p_ref11_Digest : PFn := { args := [(.int .i64), (.int .i64), (.list (.int .u8))], res := [(.arr 32 (.int .u8))], fn := ref11_Digest }
def sp14_25 : List LSpec × List Nat := ([], [5])
def spt14 : Tab (List LSpec × List Nat) := (.node (.node .leaf none (.node (.node .leaf none (.node .leaf (some sp14_25) .leaf)) none .leaf)) none .leaf)
def spf14 (f : Nat) : List LSpec × List Nat := (spt14.get f).getD ([], [])
theorem pd_ref11_Digest : PureD Tryd.prog cfg 14 p_ref11_Digest := fnD spf14 (l := [(12, p_ref11_Text), (23, p_ref02_Of)]) cfgOk cfgGlob (.cons pd_ref11_Text (.cons pd_ref02_Of .nil)) (fun d => by kernel_rfl)

/-- thimblerig/thimblerigref11.Sum -/
noncomputable def ref11_Sum (d0 : (Int) × ((Int) × (List (Int)))) : Option ((List (Int)) × (Int)) :=
 Dat.bind (ref11_may (d0.1, d0.2.1)) fun (x1 : Bool) =>
 (bif (Dat.bnot x1) then if (Dat.EqN (Dat.len (Dat.rep 32 0)) (Dat.len (0 :: (0 :: (0 :: (0 :: (0 :: (0 :: (0 :: (0 :: (0 :: (0 :: (0 :: (0 :: (0 :: (0 :: (0 :: (0 :: (0 :: (0 :: (0 :: (0 :: (0 :: (0 :: (0 :: (0 :: (0 :: (0 :: (0 :: (0 :: (0 :: (0 :: (0 :: (0 :: ([] : List (Int)))))))))))))))))))))))))))))))))))) then if (Dat.EqN (Dat.len (0 :: (0 :: (0 :: (0 :: (0 :: (0 :: (0 :: (0 :: (0 :: (0 :: (0 :: (0 :: (0 :: (0 :: (0 :: (0 :: (0 :: (0 :: (0 :: (0 :: (0 :: (0 :: (0 :: (0 :: (0 :: (0 :: (0 :: (0 :: (0 :: (0 :: (0 :: (0 :: ([] : List (Int))))))))))))))))))))))))))))))))))) 32) then some ((0 :: (0 :: (0 :: (0 :: (0 :: (0 :: (0 :: (0 :: (0 :: (0 :: (0 :: (0 :: (0 :: (0 :: (0 :: (0 :: (0 :: (0 :: (0 :: (0 :: (0 :: (0 :: (0 :: (0 :: (0 :: (0 :: (0 :: (0 :: (0 :: (0 :: (0 :: (0 :: ([] : List (Int)))))))))))))))))))))))))))))))))), 2)
 else none
 else none
 else Dat.bind (ref11_Digest (d0.1, (d0.2.1, d0.2.2))) fun (x6 : List (Int)) =>
 if (Dat.EqN (Dat.len (Dat.rep 32 0)) 32) then if (Dat.EqN (Dat.len (Dat.norm 32 x6 0)) 32) then some ((Dat.norm 32 x6 0), 0)
 else none
 else none)
noncomputable def p_ref11_Sum : PFn := { args := [(.int .i64), (.int .i64), (.list (.int .u8))], res := [(.arr 32 (.int .u8)), (.int .i64)], fn := ref11_Sum }
def sp7_25 : List LSpec × List Nat := ([], [5])
def spt7 : Tab (List LSpec × List Nat) := (.node (.node .leaf none (.node (.node .leaf none (.node .leaf (some sp7_25) .leaf)) none .leaf)) none .leaf)
def spf7 (f : Nat) : List LSpec × List Nat := (spt7.get f).getD ([], [])
theorem pd_ref11_Sum : PureD Tryd.prog cfg 7 p_ref11_Sum := fnD spf7 (l := [(11, p_ref11_may), (14, p_ref11_Digest)]) cfgOk cfgGlob (.cons pd_ref11_may (.cons pd_ref11_Digest .nil)) (fun d => by kernel_rfl)

/-- thimblerig/thimblerigref01.Same -/
noncomputable def ref01_Same (d0 : (List (Int)) × (List (Int))) : Option (Bool) :=
 Dat.bnd (Dat.str d0.1) fun (x1 : List (UInt8)) =>
 Dat.bnd (Dat.str d0.2) fun (x2 : List (UInt8)) =>
 some (Dat.seq x1 x2)
noncomputable def p_ref01_Same : PFn := { args := [(.list (.int .u8)), (.list (.int .u8))], res := [.bool], fn := ref01_Same }
def sp8_25 : List LSpec × List Nat := ([], [5])
def spt8 : Tab (List LSpec × List Nat) := (.node (.node .leaf none (.node (.node .leaf none (.node .leaf (some sp8_25) .leaf)) none .leaf)) none .leaf)
def spf8 (f : Nat) : List LSpec × List Nat := (spt8.get f).getD ([], [])
theorem pd_ref01_Same : PureD Tryd.prog cfg 8 p_ref01_Same := fnD spf8 (l := []) cfgOk cfgGlob .nil (fun d => by kernel_rfl)

/-- thimblerig/thimbleriglaw11.SealSums -/
noncomputable def law11_SealSums (d0 : (Int) × ((Int) × (List (Int)))) : Option (Bool) :=
 (bif (Dat.igt (Dat.ofN (Dat.len d0.2.2)) 1000) then some true
 else if (Dat.Le (Dat.addN 0 0) (Dat.len ([] : List (Int)))) then if (Dat.Big (Dat.len (Dat.seg ([] : List (Int)) 0 0)) (Dat.len d0.2.2) 1) then none
 else Dat.bnd (Dat.app (Dat.seg ([] : List (Int)) 0 0) d0.2.2) fun (x5 : List (Int)) =>
 Dat.bind (seal_Hashed (d0.1, (d0.2.1, x5))) fun (x6 : (List (Int)) × (Int)) =>
 if (Dat.EqN (Dat.len x6.1) 0) then Dat.bind (ref11_Hashed (d0.1, (d0.2.1, d0.2.2))) fun (x9 : (List (Int)) × (Int)) =>
 Dat.bind (seal_Sum (d0.1, (d0.2.1, x5))) fun (x10 : (List (Int)) × (Int)) =>
 if (Dat.EqN (Dat.len (Dat.rep 32 0)) 32) then Dat.bind (ref11_Sum (d0.1, (d0.2.1, d0.2.2))) fun (x13 : (List (Int)) × (Int)) =>
 if (Dat.EqN (Dat.len (Dat.rep 32 0)) 32) then Dat.join (σ := Bool) (fun k16 =>
 Dat.bind (ref01_Same (x6.1, x9.1)) fun (x17 : Bool) =>
 (bif x17 then (bif (Dat.pickB true (Dat.ieq x6.2 x9.2) false) then if (Dat.EqN (Dat.len (Dat.norm 32 x10.1 0)) 32) then if (Dat.EqN (Dat.len (Dat.norm 32 x13.1 0)) 32) then (bif (Dat.pickB true (Dat.lq 32 (Dat.norm 32 x10.1 0) (Dat.norm 32 x13.1 0)) false) then k16 (Dat.pickB true (Dat.ieq x10.2 x13.2) false)
 else k16 false)
 else none
 else none
 else k16 false)
 else k16 false)) fun (j22 : Bool) =>
 Dat.loop (fun (s23 : Int) k24 =>
 (bif (Dat.ilt s23 (Dat.ofN (Dat.len x6.1))) then if (Dat.Ix s23 (Dat.len x6.1)) then Dat.bnd (Dat.get x6.1 (Dat.toN s23) 0) fun (x27 : Int) =>
 Dat.bnd (Dat.wrap .u8 (Dat.add x27 1)) fun (x28 : Int) =>
 if (Dat.Ix s23 (Dat.len x6.1)) then Dat.bnd (Dat.get x6.1 (Dat.toN s23) 0) fun (x31 : Int) =>
 none
 else none
 else none
 else Dat.join (σ := Bool) (fun k32 =>
 (bif j22 then Dat.bind (ref01_Same (x5, d0.2.2)) fun (x33 : Bool) =>
 k32 (Dat.pickB true x33 false)
 else k32 false)) fun (j34 : Bool) =>
 some j34)) 0
 else none
 else none
 else Dat.bind (ref11_Hashed (d0.1, (d0.2.1, d0.2.2))) fun (x35 : (List (Int)) × (Int)) =>
 Dat.bind (seal_Sum (d0.1, (d0.2.1, x5))) fun (x36 : (List (Int)) × (Int)) =>
 if (Dat.EqN (Dat.len (Dat.rep 32 0)) 32) then Dat.bind (ref11_Sum (d0.1, (d0.2.1, d0.2.2))) fun (x39 : (List (Int)) × (Int)) =>
 if (Dat.EqN (Dat.len (Dat.rep 32 0)) 32) then Dat.join (σ := Bool) (fun k42 =>
 if (Dat.Le (Dat.addN 0 (Dat.len x6.1)) (Dat.len x6.1)) then Dat.bind (ref01_Same ((Dat.seg x6.1 0 (Dat.len x6.1)), x35.1)) fun (x45 : Bool) =>
 (bif x45 then (bif (Dat.pickB true (Dat.ieq x6.2 x35.2) false) then if (Dat.EqN (Dat.len (Dat.norm 32 x36.1 0)) 32) then if (Dat.EqN (Dat.len (Dat.norm 32 x39.1 0)) 32) then (bif (Dat.pickB true (Dat.lq 32 (Dat.norm 32 x36.1 0) (Dat.norm 32 x39.1 0)) false) then k42 (Dat.pickB true (Dat.ieq x36.2 x39.2) false)
 else k42 false)
 else none
 else none
 else k42 false)
 else k42 false)
 else none) fun (j50 : Bool) =>
 Dat.loop (fun (s51 : (Int) × (List (Int))) k52 =>
 (bif (Dat.ilt s51.1 (Dat.ofN (Dat.len x6.1))) then if (Dat.In s51.1 (Dat.len x6.1)) then if (Dat.Lt (Dat.addN 0 (Dat.toN s51.1)) (Dat.len s51.2)) then Dat.bnd (Dat.get s51.2 (Dat.addN 0 (Dat.toN s51.1)) 0) fun (x57 : Int) =>
 Dat.bnd (Dat.wrap .u8 (Dat.add x57 1)) fun (x58 : Int) =>
 if (Dat.In s51.1 (Dat.len x6.1)) then if (Dat.Lt (Dat.addN 0 (Dat.toN s51.1)) (Dat.len s51.2)) then Dat.bnd (Dat.set s51.2 (Dat.addN 0 (Dat.toN s51.1)) x58) fun (x63 : List (Int)) =>
 Dat.bnd (Dat.wrap .i64 (Dat.add s51.1 1)) fun (x64 : Int) =>
 k52 (x64, x63)
 else none
 else none
 else none
 else none
 else Dat.join (σ := Bool) (fun k65 =>
 (bif j50 then Dat.bind (ref01_Same (x5, d0.2.2)) fun (x66 : Bool) =>
 k65 (Dat.pickB true x66 false)
 else k65 false)) fun (j67 : Bool) =>
 some j67)) (0, x6.1)
 else none
 else none
 else none)
noncomputable def p_law11_SealSums : PFn := { args := [(.int .i64), (.int .i64), (.list (.int .u8))], res := [.bool], fn := law11_SealSums }
def sp3_24 : List LSpec × List Nat := ([{ id := 5024000, known := false, toks := [], items := [], junk := [5], tails := [] }, { id := 5024001, known := true, toks := [], items := [.slot 13 (.val .bool)], junk := [6, 7, 8, 9, 10, 11, 12], tails := [] }, { id := 5024002, known := false, toks := [], items := [], junk := [5], tails := [] }, { id := 5024003, known := false, toks := [], items := [.slot 5 (.val .bool)], junk := [], tails := [] }, { id := 5024004, known := false, toks := [], items := [], junk := [14, 15, 16], tails := [] }, { id := 5024005, known := false, toks := [], items := [.slot 5 (.val .bool)], junk := [17, 18], tails := [] }], [])
def sp3_16 : List LSpec × List Nat := ([{ id := 5016000, known := false, toks := [], items := [], junk := [4], tails := [] }, { id := 5016001, known := true, toks := [], items := [.slot 4 (.val .bool)], junk := [5, 6, 7, 8, 9, 10, 11, 12, 13], tails := [] }], [])
def sp3_25 : List LSpec × List Nat := ([{ id := 5025000, known := false, toks := [], items := [], junk := [4], tails := [] }, { id := 5025001, known := false, toks := [], items := [.slot 6 (.val .bool)], junk := [5], tails := [] }, { id := 5025002, known := true, toks := [], items := [], junk := [7], tails := [] }, { id := 5025003, known := false, toks := [], items := [], junk := [7], tails := [] }, { id := 5025004, known := false, toks := [], items := [.slot 1 (.val (.int .i64))], junk := [8, 9, 10, 11, 12, 13, 14], tails := [] }, { id := 5025005, known := false, toks := [], items := [.slot 16 (.val .bool)], junk := [15], tails := [] }, { id := 5025006, known := false, toks := [], items := [], junk := [17, 18, 19, 20, 21, 22, 23, 24, 25], tails := [] }, { id := 5025007, known := false, toks := [], items := [], junk := [17, 18, 19, 20, 21, 22, 23, 24, 25], tails := [] }, { id := 5025008, known := false, toks := [], items := [], junk := [26], tails := [] }], [5])
def sp3_18 : List LSpec × List Nat := ([{ id := 5018000, known := false, toks := [], items := [], junk := [2], tails := [] }, { id := 5018001, known := false, toks := [], items := [.slot 3 (.val (.int .i64))], junk := [], tails := [] }, { id := 5018002, known := false, toks := [], items := [.slot 10 (.val (.int .i64)), .slot 11 (.val (.int .i64))], junk := [], tails := [] }, { id := 1800, known := false, toks := [], items := [], junk := [], tails := [] }, { id := 5018003, known := false, toks := [], items := [], junk := [], tails := [] }, { id := 5018004, known := false, toks := [], items := [], junk := [], tails := [] }, { id := 5018005, known := false, toks := [], items := [], junk := [13, 14], tails := [] }, { id := 5018006, known := false, toks := [], items := [.slot 3 (.val (.int .i64))], junk := [15, 16, 17, 18], tails := [] }, { id := 5018007, known := false, toks := [], items := [.slot 20 (.val .bool)], junk := [19], tails := [] }, { id := 5018008, known := true, toks := [], items := [], junk := [21], tails := [] }, { id := 5018009, known := false, toks := [], items := [], junk := [21], tails := [] }, { id := 5018010, known := false, toks := [], items := [.slot 11 (.val (.int .i64))], junk := [22], tails := [] }, { id := 5018011, known := false, toks := [], items := [], junk := [23, 24], tails := [] }, { id := 5018012, known := false, toks := [], items := [.slot 26 (.val (.int .i64)), .slot 27 (.val (.int .i64))], junk := [], tails := [] }, { id := 1801, known := false, toks := [], items := [], junk := [], tails := [] }, { id := 5018013, known := false, toks := [], items := [], junk := [], tails := [] }, { id := 5018014, known := false, toks := [], items := [], junk := [], tails := [] }, { id := 5018015, known := false, toks := [], items := [], junk := [29, 30], tails := [] }, { id := 5018016, known := false, toks := [], items := [], junk := [31, 32, 33], tails := [] }, { id := 5018017, known := false, toks := [], items := [.slot 27 (.val (.int .i64))], junk := [34], tails := [] }, { id := 5018018, known := false, toks := [], items := [], junk := [35], tails := [] }], [])
def sp3_4 : List LSpec × List Nat := ([{ id := 5004000, known := false, toks := [], items := [], junk := [6, 7], tails := [] }, { id := 5004001, known := true, toks := [], items := [.slot 23 (.val .bool)], junk := [10, 11, 12, 13, 14, 15, 16, 17, 18, 19, 20, 21, 22], tails := [] }, { id := 5004002, known := false, toks := [], items := [], junk := [6, 7], tails := [] }, { id := 5004003, known := false, toks := [], items := [.slot 7 (.val (.int .i64))], junk := [], tails := [] }, { id := 5004004, known := false, toks := [], items := [.slot 9 (.val (.int .i64))], junk := [25, 26, 27, 28, 29, 30, 31, 24, 32, 33], tails := [] }, { id := 5004005, known := false, toks := [], items := [.slot 35 (.val .bool)], junk := [34], tails := [] }, { id := 5004006, known := false, toks := [], items := [], junk := [36, 6, 7], tails := [] }, { id := 5004007, known := false, toks := [], items := [.slot 7 (.val (.int .i64))], junk := [36], tails := [] }, { id := 5004008, known := false, toks := [], items := [.slot 7 (.val (.int .i64))], junk := [37, 38, 39, 40], tails := [] }], [])
def sp3_11 : List LSpec × List Nat := ([{ id := 5011000, known := false, toks := [], items := [], junk := [4], tails := [] }, { id := 5011001, known := true, toks := [], items := [.slot 4 (.val .bool)], junk := [5, 6, 7, 8, 9, 10, 11, 12, 13, 14, 15, 16, 17, 18], tails := [] }], [])
def sp3_26 : List LSpec × List Nat := ([{ id := 5026000, known := false, toks := [], items := [], junk := [2], tails := [] }, { id := 5026001, known := true, toks := [], items := [.slot 15 (.val .bool)], junk := [3, 4, 5, 6, 7, 8, 9, 10, 11, 12, 13, 14], tails := [] }, { id := 5026002, known := false, toks := [], items := [], junk := [2], tails := [] }, { id := 5026003, known := false, toks := [], items := [.slot 2 (.val (.int .i64))], junk := [], tails := [] }, { id := 5026004, known := false, toks := [], items := [.slot 2 (.val (.int .i64))], junk := [], tails := [] }], [])
def sp3_36 : List LSpec × List Nat := ([{ id := 5036000, known := false, toks := [], items := [], junk := [4], tails := [] }, { id := 5036001, known := false, toks := [], items := [.slot 5 (.val (.int .u32))], junk := [6, 7, 8, 9, 10, 11], tails := [] }, { id := 5036002, known := false, toks := [], items := [.slot 13 (.val .bool)], junk := [12], tails := [] }, { id := 5036003, known := true, toks := [], items := [.slot 5 (.val (.int .u32))], junk := [14, 15, 16, 17, 18], tails := [] }, { id := 5036004, known := false, toks := [], items := [.slot 5 (.val (.int .u32))], junk := [14, 15, 16, 17, 18], tails := [] }, { id := 5036005, known := false, toks := [], items := [.slot 4 (.val (.int .u32))], junk := [19, 20, 21, 22, 23, 24, 25, 26, 27, 28, 29, 30, 31, 32, 33], tails := [] }], [])
def sp3_33 : List LSpec × List Nat := ([{ id := 5033000, known := false, toks := [], items := [], junk := [], tails := [] }, { id := 5033001, known := false, toks := [], items := [], junk := [7, 8], tails := [] }, { id := 5033002, known := false, toks := [], items := [], junk := [9, 10], tails := [] }, { id := 5033003, known := false, toks := [], items := [], junk := [], tails := [] }, { id := 5033004, known := false, toks := [], items := [.slot 11 (.val (.int .i64))], junk := [], tails := [] }, { id := 3300, known := false, toks := [], items := [], junk := [], tails := [] }, { id := 5033005, known := false, toks := [], items := [], junk := [], tails := [] }, { id := 5033006, known := false, toks := [], items := [], junk := [], tails := [] }, { id := 5033007, known := false, toks := [], items := [.slot 6 (.val (.int .i64))], junk := [13], tails := [] }, { id := 5033008, known := false, toks := [], items := [.slot 15 (.val .bool)], junk := [14], tails := [] }, { id := 5033009, known := true, toks := [], items := [], junk := [16, 17, 18, 19, 20, 21, 22, 23, 24, 25, 26, 27, 28, 29, 30, 31, 32, 33, 34, 35, 36, 37, 38, 39, 40, 41, 42, 43, 44, 45, 46, 47, 48, 49, 50, 51, 52, 53, 54, 55, 56, 57, 58, 59, 60, 61, 62, 63, 64, 65, 66, 67, 68, 69, 70, 71], tails := [] }, { id := 5033010, known := false, toks := [], items := [], junk := [16, 17, 18, 19, 20, 21, 22, 23, 24, 25, 26, 27, 28, 29, 30, 31, 32, 33, 34, 35, 36, 37, 38, 39, 40, 41, 42, 43, 44, 45, 46], tails := [] }, { id := 5033011, known := false, toks := [], items := [], junk := [47, 48, 49, 50, 51, 52, 53, 54, 55, 56, 57, 58, 59, 60, 61, 62, 63, 64, 65, 66, 67, 68, 69, 70, 71], tails := [] }, { id := 5033012, known := false, toks := [], items := [.slot 11 (.val (.int .i64))], junk := [72], tails := [] }, { id := 5033013, known := false, toks := [], items := [], junk := [73], tails := [] }], [])
def sp3_22 : List LSpec × List Nat := ([{ id := 5022000, known := false, toks := [], items := [], junk := [3], tails := [] }, { id := 5022001, known := false, toks := [], items := [.slot 4 (.val (.int .i64))], junk := [9, 10], tails := [] }, { id := 5022002, known := false, toks := [], items := [.slot 12 (.val .bool)], junk := [11], tails := [] }, { id := 5022003, known := false, toks := [], items := [], junk := [13, 14, 3], tails := [] }, { id := 5022004, known := false, toks := [], items := [.slot 3 (.val (.int .i64))], junk := [13, 14], tails := [] }, { id := 5022005, known := false, toks := [], items := [], junk := [15, 16], tails := [] }, { id := 5022006, known := false, toks := [], items := [], junk := [], tails := [] }, { id := 5022007, known := false, toks := [], items := [.slot 7 (.val (.int .i64))], junk := [17, 18, 19, 20], tails := [] }, { id := 5022008, known := false, toks := [], items := [], junk := [21, 22], tails := [] }, { id := 5022009, known := false, toks := [], items := [.slot 24 (.val .bool)], junk := [23], tails := [] }, { id := 5022010, known := true, toks := [], items := [], junk := [25, 26, 27, 28], tails := [] }, { id := 5022011, known := false, toks := [], items := [], junk := [25, 26, 27], tails := [] }, { id := 5022012, known := false, toks := [], items := [], junk := [28], tails := [] }, { id := 5022013, known := false, toks := [], items := [.slot 29 (.val (.int .i64))], junk := [], tails := [] }, { id := 2200, known := false, toks := [], items := [], junk := [], tails := [] }, { id := 5022014, known := false, toks := [], items := [.slot 30 (.val .bool)], junk := [], tails := [] }, { id := 5022015, known := false, toks := [], items := [], junk := [], tails := [] }, { id := 5022016, known := false, toks := [], items := [.slot 8 (.val (.int .i64))], junk := [31], tails := [] }, { id := 5022017, known := false, toks := [], items := [], junk := [32, 33, 34, 35, 36, 37, 38, 39, 40, 41], tails := [] }, { id := 5022018, known := false, toks := [], items := [.slot 29 (.val (.int .i64))], junk := [42], tails := [] }, { id := 5022019, known := false, toks := [], items := [.slot 3 (.val (.int .i64))], junk := [43, 44, 45, 46], tails := [] }], [])
def sp3_3 : List LSpec × List Nat := ([{ id := 5003000, known := false, toks := [], items := [], junk := [6], tails := [] }, { id := 5003001, known := false, toks := [], items := [.slot 20 (.val .bool)], junk := [18, 19], tails := [] }, { id := 5003002, known := false, toks := [], items := [], junk := [6], tails := [] }, { id := 5003003, known := false, toks := [], items := [.slot 6 (.val .bool)], junk := [], tails := [] }, { id := 5003004, known := false, toks := [], items := [], junk := [21, 22, 23], tails := [] }, { id := 5003005, known := false, toks := [], items := [.slot 9 (.val (.int .i64))], junk := [25, 26, 27, 28, 24, 29, 30], tails := [] }, { id := 5003006, known := false, toks := [], items := [.slot 11 (.val (.int .i64))], junk := [32, 33, 34, 35, 31, 36, 37], tails := [] }, { id := 5003007, known := false, toks := [], items := [.slot 13 (.val (.int .i64))], junk := [39, 40, 41, 42, 38, 43, 44], tails := [] }, { id := 5003008, known := false, toks := [], items := [.slot 15 (.val (.int .i64))], junk := [46, 47, 48, 49, 45, 50, 51], tails := [] }, { id := 5003009, known := true, toks := [], items := [.slot 16 (.val .bool)], junk := [52, 53, 54, 55, 56, 57, 58, 59, 60, 61, 62, 63, 64, 65, 66, 67, 68, 69], tails := [] }, { id := 5003010, known := false, toks := [], items := [.slot 17 (.val (.int .i64))], junk := [], tails := [] }, { id := 300, known := true, toks := [], items := [.slot 17 (.val (.int .i64)), .vec 1000008 (.int .u8)], junk := [70, 71, 72, 73, 76, 77, 78, 79, 80, 81, 82, 83, 74, 75], tails := [] }, { id := 5003011, known := false, toks := [], items := [.slot 73 (.val .bool)], junk := [70, 71, 72], tails := [] }, { id := 5003012, known := false, toks := [], items := [], junk := [], tails := [] }, { id := 5003013, known := false, toks := [], items := [], junk := [76, 77, 78, 79, 80, 81, 82, 83], tails := [] }, { id := 5003014, known := false, toks := [], items := [.slot 17 (.val (.int .i64))], junk := [74, 75], tails := [] }, { id := 5003015, known := true, toks := [], items := [.slot 6 (.val .bool)], junk := [84, 85, 86, 87, 88, 89], tails := [] }], [])
def spt3 : Tab (List LSpec × List Nat) := (.node (.node (.node .leaf (some sp3_3) (.node .leaf (some sp3_11) .leaf)) none (.node (.node (.node (.node .leaf (some sp3_33) .leaf) none .leaf) none (.node .leaf (some sp3_25) .leaf)) none .leaf)) none (.node (.node (.node (.node .leaf (some sp3_16) .leaf) none (.node .leaf (some sp3_24) .leaf)) (some sp3_4) (.node (.node (.node .leaf (some sp3_36) .leaf) none .leaf) none .leaf)) none (.node (.node (.node .leaf (some sp3_18) .leaf) none (.node .leaf (some sp3_26) .leaf)) none (.node (.node .leaf (some sp3_22) .leaf) none .leaf))))
def spf3 (f : Nat) : List LSpec × List Nat := (spt3.get f).getD ([], [])
theorem pd_law11_SealSums : PureD Tryd.prog cfg 3 p_law11_SealSums := fnDa spf3 [] (l := [(4, p_seal_Hashed), (5, p_ref11_Hashed), (6, p_seal_Sum), (7, p_ref11_Sum), (8, p_ref01_Same)]) (lo := [(4, o_seal_Hashed)]) cfgOk cfgGlob (.cons pd_seal_Hashed (.cons pd_ref11_Hashed (.cons pd_seal_Sum (.cons pd_ref11_Sum (.cons pd_ref01_Same .nil))))) (.cons od_seal_Hashed.1 .nil) (fun d => by kernel_rfl)
end Go.Proofs.YtecoonecmmbggaaDoor
