/- The functions of the program, as functions on plain data. -/
import Derived.Test.YthpbheemjajegaaCfg
import Derived.Test.YthpbheemjajegaaM5
import Derived.ProofKit
namespace Go.Proofs.Ythpbheemjajegaa
open Go.Eng
set_option linter.unusedVariables false
set_option maxRecDepth 100000
def sp32 : List LSpec × List Nat := ([{ id := 3200, known := true, toks := [], items := [.slot 3 (.val (.int .i64)), .slot 4 (.val (.int .i64))], junk := [5, 6, 7, 10, 11, 8, 9], tails := [] }], [])
def sp35 : List LSpec × List Nat := ([{ id := 3500, known := true, toks := [], items := [.slot 18 (.val (.int .i64)), .cells 1000008 [.val (.int .i64)]], junk := [19, 20, 21, 11, 22, 23, 24, 25, 6, 7, 26], tails := [] }], [])
def sp37 : List LSpec × List Nat := ([{ id := 3700, known := true, toks := [(0, (.int .u8))], items := [.slot 0 (.slt (.int .u8) (some 1000000) false), .slot 9 (.val (.int .i64))], junk := [10, 11, 7, 12, 13, 14, 15, 16, 17, 18, 19, 20], tails := [(1000000, 0)] }], [])
def sp21 : List LSpec × List Nat := ([{ id := 2100, known := true, toks := [(8, (.int .u8))], items := [.slot 8 (.slt (.int .u8) (some 1000008) false), .slot 28 (.val (.int .i64))], junk := [29, 30, 31, 32, 9, 10, 33, 34, 35, 36, 37, 38, 39, 4, 5, 40, 41, 42, 43, 44, 45, 46, 47], tails := [(1000008, 8)] }], [])
def sp41 : List LSpec × List Nat := ([{ id := 4100, known := true, toks := [(6, (.int .u8))], items := [.slot 6 (.slt (.int .u8) (some 1000006) false), .slot 0 (.val (.int .u64)), .slot 7 (.val (.int .i64))], junk := [8, 9, 10, 13, 14, 15, 16, 17, 18, 19, 20, 11, 12], tails := [(1000006, 6)] }], [])
def sp39 : List LSpec × List Nat := ([{ id := 3900, known := true, toks := [], items := [.slot 10 (.val (.int .i64)), .slot 32 (.val (.int .i64)), .vec 1000009 (.list (.int .u8))], junk := [33, 34, 35, 36, 11, 12, 37, 38, 39, 40, 41, 42, 43, 44, 45, 46, 47, 48, 49, 50, 51, 52], tails := [] }], [])
def sp40 : List LSpec × List Nat := ([{ id := 4000, known := true, toks := [], items := [.slot 3 (.val (.int .u64)), .slot 7 (.val (.int .i64))], junk := [8, 9, 4, 10, 11, 12, 13, 14, 15, 16, 17, 18, 19, 20], tails := [] }], [])
def sp24 : List LSpec × List Nat := ([{ id := 2400, known := true, toks := [], items := [.slot 35 (.val (.int .i64)), .vec 1000010 (.int .u64)], junk := [36, 37, 38, 39, 11, 12, 40, 41, 42, 43, 44, 45], tails := [] }], [])
def sp7 : List LSpec × List Nat := ([{ id := 700, known := true, toks := [], items := [.slot 11 (.val (.int .i64)), .vec 1000010 (.int .i64)], junk := [43, 44, 45, 49, 50, 51, 52, 53, 54, 48, 55, 56, 12, 13, 57, 58, 59, 60, 61, 62, 63, 64, 65, 66, 67, 68, 69, 70, 71, 72, 73, 74, 4, 75, 76, 77, 78, 79, 80, 46, 47], tails := [] }], [])
def spt : Tab (List LSpec × List Nat) := (.node (.node (.node (.node .leaf (some sp7) (.node (.node .leaf (some sp39) .leaf) none .leaf)) none (.node (.node (.node .leaf (some sp35) .leaf) none .leaf) none .leaf)) none (.node (.node .leaf none (.node (.node .leaf (some sp41) .leaf) none .leaf)) none (.node (.node (.node .leaf (some sp37) .leaf) (some sp21) .leaf) none .leaf))) none (.node (.node (.node (.node (.node .leaf (some sp32) .leaf) none .leaf) none (.node (.node .leaf (some sp40) .leaf) (some sp24) .leaf)) none .leaf) none .leaf))
def spf (f : Nat) : List LSpec × List Nat := (spt.get f).getD ([], [])

/-- thimblerig/geo.Check -/
noncomputable def geo_Check (d0 : Int) : Option (Int) :=
 (bif (Dat.ilt d0 1) then some 2
 else (bif (Dat.pickB false true (Dat.igt d0 6)) then some 2
 else some 0))
noncomputable def p_geo_Check : PFn := { args := [(.int .i64)], res := [(.int .i64)], fn := geo_Check }
theorem pd_geo_Check : PureD Try.prog cfg 33 p_geo_Check := fnD spf (l := []) cfgOk rfl .nil (fun d => by kernel_rfl)

/-- thimblerig/geo.Leaves -/
noncomputable def geo_Leaves (d0 : Int) : Option ((Int) × (Int)) :=
 Dat.bind (geo_Check d0) fun (x1 : Int) =>
 (bif (Dat.ine x1 0) then some (0, x1)
 else if (Dat.Neg d0) then none
 else Dat.bnd (Dat.shl .i64 1 d0) fun (x4 : Int) =>
 some (x4, 0))
noncomputable def p_geo_Leaves : PFn := { args := [(.int .i64)], res := [(.int .i64), (.int .i64)], fn := geo_Leaves }
theorem pd_geo_Leaves : PureD Try.prog cfg 20 p_geo_Leaves := fnD spf (l := [(33, p_geo_Check)]) cfgOk rfl (.cons pd_geo_Check .nil) (fun d => by kernel_rfl)

/-- thimblerig/entry.Leaf -/
noncomputable def entry_Leaf (d0 : (Int) × (Int)) : Option ((Int) × (Int)) :=
 Dat.bind (geo_Leaves d0.1) fun (x1 : (Int) × (Int)) =>
 (bif (Dat.ine x1.2 0) then some (0, x1.2)
 else Dat.bnd (Dat.wrap .u64 d0.2) fun (x2 : Int) =>
 Dat.bnd (Dat.wrap .u64 x1.1) fun (x3 : Int) =>
 if (Dat.IsZ x3) then none
 else Dat.bnd (Dat.tmod x2 x3) fun (x6 : Int) =>
 Dat.bnd (Dat.wrap .i64 x6) fun (x7 : Int) =>
 some (x7, 0))
noncomputable def p_entry_Leaf : PFn := { args := [(.int .i64), (.int .u32)], res := [(.int .i64), (.int .i64)], fn := entry_Leaf }
theorem pd_entry_Leaf : PureD Try.prog cfg 13 p_entry_Leaf := fnD spf (l := [(20, p_geo_Leaves)]) cfgOk rfl (.cons pd_geo_Leaves .nil) (fun d => by kernel_rfl)

/-- thimblerig/thimblerigref07.May -/
noncomputable def ref07_May (d0 : Int) : Option (Bool) :=
 (bif (Dat.ige d0 1) then some (Dat.pickB true (Dat.ile d0 6) false)
 else some false)
noncomputable def p_ref07_May : PFn := { args := [(.int .i64)], res := [.bool], fn := ref07_May }
theorem pd_ref07_May : PureD Try.prog cfg 26 p_ref07_May := fnD spf (l := []) cfgOk rfl .nil (fun d => by kernel_rfl)

/-- thimblerig/thimblerigref07.Many -/
noncomputable def ref07_Many (d0 : Int) : Option (Int) :=
 Dat.loop (fun (s1 : (Int) × (Int)) k2 =>
 (bif (Dat.ilt s1.2 d0) then Dat.bnd (Dat.wrap .i64 (Dat.mul 2 s1.1)) fun (x3 : Int) =>
 Dat.bnd (Dat.wrap .i64 (Dat.add s1.2 1)) fun (x4 : Int) =>
 k2 (x3, x4)
 else some s1.1)) (1, 0)
noncomputable def p_ref07_Many : PFn := { args := [(.int .i64)], res := [(.int .i64)], fn := ref07_Many }
theorem pd_ref07_Many : PureD Try.prog cfg 32 p_ref07_Many := fnD spf (l := []) cfgOk rfl .nil (fun d => by kernel_rfl)

/-- thimblerig/thimblerigref19.Of -/
noncomputable def ref19_Of (d0 : (Int) × (Int)) : Option (Int) :=
 Dat.bnd (Dat.wrap .i64 d0.2) fun (x1 : Int) =>
 Dat.bind (ref07_Many d0.1) fun (x2 : Int) =>
 if (Dat.IsZ x2) then none
 else Dat.bnd (Dat.tmod x1 x2) fun (x5 : Int) =>
 some x5
noncomputable def p_ref19_Of : PFn := { args := [(.int .i64), (.int .u32)], res := [(.int .i64)], fn := ref19_Of }
theorem pd_ref19_Of : PureD Try.prog cfg 27 p_ref19_Of := fnD spf (l := [(32, p_ref07_Many)]) cfgOk rfl (.cons pd_ref07_Many .nil) (fun d => by kernel_rfl)

/-- thimblerig/thimblerigref19.Leaf -/
noncomputable def ref19_Leaf (d0 : (Int) × (Int)) : Option ((Int) × (Int)) :=
 Dat.bind (ref07_May d0.1) fun (x1 : Bool) =>
 (bif (Dat.bnot x1) then some (0, 2)
 else Dat.bind (ref19_Of (d0.1, d0.2)) fun (x2 : Int) =>
 some (x2, 0))
noncomputable def p_ref19_Leaf : PFn := { args := [(.int .i64), (.int .u32)], res := [(.int .i64), (.int .i64)], fn := ref19_Leaf }
theorem pd_ref19_Leaf : PureD Try.prog cfg 14 p_ref19_Leaf := fnD spf (l := [(26, p_ref07_May), (27, p_ref19_Of)]) cfgOk rfl (.cons pd_ref07_May (.cons pd_ref19_Of .nil)) (fun d => by kernel_rfl)

/-- thimblerig/entry.Check -/
noncomputable def entry_Check (d0 : (Int) × (Int)) : Option (Int) :=
 Dat.bind (geo_Leaves d0.1) fun (x1 : (Int) × (Int)) =>
 (bif (Dat.ine x1.2 0) then (bif (Dat.ine x1.2 0) then some x1.2
 else Dat.bnd (Dat.wrap .u64 d0.2) fun (x2 : Int) =>
 none)
 else (bif (Dat.ine 0 0) then some 0
 else Dat.bnd (Dat.wrap .u64 d0.2) fun (x3 : Int) =>
 (bif (Dat.ieq x3 0) then (bif (Dat.bnot true) then some 8
 else some 0)
 else Dat.bnd (Dat.wrap .i64 (Dat.add 1 x1.1)) fun (x4 : Int) =>
 Dat.bnd (Dat.wrap .u64 x4) fun (x5 : Int) =>
 (bif (Dat.bnot (Dat.pickB false true (Dat.ilt x3 x5))) then some 8
 else some 0))))
noncomputable def p_entry_Check : PFn := { args := [(.int .i64), (.int .i64)], res := [(.int .i64)], fn := entry_Check }
theorem pd_entry_Check : PureD Try.prog cfg 12 p_entry_Check := fnD spf (l := [(20, p_geo_Leaves)]) cfgOk rfl (.cons pd_geo_Leaves .nil) (fun d => by kernel_rfl)

/-- thimblerig/num.together -/
noncomputable def num_together (d0 : (List (Int)) × ((Int) × (Int))) : Option ((Int) × (Int)) :=
 (bif (Dat.igt (Dat.ofN (Dat.len d0.1)) 64) then some (0, 2)
 else Dat.loop (fun (s1 : (Int) × (Int)) k2 =>
 (bif (Dat.ilt s1.1 (Dat.ofN (Dat.len d0.1))) then if (Dat.Ix s1.1 (Dat.len d0.1)) then Dat.bnd (Dat.get d0.1 (Dat.toN s1.1) 0) fun (x5 : Int) =>
 (bif (Dat.ilt x5 d0.2.1) then (bif (Dat.bnot false) then some (0, 2)
 else Dat.bnd (Dat.wrap .i64 (Dat.add s1.1 1)) fun (x6 : Int) =>
 k2 (x6, s1.2))
 else (bif (Dat.pickB false true (Dat.igt x5 d0.2.2)) then (bif (Dat.bnot false) then some (0, 2)
 else Dat.bnd (Dat.wrap .i64 (Dat.add s1.1 1)) fun (x7 : Int) =>
 k2 (x7, s1.2))
 else Dat.bnd (Dat.wrap .i64 (Dat.add s1.2 x5)) fun (x8 : Int) =>
 (bif (Dat.bnot (Dat.ile x8 65536)) then some (0, 2)
 else Dat.bnd (Dat.wrap .i64 (Dat.add s1.1 1)) fun (x9 : Int) =>
 k2 (x9, x8))))
 else none
 else some (s1.2, 0))) (0, 0))
noncomputable def p_num_together : PFn := { args := [(.list (.int .i64)), (.int .i64), (.int .i64)], res := [(.int .i64), (.int .i64)], fn := num_together }
theorem pd_num_together : PureD Try.prog cfg 35 p_num_together := fnD spf (l := []) cfgOk rfl .nil (fun d => by kernel_rfl)

/-- thimblerig/num.fits -/
noncomputable def num_fits (d0 : (Int) × (Int)) : Option (Bool) :=
 (bif (Dat.ige d0.2 8) then some true
 else Dat.bnd (Dat.wrap .i64 (Dat.mul 8 d0.2)) fun (x1 : Int) =>
 if (Dat.Neg x1) then none
 else Dat.bnd (Dat.shr .u64 d0.1 x1) fun (x4 : Int) =>
 some (Dat.pickB false true (Dat.ieq x4 0)))
noncomputable def p_num_fits : PFn := { args := [(.int .u64), (.int .i64)], res := [.bool], fn := num_fits }
theorem pd_num_fits : PureD Try.prog cfg 36 p_num_fits := fnD spf (l := []) cfgOk rfl .nil (fun d => by kernel_rfl)

/-- thimblerig/num.Put -/
noncomputable def num_Put (d0 : (List (Int)) × (List (Int))) : Option ((List (Int)) × (Int)) :=
 Dat.bind (num_together (d0.2, (1, 8))) fun (x1 : (Int) × (Int)) =>
 (bif (Dat.ine x1.2 0) then some (([] : List (Int)), x1.2)
 else (bif (Dat.ine (Dat.ofN (Dat.len d0.1)) (Dat.ofN (Dat.len d0.2))) then some (([] : List (Int)), 2)
 else if (Dat.MkOk 0 x1.1 1) then if (Dat.EqN (Dat.toN 0) 0) then if (Dat.EqN 0 (Dat.len ([] : List (Int)))) then Dat.loop (fun (s8 : (List (Int)) × (Int)) k9 =>
 (bif (Dat.ilt s8.2 (Dat.ofN (Dat.len d0.2))) then if (Dat.Ix s8.2 (Dat.len d0.2)) then Dat.bnd (Dat.get d0.2 (Dat.toN s8.2) 0) fun (x12 : Int) =>
 if (Dat.Ix s8.2 (Dat.len d0.1)) then Dat.bnd (Dat.get d0.1 (Dat.toN s8.2) 0) fun (x15 : Int) =>
 Dat.bind (num_fits (x15, x12)) fun (x16 : Bool) =>
 (bif (Dat.bnot x16) then some (([] : List (Int)), 4)
 else if (Dat.Ix s8.2 (Dat.len d0.1)) then Dat.bnd (Dat.get d0.1 (Dat.toN s8.2) 0) fun (x19 : Int) =>
 if (Dat.EqN (Dat.len s8.1) (Dat.len s8.1)) then Dat.loop (fun (s22 : (List (Int)) × (Int)) k23 =>
 (bif (Dat.ilt s22.2 x12) then Dat.bnd (Dat.wrap .i64 (Dat.mul 8 s22.2)) fun (x24 : Int) =>
 if (Dat.Neg x24) then none
 else Dat.bnd (Dat.shr .u64 x19 x24) fun (x27 : Int) =>
 Dat.bnd (Dat.wrap .u8 x27) fun (x28 : Int) =>
 if (Dat.Le (Dat.addN 0 1) (Dat.len (x28 :: ([] : List (Int))))) then if (Dat.Big (Dat.len s22.1) (Dat.len (Dat.seg (x28 :: ([] : List (Int))) 0 1)) 1) then none
 else if (Dat.EqN (Dat.len s22.1) (Dat.len s22.1)) then Dat.bnd (Dat.app s22.1 (Dat.seg (x28 :: ([] : List (Int))) 0 1)) fun (x35 : List (Int)) =>
 Dat.bnd (Dat.wrap .i64 (Dat.add s22.2 1)) fun (x36 : Int) =>
 if (Dat.EqN (Dat.len x35) (Dat.len x35)) then k23 (x35, x36)
 else none
 else none
 else none
 else Dat.bnd (Dat.wrap .i64 (Dat.add s8.2 1)) fun (x39 : Int) =>
 if (Dat.EqN (Dat.len s22.1) (Dat.len s22.1)) then k9 (s22.1, x39)
 else none)) (s8.1, 0)
 else none
 else none)
 else none
 else none
 else some (s8.1, 0))) (([] : List (Int)), 0)
 else none
 else none
 else none))
noncomputable def p_num_Put : PFn := { args := [(.list (.int .u64)), (.list (.int .i64))], res := [(.list (.int .u8)), (.int .i64)], fn := num_Put }
theorem pd_num_Put : PureD Try.prog cfg 21 p_num_Put := fnD spf (l := [(35, p_num_together), (36, p_num_fits)]) cfgOk rfl (.cons pd_num_together (.cons pd_num_fits .nil)) (fun d => by kernel_rfl)

/-- thimblerig/entry.Write -/
noncomputable def entry_Write (d0 : (Int) × (Int)) : Option ((List (Int)) × (Int)) :=
 Dat.bind (entry_Check (d0.1, d0.2)) fun (x1 : Int) =>
 (bif (Dat.ine x1 0) then some (([] : List (Int)), x1)
 else Dat.bnd (Dat.wrap .u64 d0.2) fun (x2 : Int) =>
 if (Dat.Le (Dat.addN 0 1) (Dat.len (x2 :: ([] : List (Int))))) then if (Dat.Le (Dat.addN 0 1) (Dat.len (4 :: ([] : List (Int))))) then Dat.bind (num_Put ((Dat.seg (x2 :: ([] : List (Int))) 0 1), (Dat.seg (4 :: ([] : List (Int))) 0 1))) fun (x7 : (List (Int)) × (Int)) =>
 some (x7.1, x7.2)
 else none
 else none)
noncomputable def p_entry_Write : PFn := { args := [(.int .i64), (.int .i64)], res := [(.list (.int .u8)), (.int .i64)], fn := entry_Write }
theorem pd_entry_Write : PureD Try.prog cfg 8 p_entry_Write := fnD spf (l := [(12, p_entry_Check), (21, p_num_Put)]) cfgOk rfl (.cons pd_entry_Check (.cons pd_num_Put .nil)) (fun d => by kernel_rfl)

/-- thimblerig/thimblerigref19.May -/
noncomputable def ref19_May (d0 : (Int) × (Int)) : Option (Bool) :=
 (bif (Dat.ige d0.2 0) then Dat.bind (ref07_Many d0.1) fun (x1 : Int) =>
 some (Dat.pickB true (Dat.ile d0.2 x1) false)
 else some false)
noncomputable def p_ref19_May : PFn := { args := [(.int .i64), (.int .i64)], res := [.bool], fn := ref19_May }
theorem pd_ref19_May : PureD Try.prog cfg 29 p_ref19_May := fnD spf (l := [(32, p_ref07_Many)]) cfgOk rfl (.cons pd_ref07_Many .nil) (fun d => by kernel_rfl)

/-- thimblerig/thimblerigref19.Check -/
noncomputable def ref19_Check (d0 : (Int) × (Int)) : Option (Int) :=
 Dat.bind (ref07_May d0.1) fun (x1 : Bool) =>
 (bif (Dat.bnot x1) then some 2
 else Dat.bind (ref19_May (d0.1, d0.2)) fun (x2 : Bool) =>
 (bif (Dat.bnot x2) then some 8
 else some 0))
noncomputable def p_ref19_Check : PFn := { args := [(.int .i64), (.int .i64)], res := [(.int .i64)], fn := ref19_Check }
theorem pd_ref19_Check : PureD Try.prog cfg 16 p_ref19_Check := fnD spf (l := [(26, p_ref07_May), (29, p_ref19_May)]) cfgOk rfl (.cons pd_ref07_May (.cons pd_ref19_May .nil)) (fun d => by kernel_rfl)

/-- thimblerig/thimblerigref01.Digits -/
noncomputable def ref01_Digits (d0 : (Int) × (Int)) : Option ((List (Int)) × (Bool)) :=
 if (Dat.EqN 0 (Dat.len ([] : List (Int)))) then Dat.loop (fun (s3 : (List (Int)) × ((Int) × (Int))) k4 =>
 (bif (Dat.ilt s3.2.2 d0.2) then if (Dat.IsZ 256) then none
 else Dat.bnd (Dat.tmod s3.2.1 256) fun (x7 : Int) =>
 Dat.bnd (Dat.wrap .u8 x7) fun (x8 : Int) =>
 if (Dat.Le (Dat.addN 0 1) (Dat.len (x8 :: ([] : List (Int))))) then if (Dat.Big (Dat.len s3.1) (Dat.len (Dat.seg (x8 :: ([] : List (Int))) 0 1)) 1) then none
 else if (Dat.EqN (Dat.len s3.1) (Dat.len s3.1)) then Dat.bnd (Dat.app s3.1 (Dat.seg (x8 :: ([] : List (Int))) 0 1)) fun (x15 : List (Int)) =>
 if (Dat.IsZ 256) then none
 else Dat.bnd (Dat.wrap .u64 (Dat.tdiv s3.2.1 256)) fun (x18 : Int) =>
 Dat.bnd (Dat.wrap .i64 (Dat.add s3.2.2 1)) fun (x19 : Int) =>
 if (Dat.EqN (Dat.len x15) (Dat.len x15)) then k4 (x15, (x18, x19))
 else none
 else none
 else none
 else some (s3.1, (Dat.ieq s3.2.1 0)))) (([] : List (Int)), (d0.1, 0))
 else none
noncomputable def p_ref01_Digits : PFn := { args := [(.int .u64), (.int .i64)], res := [(.list (.int .u8)), .bool], fn := ref01_Digits }
theorem pd_ref01_Digits : PureD Try.prog cfg 41 p_ref01_Digits := fnD spf (l := []) cfgOk rfl .nil (fun d => by kernel_rfl)

/-- thimblerig/thimblerigref19.Bytes -/
noncomputable def ref19_Bytes (d0 : Int) : Option (List (Int)) :=
 Dat.bnd (Dat.wrap .u64 d0) fun (x1 : Int) =>
 Dat.bind (ref01_Digits (x1, 4)) fun (x2 : (List (Int)) × (Bool)) =>
 some x2.1
noncomputable def p_ref19_Bytes : PFn := { args := [(.int .i64)], res := [(.list (.int .u8))], fn := ref19_Bytes }
theorem pd_ref19_Bytes : PureD Try.prog cfg 28 p_ref19_Bytes := fnD spf (l := [(41, p_ref01_Digits)]) cfgOk rfl (.cons pd_ref01_Digits .nil) (fun d => by kernel_rfl)

/-- thimblerig/thimblerigref19.Write -/
noncomputable def ref19_Write (d0 : (Int) × (Int)) : Option ((List (Int)) × (Int)) :=
 Dat.bind (ref19_Check (d0.1, d0.2)) fun (x1 : Int) =>
 (bif (Dat.ine x1 0) then some (([] : List (Int)), x1)
 else Dat.bind (ref19_Bytes d0.2) fun (x2 : List (Int)) =>
 some (x2, 0))
noncomputable def p_ref19_Write : PFn := { args := [(.int .i64), (.int .i64)], res := [(.list (.int .u8)), (.int .i64)], fn := ref19_Write }
theorem pd_ref19_Write : PureD Try.prog cfg 15 p_ref19_Write := fnD spf (l := [(16, p_ref19_Check), (28, p_ref19_Bytes)]) cfgOk rfl (.cons pd_ref19_Check (.cons pd_ref19_Bytes .nil)) (fun d => by kernel_rfl)

/-- thimblerig/thimblerigref01.Same -/
noncomputable def ref01_Same (d0 : (List (Int)) × (List (Int))) : Option (Bool) :=
 Dat.bnd (Dat.str d0.1) fun (x1 : List (UInt8)) =>
 Dat.bnd (Dat.str d0.2) fun (x2 : List (UInt8)) =>
 some (Dat.seq x1 x2)
noncomputable def p_ref01_Same : PFn := { args := [(.list (.int .u8)), (.list (.int .u8))], res := [.bool], fn := ref01_Same }
theorem pd_ref01_Same : PureD Try.prog cfg 11 p_ref01_Same := fnD spf (l := []) cfgOk rfl .nil (fun d => by kernel_rfl)

/-- thimblerig/thimbleriglaw19.EntryTells -/
noncomputable def law19_EntryTells (d0 : (Int) × ((Int) × (Int))) : Option (Bool) :=
 Dat.bind (entry_Leaf (d0.1, d0.2.1)) fun (x1 : (Int) × (Int)) =>
 Dat.bind (ref19_Leaf (d0.1, d0.2.1)) fun (x2 : (Int) × (Int)) =>
 Dat.bind (entry_Write (d0.1, d0.2.2)) fun (x3 : (List (Int)) × (Int)) =>
 Dat.bind (ref19_Write (d0.1, d0.2.2)) fun (x4 : (List (Int)) × (Int)) =>
 (bif (Dat.ieq x1.1 x2.1) then (bif (Dat.pickB true (Dat.ieq x1.2 x2.2) false) then Dat.bind (ref01_Same (x3.1, x4.1)) fun (x5 : Bool) =>
 (bif (Dat.pickB true x5 false) then (bif (Dat.pickB true (Dat.ieq x3.2 x4.2) false) then Dat.bind (entry_Check (d0.1, d0.2.2)) fun (x6 : Int) =>
 Dat.bind (ref19_Check (d0.1, d0.2.2)) fun (x7 : Int) =>
 some (Dat.pickB true (Dat.ieq x6 x7) false)
 else some false)
 else some false)
 else some false)
 else some false)
noncomputable def p_law19_EntryTells : PFn := { args := [(.int .i64), (.int .u32), (.int .i64)], res := [.bool], fn := law19_EntryTells }
theorem pd_law19_EntryTells : PureD Try.prog cfg 4 p_law19_EntryTells := fnD spf (l := [(13, p_entry_Leaf), (14, p_ref19_Leaf), (8, p_entry_Write), (15, p_ref19_Write), (11, p_ref01_Same), (12, p_entry_Check), (16, p_ref19_Check)]) cfgOk rfl (.cons pd_entry_Leaf (.cons pd_ref19_Leaf (.cons pd_entry_Write (.cons pd_ref19_Write (.cons pd_ref01_Same (.cons pd_entry_Check (.cons pd_ref19_Check .nil))))))) (fun d => by kernel_rfl)

/-- thimblerig/entry.isPlace -/
noncomputable def entry_isPlace (d0 : (List (Int)) × (Int)) : Option (Bool) :=
 if (Dat.IsZ 4) then none
 else Dat.bnd (Dat.wrap .i64 (Dat.tdiv (Dat.ofN (Dat.len d0.1)) 4)) fun (x3 : Int) =>
 if (Dat.IsZ 4) then none
 else Dat.bnd (Dat.tmod (Dat.ofN (Dat.len d0.1)) 4) fun (x6 : Int) =>
 (bif (Dat.ieq x6 0) then (bif (Dat.pickB true (Dat.ige x3 2) false) then (bif (Dat.pickB true (Dat.ile x3 8) false) then (bif (Dat.pickB true (Dat.ige d0.2 0) false) then some (Dat.pickB true (Dat.ilt d0.2 x3) false)
 else some false)
 else some false)
 else some false)
 else some false)
noncomputable def p_entry_isPlace : PFn := { args := [(.list (.int .u8)), (.int .i64)], res := [.bool], fn := entry_isPlace }
theorem pd_entry_isPlace : PureD Try.prog cfg 23 p_entry_isPlace := fnD spf (l := []) cfgOk rfl .nil (fun d => by kernel_rfl)

/-- slices.Clone(()byte,byte) -/
noncomputable def slices_Clone_byte_byte (d0 : List (Int)) : Option (List (Int)) :=
 if (Dat.Le (Dat.addN 0 0) (Dat.len ([] : List (Int)))) then if (Dat.Big (Dat.len (Dat.seg ([] : List (Int)) 0 0)) (Dat.len d0) 1) then none
 else Dat.bnd (Dat.app (Dat.seg ([] : List (Int)) 0 0) d0) fun (x5 : List (Int)) =>
 some x5
 else none
noncomputable def p_slices_Clone_byte_byte : PFn := { args := [(.list (.int .u8))], res := [(.list (.int .u8))], fn := slices_Clone_byte_byte }
noncomputable def cx34 : CloneX Try.prog cfg 34 5 (.int .u8) := clx xf34 5 (xf34.body.cOps.getD 0 ⟨none, .move (.tmp 0), 0, "", #[], none⟩) (xf34.body.cOps.getD 1 ⟨none, .move (.tmp 0), 0, "", #[], none⟩) (by kernel_rfl) (by kernel_rfl) (by kernel_rfl) (by kernel_rfl) (by kernel_rfl) (by kernel_rfl) (by kernel_rfl) (by kernel_rfl) (by kernel_rfl)
theorem pd_slices_Clone_byte_byte : PureD Try.prog cfg 34 p_slices_Clone_byte_byte := cloneD spf cfgOk rfl cx34 (of_decide_eq_true (by kernel_rfl)) (by kernel_rfl) (by kernel_rfl) (by kernel_rfl) (fun d => by kernel_rfl) (fun d => by kernel_rfl) (by kernel_rfl) (fun d r h => by
  unfold slices_Clone_byte_byte at h
  split at h
  · split at h
    · cases h
    · have h1 : some d = some r := h
      exact (Option.some.inj h1).symm
  · cases h)

/-- thimblerig/entry.at -/
noncomputable def entry_at (d0 : (List (Int)) × (Int)) : Option (List (Int)) :=
 Dat.bnd (Dat.wrap .i64 (Dat.mul d0.2 4)) fun (x1 : Int) =>
 Dat.bnd (Dat.wrap .i64 (Dat.add x1 4)) fun (x2 : Int) =>
 Dat.bnd (Dat.wrap .i64 (Dat.add x1 4)) fun (x3 : Int) =>
 if (Dat.Bd x3 (Dat.len d0.1)) then if (Dat.Bd x2 (Dat.toN x3)) then if (Dat.Bd x1 (Dat.toN x2)) then Dat.bnd (Dat.slice d0.1 (Dat.toN x1) (Dat.toN x2)) fun (x10 : List (Int)) =>
 some x10
 else none
 else none
 else none
noncomputable def p_entry_at : PFn := { args := [(.list (.int .u8)), (.int .i64)], res := [(.list (.int .u8))], fn := entry_at }
theorem pd_entry_at : PureD Try.prog cfg 25 p_entry_at := fnD spf (l := []) cfgOk rfl .nil (fun d => by kernel_rfl)

/-- thimblerig/entry.Put -/
noncomputable def entry_Put (d0 : (Int) × ((List (Int)) × ((Int) × (Int)))) : Option ((List (Int)) × (Int)) :=
 Dat.bind (geo_Check d0.1) fun (x1 : Int) =>
 (bif (Dat.ine x1 0) then some (([] : List (Int)), 2)
 else Dat.bind (entry_isPlace (d0.2.1, d0.2.2.1)) fun (x2 : Bool) =>
 (bif (Dat.pickB false true (Dat.bnot x2)) then some (([] : List (Int)), 2)
 else Dat.bind (entry_Write (d0.1, d0.2.2.2)) fun (x3 : (List (Int)) × (Int)) =>
 (bif (Dat.ine x3.2 0) then some (([] : List (Int)), x3.2)
 else Dat.bind (slices_Clone_byte_byte d0.2.1) fun (x4 : List (Int)) =>
 Dat.bind (entry_at (x4, d0.2.2.1)) fun (x5 : List (Int)) =>
 none)))
noncomputable def p_entry_Put : PFn := { args := [(.int .i64), (.list (.int .u8)), (.int .i64), (.int .i64)], res := [(.list (.int .u8)), (.int .i64)], fn := entry_Put }
theorem pd_entry_Put : PureD Try.prog cfg 18 p_entry_Put := fnD spf (l := [(33, p_geo_Check), (23, p_entry_isPlace), (8, p_entry_Write), (34, p_slices_Clone_byte_byte), (25, p_entry_at)]) cfgOk rfl (.cons pd_geo_Check (.cons pd_entry_isPlace (.cons pd_entry_Write (.cons pd_slices_Clone_byte_byte (.cons pd_entry_at .nil))))) (fun d => by kernel_rfl)

/-- thimblerig/num.Size -/
noncomputable def num_Size (d0 : List (Int)) : Option ((Int) × (Int)) :=
 Dat.bind (num_together (d0, (0, 65536))) fun (x1 : (Int) × (Int)) =>
 some (x1.1, x1.2)
noncomputable def p_num_Size : PFn := { args := [(.list (.int .i64))], res := [(.int .i64), (.int .i64)], fn := num_Size }
theorem pd_num_Size : PureD Try.prog cfg 43 p_num_Size := fnD spf (l := [(35, p_num_together)]) cfgOk rfl (.cons pd_num_together .nil) (fun d => by kernel_rfl)

/-- thimblerig/num.Cut -/
noncomputable def num_Cut (d0 : (List (Int)) × (List (Int))) : Option ((List (List (Int))) × (Int)) :=
 Dat.bind (num_Size d0.2) fun (x1 : (Int) × (Int)) =>
 (bif (Dat.ine x1.2 0) then some (([] : List (List (Int))), x1.2)
 else (bif (Dat.ine (Dat.ofN (Dat.len d0.1)) x1.1) then some (([] : List (List (Int))), 10)
 else Dat.bind (slices_Clone_byte_byte d0.1) fun (x2 : List (Int)) =>
 if (Dat.MkOk (Dat.ofN (Dat.len d0.2)) (Dat.ofN (Dat.len d0.2)) 24) then Dat.loop (fun (s5 : (Int) × ((Int) × (List (List (Int))))) k6 =>
 (bif (Dat.ilt s5.2.1 (Dat.ofN (Dat.len d0.2))) then if (Dat.Ix s5.2.1 (Dat.len d0.2)) then Dat.bnd (Dat.get d0.2 (Dat.toN s5.2.1) 0) fun (x9 : Int) =>
 Dat.bnd (Dat.wrap .i64 (Dat.add s5.1 x9)) fun (x10 : Int) =>
 Dat.bnd (Dat.wrap .i64 (Dat.add s5.1 x9)) fun (x11 : Int) =>
 if (Dat.Bd x11 (Dat.len x2)) then if (Dat.Bd x10 (Dat.toN x11)) then if (Dat.Bd s5.1 (Dat.toN x10)) then Dat.bnd (Dat.slice x2 (Dat.toN s5.1) (Dat.toN x10)) fun (x18 : List (Int)) =>
 if (Dat.In s5.2.1 (Dat.toN (Dat.ofN (Dat.len d0.2)))) then if (Dat.Lt (Dat.addN 0 (Dat.toN s5.2.1)) (Dat.len s5.2.2)) then Dat.bnd (Dat.set s5.2.2 (Dat.addN 0 (Dat.toN s5.2.1)) x18) fun (x23 : List (List (Int))) =>
 Dat.bnd (Dat.wrap .i64 (Dat.add s5.1 x9)) fun (x24 : Int) =>
 Dat.bnd (Dat.wrap .i64 (Dat.add s5.2.1 1)) fun (x25 : Int) =>
 k6 (x24, (x25, x23))
 else none
 else none
 else none
 else none
 else none
 else none
 else if (Dat.Le (Dat.addN 0 (Dat.toN (Dat.ofN (Dat.len d0.2)))) (Dat.len s5.2.2)) then some ((Dat.seg s5.2.2 0 (Dat.toN (Dat.ofN (Dat.len d0.2)))), 0)
 else none)) (0, (0, (Dat.rep (Dat.toN (Dat.ofN (Dat.len d0.2))) ([] : List (Int)))))
 else none))
noncomputable def p_num_Cut : PFn := { args := [(.list (.int .u8)), (.list (.int .i64))], res := [(.list (.list (.int .u8))), (.int .i64)], fn := num_Cut }
theorem pd_num_Cut : PureD Try.prog cfg 39 p_num_Cut := fnD spf (l := [(43, p_num_Size), (34, p_slices_Clone_byte_byte)]) cfgOk rfl (.cons pd_num_Size (.cons pd_slices_Clone_byte_byte .nil)) (fun d => by kernel_rfl)

/-- thimblerig/num.shiftTogether -/
noncomputable def num_shiftTogether (d0 : List (Int)) : Option (Int) :=
 Dat.loop (fun (s1 : (Int) × (Int)) k2 =>
 (bif (Dat.ilt s1.2 (Dat.ofN (Dat.len d0))) then if (Dat.Ix s1.2 (Dat.len d0)) then Dat.bnd (Dat.get d0 (Dat.toN s1.2) 0) fun (x5 : Int) =>
 Dat.bnd (Dat.wrap .u64 x5) fun (x6 : Int) =>
 Dat.bnd (Dat.wrap .i64 (Dat.mul 8 s1.2)) fun (x7 : Int) =>
 if (Dat.Neg x7) then none
 else Dat.bnd (Dat.shl .u64 x6 x7) fun (x10 : Int) =>
 Dat.bnd (Dat.bor .u64 s1.1 x10) fun (x11 : Int) =>
 Dat.bnd (Dat.wrap .i64 (Dat.add s1.2 1)) fun (x12 : Int) =>
 k2 (x11, x12)
 else none
 else some s1.1)) (0, 0)
noncomputable def p_num_shiftTogether : PFn := { args := [(.list (.int .u8))], res := [(.int .u64)], fn := num_shiftTogether }
theorem pd_num_shiftTogether : PureD Try.prog cfg 40 p_num_shiftTogether := fnD spf (l := []) cfgOk rfl .nil (fun d => by kernel_rfl)

/-- thimblerig/num.Take -/
noncomputable def num_Take (d0 : (List (Int)) × (List (Int))) : Option ((List (Int)) × (Int)) :=
 Dat.bind (num_together (d0.2, (1, 8))) fun (x1 : (Int) × (Int)) =>
 (bif (Dat.ine x1.2 0) then some (([] : List (Int)), x1.2)
 else Dat.bind (num_Cut (d0.1, d0.2)) fun (x2 : (List (List (Int))) × (Int)) =>
 (bif (Dat.ine x2.2 0) then some (([] : List (Int)), x2.2)
 else if (Dat.MkOk (Dat.ofN (Dat.len x2.1)) (Dat.ofN (Dat.len x2.1)) 8) then Dat.loop (fun (s5 : (Int) × (List (Int))) k6 =>
 (bif (Dat.ilt s5.1 (Dat.ofN (Dat.len x2.1))) then if (Dat.Ix s5.1 (Dat.len x2.1)) then Dat.bnd (Dat.get x2.1 (Dat.toN s5.1) ([] : List (Int))) fun (x9 : List (Int)) =>
 Dat.bind (num_shiftTogether x9) fun (x10 : Int) =>
 if (Dat.In s5.1 (Dat.toN (Dat.ofN (Dat.len x2.1)))) then if (Dat.Lt (Dat.addN 0 (Dat.toN s5.1)) (Dat.len s5.2)) then Dat.bnd (Dat.set s5.2 (Dat.addN 0 (Dat.toN s5.1)) x10) fun (x15 : List (Int)) =>
 Dat.bnd (Dat.wrap .i64 (Dat.add s5.1 1)) fun (x16 : Int) =>
 k6 (x16, x15)
 else none
 else none
 else none
 else if (Dat.Le (Dat.addN 0 (Dat.toN (Dat.ofN (Dat.len x2.1)))) (Dat.len s5.2)) then some ((Dat.seg s5.2 0 (Dat.toN (Dat.ofN (Dat.len x2.1)))), 0)
 else none)) (0, (Dat.rep (Dat.toN (Dat.ofN (Dat.len x2.1))) 0))
 else none))
noncomputable def p_num_Take : PFn := { args := [(.list (.int .u8)), (.list (.int .i64))], res := [(.list (.int .u64)), (.int .i64)], fn := num_Take }
theorem pd_num_Take : PureD Try.prog cfg 24 p_num_Take := fnD spf (l := [(35, p_num_together), (39, p_num_Cut), (40, p_num_shiftTogether)]) cfgOk rfl (.cons pd_num_together (.cons pd_num_Cut (.cons pd_num_shiftTogether .nil))) (fun d => by kernel_rfl)

/-- thimblerig/entry.Read -/
noncomputable def entry_Read (d0 : (Int) × ((List (Int)) × (Int))) : Option ((Int) × (Int)) :=
 Dat.bind (geo_Leaves d0.1) fun (x1 : (Int) × (Int)) =>
 (bif (Dat.ine x1.2 0) then (bif (Dat.ine x1.2 0) then some (0, 2)
 else Dat.bind (entry_isPlace (d0.2.1, d0.2.2)) fun (x2 : Bool) =>
 (bif (Dat.pickB false true (Dat.bnot x2)) then some (0, 2)
 else Dat.bind (entry_at (d0.2.1, d0.2.2)) fun (x3 : List (Int)) =>
 if (Dat.Le (Dat.addN 0 1) (Dat.len (4 :: ([] : List (Int))))) then Dat.bind (num_Take (x3, (Dat.seg (4 :: ([] : List (Int))) 0 1))) fun (x6 : (List (Int)) × (Int)) =>
 (bif (Dat.ine x6.2 0) then some (0, x6.2)
 else if (Dat.Ix 0 (Dat.len x6.1)) then Dat.bnd (Dat.get x6.1 (Dat.toN 0) 0) fun (x9 : Int) =>
 none
 else none)
 else none))
 else (bif (Dat.ine 0 0) then some (0, 2)
 else Dat.bind (entry_isPlace (d0.2.1, d0.2.2)) fun (x10 : Bool) =>
 (bif (Dat.pickB false true (Dat.bnot x10)) then some (0, 2)
 else Dat.bind (entry_at (d0.2.1, d0.2.2)) fun (x11 : List (Int)) =>
 if (Dat.Le (Dat.addN 0 1) (Dat.len (4 :: ([] : List (Int))))) then Dat.bind (num_Take (x11, (Dat.seg (4 :: ([] : List (Int))) 0 1))) fun (x14 : (List (Int)) × (Int)) =>
 (bif (Dat.ine x14.2 0) then some (0, x14.2)
 else if (Dat.Ix 0 (Dat.len x14.1)) then Dat.bnd (Dat.get x14.1 (Dat.toN 0) 0) fun (x17 : Int) =>
 (bif (Dat.ieq x17 0) then (bif (Dat.bnot true) then some (0, 8)
 else if (Dat.Ix 0 (Dat.len x14.1)) then Dat.bnd (Dat.get x14.1 (Dat.toN 0) 0) fun (x20 : Int) =>
 Dat.bnd (Dat.wrap .i64 x20) fun (x21 : Int) =>
 some (x21, 0)
 else none)
 else Dat.bnd (Dat.wrap .i64 (Dat.add 1 x1.1)) fun (x22 : Int) =>
 Dat.bnd (Dat.wrap .u64 x22) fun (x23 : Int) =>
 (bif (Dat.bnot (Dat.pickB false true (Dat.ilt x17 x23))) then some (0, 8)
 else if (Dat.Ix 0 (Dat.len x14.1)) then Dat.bnd (Dat.get x14.1 (Dat.toN 0) 0) fun (x26 : Int) =>
 Dat.bnd (Dat.wrap .i64 x26) fun (x27 : Int) =>
 some (x27, 0)
 else none))
 else none)
 else none)))
noncomputable def p_entry_Read : PFn := { args := [(.int .i64), (.list (.int .u8)), (.int .i64)], res := [(.int .i64), (.int .i64)], fn := entry_Read }
theorem pd_entry_Read : PureD Try.prog cfg 9 p_entry_Read := fnD spf (l := [(20, p_geo_Leaves), (23, p_entry_isPlace), (25, p_entry_at), (24, p_num_Take)]) cfgOk rfl (.cons pd_geo_Leaves (.cons pd_entry_isPlace (.cons pd_entry_at (.cons pd_num_Take .nil)))) (fun d => by kernel_rfl)

/-- thimblerig/thimbleriglaw19.alive -/
noncomputable def law19_alive (d0 : Unit) : Option (Bool) := some true
noncomputable def p_law19_alive : PFn := { args := [], res := [.bool], fn := law19_alive }
theorem pd_law19_alive : PureD Try.prog cfg 10 p_law19_alive := closedD (n := 4000) cfgOk (by kernel_rfl)

/-- thimblerig/thimbleriglaw19.EntryFair -/
noncomputable def law19_EntryFair (d0 : (Int) × (Int)) : Option (Bool) :=
 Dat.bind (law19_alive ()) fun (x1 : Bool) =>
 Dat.bind (geo_Leaves d0.1) fun (x2 : (Int) × (Int)) =>
 (bif (Dat.ine x2.2 0) then Dat.bind (entry_Leaf (d0.1, d0.2)) fun (x3 : (Int) × (Int)) =>
 (bif x1 then some (Dat.pickB true (Dat.ieq x3.2 x2.2) false)
 else some false)
 else (bif (Dat.pickB false true (Dat.igt x2.1 64)) then Dat.bind (entry_Leaf (d0.1, d0.2)) fun (x4 : (Int) × (Int)) =>
 (bif x1 then some (Dat.pickB true (Dat.ieq x4.2 x2.2) false)
 else some false)
 else (bif (Dat.pickB false true (Dat.bnot x1)) then Dat.bind (entry_Leaf (d0.1, d0.2)) fun (x5 : (Int) × (Int)) =>
 (bif x1 then some (Dat.pickB true (Dat.ieq x5.2 x2.2) false)
 else some false)
 else if (Dat.MkOk 64 64 8) then Dat.loop (fun (s8 : (Int) × (List (Int))) k9 =>
 (bif (Dat.ilt s8.1 x2.1) then Dat.bnd (Dat.wrap .u32 s8.1) fun (x10 : Int) =>
 Dat.bnd (Dat.wrap .u32 (Dat.add d0.2 x10)) fun (x11 : Int) =>
 Dat.bind (entry_Leaf (d0.1, x11)) fun (x12 : (Int) × (Int)) =>
 (bif (Dat.ine x12.2 0) then some false
 else (bif (Dat.pickB false true (Dat.ilt x12.1 0)) then some false
 else (bif (Dat.pickB false true (Dat.ige x12.1 x2.1)) then some false
 else if (Dat.In x12.1 (Dat.toN 64)) then if (Dat.Lt (Dat.addN 0 (Dat.toN x12.1)) (Dat.len s8.2)) then Dat.bnd (Dat.get s8.2 (Dat.addN 0 (Dat.toN x12.1)) 0) fun (x17 : Int) =>
 (bif (Dat.pickB false true (Dat.igt x17 0)) then some false
 else if (Dat.In x12.1 (Dat.toN 64)) then if (Dat.Lt (Dat.addN 0 (Dat.toN x12.1)) (Dat.len s8.2)) then Dat.bnd (Dat.get s8.2 (Dat.addN 0 (Dat.toN x12.1)) 0) fun (x22 : Int) =>
 Dat.bnd (Dat.wrap .i64 (Dat.add x22 1)) fun (x23 : Int) =>
 if (Dat.In x12.1 (Dat.toN 64)) then if (Dat.Lt (Dat.addN 0 (Dat.toN x12.1)) (Dat.len s8.2)) then Dat.bnd (Dat.set s8.2 (Dat.addN 0 (Dat.toN x12.1)) x23) fun (x28 : List (Int)) =>
 Dat.bnd (Dat.wrap .i64 (Dat.add s8.1 1)) fun (x29 : Int) =>
 k9 (x29, x28)
 else none
 else none
 else none
 else none)
 else none
 else none)))
 else some x1)) (0, (Dat.rep (Dat.toN 64) 0))
 else none)))
noncomputable def p_law19_EntryFair : PFn := { args := [(.int .i64), (.int .u32)], res := [.bool], fn := law19_EntryFair }
theorem pd_law19_EntryFair : PureD Try.prog cfg 7 p_law19_EntryFair := fnD spf (l := [(10, p_law19_alive), (20, p_geo_Leaves), (13, p_entry_Leaf)]) cfgOk rfl (.cons pd_law19_alive (.cons pd_geo_Leaves (.cons pd_entry_Leaf .nil))) (fun d => by kernel_rfl)
end Go.Proofs.Ythpbheemjajegaa
