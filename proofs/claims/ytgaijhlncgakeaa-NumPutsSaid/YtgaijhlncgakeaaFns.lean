/- The functions of the program, as functions on plain data. -/
import Derived.Test.YtgaijhlncgakeaaCfg
import Derived.Test.YtgaijhlncgakeaaM5
import Derived.ProofKit
namespace Go.Proofs.Ytgaijhlncgakeaa
open Go.Eng
set_option linter.unusedVariables false
set_option maxRecDepth 100000
def sp21 : List LSpec := [{ id := 2100, known := true, toks := [], items := [.slot 18 (.val (.int .i64)), .cells 1000008 [.val (.int .i64)]], junk := [19, 20, 21, 11, 22, 23, 24, 25, 6, 7, 26], tails := [] }]
def sp23 : List LSpec := [{ id := 2300, known := true, toks := [(0, (.int .u8))], items := [.slot 0 (.slt (.int .u8) (some 1000000) false), .slot 9 (.val (.int .i64))], junk := [10, 11, 7, 12, 13, 14, 15, 16, 17, 18, 19, 20], tails := [(1000000, 0)] }]
def sp8 : List LSpec := [{ id := 800, known := true, toks := [(8, (.int .u8))], items := [.slot 8 (.slt (.int .u8) (some 1000008) false), .slot 28 (.val (.int .i64))], junk := [29, 30, 31, 32, 9, 10, 33, 34, 35, 36, 37, 38, 39, 4, 5, 40, 41, 42, 43, 44, 45, 46, 47], tails := [(1000008, 8)] }]
def sp28 : List LSpec := [{ id := 2800, known := true, toks := [], items := [.slot 3 (.val (.int .i64)), .slot 4 (.val (.int .i64))], junk := [8, 9, 10, 11, 14, 15, 16, 17, 18, 19, 20, 21, 22, 23, 24, 25, 2, 26, 27, 28, 29, 30, 31, 12, 13], tails := [] }]
def sp26 : List LSpec := [{ id := 2600, known := true, toks := [], items := [.slot 3 (.val (.int .i64))], junk := [4, 5, 6, 7, 10, 11, 12, 13, 14, 15, 16, 17, 18, 19, 20, 21, 2, 8, 9], tails := [] }]
def sp27 : List LSpec := [{ id := 2700, known := true, toks := [(6, (.int .u8))], items := [.slot 6 (.slt (.int .u8) (some 1000006) false), .slot 0 (.val (.int .u64)), .slot 7 (.val (.int .i64))], junk := [8, 9, 10, 13, 14, 15, 16, 17, 18, 19, 20, 11, 12], tails := [(1000006, 6)] }]
def sp14 : List LSpec := [{ id := 1400, known := true, toks := [(6, (.int .u8))], items := [.slot 6 (.slt (.int .u8) (some 1000006) false), .slot 7 (.val (.int .i64))], junk := [20, 21, 22, 23, 27, 28, 29, 30, 31, 32, 33, 34, 35, 26, 36, 37, 8, 9, 38, 39, 4, 5, 40, 41, 42, 24, 25], tails := [(1000006, 6)] }]
def sp17 : List LSpec := [{ id := 1700, known := true, toks := [], items := [.slot 5 (.val (.int .i64))], junk := [11, 12, 13, 14, 17, 18, 19, 20, 21, 22, 23, 24, 25, 4, 15, 16], tails := [] }]
def sp18 : List LSpec := [{ id := 1800, known := true, toks := [], items := [.slot 5 (.val (.int .i64))], junk := [11, 12, 13, 14, 17, 18, 19, 20, 21, 22, 23, 24, 25, 4, 15, 16], tails := [] }]
def spt : Tab (List LSpec) := (.node (.node (.node (.node .leaf none (.node .leaf (some sp23) .leaf)) none (.node .leaf none (.node .leaf (some sp27) .leaf))) none (.node (.node (.node .leaf (some sp17) .leaf) none .leaf) none (.node (.node .leaf (some sp21) .leaf) none .leaf))) none (.node (.node (.node .leaf (some sp8) .leaf) none (.node .leaf none (.node .leaf (some sp28) .leaf))) none (.node (.node (.node .leaf (some sp18) .leaf) none (.node .leaf (some sp26) .leaf)) none (.node .leaf (some sp14) .leaf))))
def spf (f : Nat) : List LSpec := (spt.get f).getD []

/-- thimblerig/num.together -/
noncomputable def num_together (d0 : (List (Int)) × ((Int) × (Int))) : Option ((Int) × (Int)) :=
 (bif (Dat.igt (Dat.ofN (Dat.len d0.1)) 64) then some (0, 2)
 else Dat.loop (fun (s1 : (Int) × (Int)) k2 =>
 (bif (Dat.ilt s1.1 (Dat.ofN (Dat.len d0.1))) then if (Dat.Ix s1.1 (Dat.len d0.1)) then Dat.bnd (Dat.get d0.1 (Dat.toN s1.1) 0) fun (x5 : Int) =>
 (bif (Dat.ilt x5 d0.2.1) then (bif (Dat.bnot false) then some (0, 2)
 else Dat.bnd (Dat.wrap .i64 (Dat.add s1.1 1)) fun (x6 : Int) =>
 k2 (x6, s1.2))
 else (bif (Dat.pickB false true (Dat.igt x5 d0.2.2)) then (bif (Dat.bnot false) then some (0, 2)
 else Dat.bnd (Dat.wrap .i64 (Dat.add s1.1 1)) fun (x7 : Int) =>
 k2 (x7, s1.2))
 else Dat.bnd (Dat.wrap .i64 (Dat.add s1.2 x5)) fun (x8 : Int) =>
 (bif (Dat.bnot (Dat.ile x8 65536)) then some (0, 2)
 else Dat.bnd (Dat.wrap .i64 (Dat.add s1.1 1)) fun (x9 : Int) =>
 k2 (x9, x8))))
 else none
 else some (s1.2, 0))) (0, 0))
noncomputable def p_num_together : PFn := { args := [(.list (.int .i64)), (.int .i64), (.int .i64)], res := [(.int .i64), (.int .i64)], fn := num_together }
theorem pd_num_together : PureD Try.prog cfg 21 p_num_together := fnD spf (l := []) cfgOk rfl .nil (fun d => by kernel_rfl)

/-- thimblerig/num.fits -/
noncomputable def num_fits (d0 : (Int) × (Int)) : Option (Bool) :=
 (bif (Dat.ige d0.2 8) then some true
 else Dat.bnd (Dat.wrap .i64 (Dat.mul 8 d0.2)) fun (x1 : Int) =>
 if (Dat.Neg x1) then none
 else Dat.bnd (Dat.shr .u64 d0.1 x1) fun (x4 : Int) =>
 some (Dat.pickB false true (Dat.ieq x4 0)))
noncomputable def p_num_fits : PFn := { args := [(.int .u64), (.int .i64)], res := [.bool], fn := num_fits }
theorem pd_num_fits : PureD Try.prog cfg 22 p_num_fits := fnD spf (l := []) cfgOk rfl .nil (fun d => by kernel_rfl)

/-- thimblerig/num.Put -/
noncomputable def num_Put (d0 : (List (Int)) × (List (Int))) : Option ((List (Int)) × (Int)) :=
 Dat.bind (num_together (d0.2, (1, 8))) fun (x1 : (Int) × (Int)) =>
 (bif (Dat.ine x1.2 0) then some (([] : List (Int)), x1.2)
 else (bif (Dat.ine (Dat.ofN (Dat.len d0.1)) (Dat.ofN (Dat.len d0.2))) then some (([] : List (Int)), 2)
 else if (Dat.MkOk 0 x1.1 1) then if (Dat.EqN (Dat.toN 0) 0) then if (Dat.EqN 0 (Dat.len ([] : List (Int)))) then Dat.loop (fun (s8 : (List (Int)) × (Int)) k9 =>
 (bif (Dat.ilt s8.2 (Dat.ofN (Dat.len d0.2))) then if (Dat.Ix s8.2 (Dat.len d0.2)) then Dat.bnd (Dat.get d0.2 (Dat.toN s8.2) 0) fun (x12 : Int) =>
 if (Dat.Ix s8.2 (Dat.len d0.1)) then Dat.bnd (Dat.get d0.1 (Dat.toN s8.2) 0) fun (x15 : Int) =>
 Dat.bind (num_fits (x15, x12)) fun (x16 : Bool) =>
 (bif (Dat.bnot x16) then some (([] : List (Int)), 4)
 else if (Dat.Ix s8.2 (Dat.len d0.1)) then Dat.bnd (Dat.get d0.1 (Dat.toN s8.2) 0) fun (x19 : Int) =>
 if (Dat.EqN (Dat.len s8.1) (Dat.len s8.1)) then Dat.loop (fun (s22 : (List (Int)) × (Int)) k23 =>
 (bif (Dat.ilt s22.2 x12) then Dat.bnd (Dat.wrap .i64 (Dat.mul 8 s22.2)) fun (x24 : Int) =>
 if (Dat.Neg x24) then none
 else Dat.bnd (Dat.shr .u64 x19 x24) fun (x27 : Int) =>
 Dat.bnd (Dat.wrap .u8 x27) fun (x28 : Int) =>
 if (Dat.Le (Dat.addN 0 1) (Dat.len (x28 :: ([] : List (Int))))) then if (Dat.Big (Dat.len s22.1) (Dat.len (Dat.seg (x28 :: ([] : List (Int))) 0 1)) 1) then none
 else if (Dat.EqN (Dat.len s22.1) (Dat.len s22.1)) then Dat.bnd (Dat.app s22.1 (Dat.seg (x28 :: ([] : List (Int))) 0 1)) fun (x35 : List (Int)) =>
 Dat.bnd (Dat.wrap .i64 (Dat.add s22.2 1)) fun (x36 : Int) =>
 if (Dat.EqN (Dat.len x35) (Dat.len x35)) then k23 (x35, x36)
 else none
 else none
 else none
 else Dat.bnd (Dat.wrap .i64 (Dat.add s8.2 1)) fun (x39 : Int) =>
 if (Dat.EqN (Dat.len s22.1) (Dat.len s22.1)) then k9 (s22.1, x39)
 else none)) (s8.1, 0)
 else none
 else none)
 else none
 else none
 else some (s8.1, 0))) (([] : List (Int)), 0)
 else none
 else none
 else none))
noncomputable def p_num_Put : PFn := { args := [(.list (.int .u64)), (.list (.int .i64))], res := [(.list (.int .u8)), (.int .i64)], fn := num_Put }
theorem pd_num_Put : PureD Try.prog cfg 8 p_num_Put := fnD spf (l := [(21, p_num_together), (22, p_num_fits)]) cfgOk rfl (.cons pd_num_together (.cons pd_num_fits .nil)) (fun d => by kernel_rfl)

/-- thimblerig/thimblerigref01.Total -/
noncomputable def ref01_Total (d0 : List (Int)) : Option (Int) :=
 (bif (Dat.igt (Dat.ofN (Dat.len d0)) 64) then some (-1)
 else Dat.loop (fun (s1 : (Int) × (Int)) k2 =>
 (bif (Dat.ilt s1.2 (Dat.ofN (Dat.len d0))) then if (Dat.Ix s1.2 (Dat.len d0)) then Dat.bnd (Dat.get d0 (Dat.toN s1.2) 0) fun (x5 : Int) =>
 (bif (Dat.ilt x5 0) then some (-1)
 else if (Dat.Ix s1.2 (Dat.len d0)) then Dat.bnd (Dat.get d0 (Dat.toN s1.2) 0) fun (x8 : Int) =>
 (bif (Dat.pickB false true (Dat.igt x8 65536)) then some (-1)
 else if (Dat.Ix s1.2 (Dat.len d0)) then Dat.bnd (Dat.get d0 (Dat.toN s1.2) 0) fun (x11 : Int) =>
 Dat.bnd (Dat.wrap .i64 (Dat.add s1.1 x11)) fun (x12 : Int) =>
 Dat.bnd (Dat.wrap .i64 (Dat.add s1.2 1)) fun (x13 : Int) =>
 k2 (x12, x13)
 else none)
 else none)
 else none
 else (bif (Dat.igt s1.1 65536) then some (-1)
 else some s1.1))) (0, 0))
noncomputable def p_ref01_Total : PFn := { args := [(.list (.int .i64))], res := [(.int .i64)], fn := ref01_Total }
theorem pd_ref01_Total : PureD Try.prog cfg 28 p_ref01_Total := fnD spf (l := []) cfgOk rfl .nil (fun d => by kernel_rfl)

/-- thimblerig/thimblerigref01.numbers -/
noncomputable def ref01_numbers (d0 : List (Int)) : Option (Bool) :=
 Dat.loop (fun (s1 : Int) k2 =>
 (bif (Dat.ilt s1 (Dat.ofN (Dat.len d0))) then if (Dat.Ix s1 (Dat.len d0)) then Dat.bnd (Dat.get d0 (Dat.toN s1) 0) fun (x5 : Int) =>
 (bif (Dat.ilt x5 1) then some false
 else if (Dat.Ix s1 (Dat.len d0)) then Dat.bnd (Dat.get d0 (Dat.toN s1) 0) fun (x8 : Int) =>
 (bif (Dat.pickB false true (Dat.igt x8 8)) then some false
 else Dat.bnd (Dat.wrap .i64 (Dat.add s1 1)) fun (x9 : Int) =>
 k2 x9)
 else none)
 else none
 else Dat.bind (ref01_Total d0) fun (x10 : Int) =>
 some (Dat.ige x10 0))) 0
noncomputable def p_ref01_numbers : PFn := { args := [(.list (.int .i64))], res := [.bool], fn := ref01_numbers }
theorem pd_ref01_numbers : PureD Try.prog cfg 26 p_ref01_numbers := fnD spf (l := [(28, p_ref01_Total)]) cfgOk rfl (.cons pd_ref01_Total .nil) (fun d => by kernel_rfl)

/-- thimblerig/thimblerigref01.Digits -/
noncomputable def ref01_Digits (d0 : (Int) × (Int)) : Option ((List (Int)) × (Bool)) :=
 if (Dat.EqN 0 (Dat.len ([] : List (Int)))) then Dat.loop (fun (s3 : (List (Int)) × ((Int) × (Int))) k4 =>
 (bif (Dat.ilt s3.2.2 d0.2) then if (Dat.IsZ 256) then none
 else Dat.bnd (Dat.tmod s3.2.1 256) fun (x7 : Int) =>
 Dat.bnd (Dat.wrap .u8 x7) fun (x8 : Int) =>
 if (Dat.Le (Dat.addN 0 1) (Dat.len (x8 :: ([] : List (Int))))) then if (Dat.Big (Dat.len s3.1) (Dat.len (Dat.seg (x8 :: ([] : List (Int))) 0 1)) 1) then none
 else if (Dat.EqN (Dat.len s3.1) (Dat.len s3.1)) then Dat.bnd (Dat.app s3.1 (Dat.seg (x8 :: ([] : List (Int))) 0 1)) fun (x15 : List (Int)) =>
 if (Dat.IsZ 256) then none
 else Dat.bnd (Dat.wrap .u64 (Dat.tdiv s3.2.1 256)) fun (x18 : Int) =>
 Dat.bnd (Dat.wrap .i64 (Dat.add s3.2.2 1)) fun (x19 : Int) =>
 if (Dat.EqN (Dat.len x15) (Dat.len x15)) then k4 (x15, (x18, x19))
 else none
 else none
 else none
 else some (s3.1, (Dat.ieq s3.2.1 0)))) (([] : List (Int)), (d0.1, 0))
 else none
noncomputable def p_ref01_Digits : PFn := { args := [(.int .u64), (.int .i64)], res := [(.list (.int .u8)), .bool], fn := ref01_Digits }
theorem pd_ref01_Digits : PureD Try.prog cfg 27 p_ref01_Digits := fnD spf (l := []) cfgOk rfl .nil (fun d => by kernel_rfl)

/-- thimblerig/thimblerigref01.Put -/
noncomputable def ref01_Put (d0 : (List (Int)) × (List (Int))) : Option ((List (Int)) × (Int)) :=
 Dat.bind (ref01_numbers d0.2) fun (x1 : Bool) =>
 (bif (Dat.bnot x1) then some (([] : List (Int)), 2)
 else (bif (Dat.pickB false true (Dat.ine (Dat.ofN (Dat.len d0.1)) (Dat.ofN (Dat.len d0.2)))) then some (([] : List (Int)), 2)
 else if (Dat.EqN 0 (Dat.len ([] : List (Int)))) then Dat.loop (fun (s4 : (List (Int)) × (Int)) k5 =>
 (bif (Dat.ilt s4.2 (Dat.ofN (Dat.len d0.1))) then if (Dat.Ix s4.2 (Dat.len d0.1)) then Dat.bnd (Dat.get d0.1 (Dat.toN s4.2) 0) fun (x8 : Int) =>
 if (Dat.Ix s4.2 (Dat.len d0.2)) then Dat.bnd (Dat.get d0.2 (Dat.toN s4.2) 0) fun (x11 : Int) =>
 Dat.bind (ref01_Digits (x8, x11)) fun (x12 : (List (Int)) × (Bool)) =>
 (bif (Dat.bnot x12.2) then some (([] : List (Int)), 4)
 else if (Dat.Big (Dat.len s4.1) (Dat.len x12.1) 1) then none
 else if (Dat.EqN (Dat.len s4.1) (Dat.len s4.1)) then Dat.bnd (Dat.app s4.1 x12.1) fun (x17 : List (Int)) =>
 Dat.bnd (Dat.wrap .i64 (Dat.add s4.2 1)) fun (x18 : Int) =>
 if (Dat.EqN (Dat.len x17) (Dat.len x17)) then k5 (x17, x18)
 else none
 else none)
 else none
 else none
 else some (s4.1, 0))) (([] : List (Int)), 0)
 else none))
noncomputable def p_ref01_Put : PFn := { args := [(.list (.int .u64)), (.list (.int .i64))], res := [(.list (.int .u8)), (.int .i64)], fn := ref01_Put }
theorem pd_ref01_Put : PureD Try.prog cfg 14 p_ref01_Put := fnD spf (l := [(26, p_ref01_numbers), (27, p_ref01_Digits)]) cfgOk rfl (.cons pd_ref01_numbers (.cons pd_ref01_Digits .nil)) (fun d => by kernel_rfl)

/-- thimblerig/num.Size -/
noncomputable def num_Size (d0 : List (Int)) : Option ((Int) × (Int)) :=
 Dat.bind (num_together (d0, (0, 65536))) fun (x1 : (Int) × (Int)) =>
 some (x1.1, x1.2)
noncomputable def p_num_Size : PFn := { args := [(.list (.int .i64))], res := [(.int .i64), (.int .i64)], fn := num_Size }
theorem pd_num_Size : PureD Try.prog cfg 11 p_num_Size := fnD spf (l := [(21, p_num_together)]) cfgOk rfl (.cons pd_num_together .nil) (fun d => by kernel_rfl)

/-- thimblerig/thimblerigref01.Size -/
noncomputable def ref01_Size (d0 : List (Int)) : Option ((Int) × (Int)) :=
 Dat.bind (ref01_Total d0) fun (x1 : Int) =>
 (bif (Dat.ilt x1 0) then some (0, 2)
 else some (x1, 0))
noncomputable def p_ref01_Size : PFn := { args := [(.list (.int .i64))], res := [(.int .i64), (.int .i64)], fn := ref01_Size }
theorem pd_ref01_Size : PureD Try.prog cfg 15 p_ref01_Size := fnD spf (l := [(28, p_ref01_Total)]) cfgOk rfl (.cons pd_ref01_Total .nil) (fun d => by kernel_rfl)

/-- thimblerig/thimblerigref01.Same -/
noncomputable def ref01_Same (d0 : (List (Int)) × (List (Int))) : Option (Bool) :=
 Dat.bnd (Dat.str d0.1) fun (x1 : List (UInt8)) =>
 Dat.bnd (Dat.str d0.2) fun (x2 : List (UInt8)) =>
 some (Dat.seq x1 x2)
noncomputable def p_ref01_Same : PFn := { args := [(.list (.int .u8)), (.list (.int .u8))], res := [.bool], fn := ref01_Same }
theorem pd_ref01_Same : PureD Try.prog cfg 16 p_ref01_Same := fnD spf (l := []) cfgOk rfl .nil (fun d => by kernel_rfl)

/-- thimblerig/thimblerigref01.SameNumbers -/
noncomputable def ref01_SameNumbers (d0 : (List (Int)) × (List (Int))) : Option (Bool) :=
 (bif (Dat.ine (Dat.ofN (Dat.len d0.1)) (Dat.ofN (Dat.len d0.2))) then some false
 else Dat.loop (fun (s1 : Int) k2 =>
 (bif (Dat.ilt s1 (Dat.ofN (Dat.len d0.1))) then if (Dat.Ix s1 (Dat.len d0.1)) then Dat.bnd (Dat.get d0.1 (Dat.toN s1) 0) fun (x5 : Int) =>
 if (Dat.Ix s1 (Dat.len d0.2)) then Dat.bnd (Dat.get d0.2 (Dat.toN s1) 0) fun (x8 : Int) =>
 (bif (Dat.ine x5 x8) then some false
 else Dat.bnd (Dat.wrap .i64 (Dat.add s1 1)) fun (x9 : Int) =>
 k2 x9)
 else none
 else none
 else some true)) 0)
noncomputable def p_ref01_SameNumbers : PFn := { args := [(.list (.int .u64)), (.list (.int .u64))], res := [.bool], fn := ref01_SameNumbers }
theorem pd_ref01_SameNumbers : PureD Try.prog cfg 17 p_ref01_SameNumbers := fnD spf (l := []) cfgOk rfl .nil (fun d => by kernel_rfl)

/-- thimblerig/thimblerigref01.SameInts -/
noncomputable def ref01_SameInts (d0 : (List (Int)) × (List (Int))) : Option (Bool) :=
 (bif (Dat.ine (Dat.ofN (Dat.len d0.1)) (Dat.ofN (Dat.len d0.2))) then some false
 else Dat.loop (fun (s1 : Int) k2 =>
 (bif (Dat.ilt s1 (Dat.ofN (Dat.len d0.1))) then if (Dat.Ix s1 (Dat.len d0.1)) then Dat.bnd (Dat.get d0.1 (Dat.toN s1) 0) fun (x5 : Int) =>
 if (Dat.Ix s1 (Dat.len d0.2)) then Dat.bnd (Dat.get d0.2 (Dat.toN s1) 0) fun (x8 : Int) =>
 (bif (Dat.ine x5 x8) then some false
 else Dat.bnd (Dat.wrap .i64 (Dat.add s1 1)) fun (x9 : Int) =>
 k2 x9)
 else none
 else none
 else some true)) 0)
noncomputable def p_ref01_SameInts : PFn := { args := [(.list (.int .i64)), (.list (.int .i64))], res := [.bool], fn := ref01_SameInts }
theorem pd_ref01_SameInts : PureD Try.prog cfg 18 p_ref01_SameInts := fnD spf (l := []) cfgOk rfl .nil (fun d => by kernel_rfl)

/-- thimblerig/thimbleriglaw01.NumPuts -/
noncomputable def law01_NumPuts (d0 : (List (Int)) × (List (Int))) : Option (Bool) :=
 (bif (Dat.igt (Dat.ofN (Dat.len d0.1)) 100) then some true
 else (bif (Dat.pickB false true (Dat.igt (Dat.ofN (Dat.len d0.2)) 100)) then some true
 else if (Dat.Le (Dat.addN 0 0) (Dat.len ([] : List (Int)))) then if (Dat.Big (Dat.len (Dat.seg ([] : List (Int)) 0 0)) (Dat.len d0.1) 8) then none
 else Dat.bnd (Dat.app (Dat.seg ([] : List (Int)) 0 0) d0.1) fun (x5 : List (Int)) =>
 if (Dat.Le (Dat.addN 0 0) (Dat.len ([] : List (Int)))) then if (Dat.Big (Dat.len (Dat.seg ([] : List (Int)) 0 0)) (Dat.len d0.2) 8) then none
 else Dat.bnd (Dat.app (Dat.seg ([] : List (Int)) 0 0) d0.2) fun (x10 : List (Int)) =>
 Dat.bind (num_Put (x5, x10)) fun (x11 : (List (Int)) × (Int)) =>
 Dat.bind (ref01_Put (d0.1, d0.2)) fun (x12 : (List (Int)) × (Int)) =>
 Dat.bind (num_Size x10) fun (x13 : (Int) × (Int)) =>
 Dat.bind (ref01_Size d0.2) fun (x14 : (Int) × (Int)) =>
 Dat.bind (ref01_Same (x11.1, x12.1)) fun (x15 : Bool) =>
 (bif x15 then (bif (Dat.pickB true (Dat.ieq x11.2 x12.2) false) then (bif (Dat.pickB true (Dat.ieq x13.1 x14.1) false) then (bif (Dat.pickB true (Dat.ieq x13.2 x14.2) false) then Dat.bind (ref01_SameNumbers (x5, d0.1)) fun (x16 : Bool) =>
 (bif (Dat.pickB true x16 false) then Dat.bind (ref01_SameInts (x10, d0.2)) fun (x17 : Bool) =>
 some (Dat.pickB true x17 false)
 else some false)
 else some false)
 else some false)
 else some false)
 else some false)
 else none
 else none))
noncomputable def p_law01_NumPuts : PFn := { args := [(.list (.int .u64)), (.list (.int .i64))], res := [.bool], fn := law01_NumPuts }
theorem pd_law01_NumPuts : PureD Try.prog cfg 4 p_law01_NumPuts := fnD spf (l := [(8, p_num_Put), (14, p_ref01_Put), (11, p_num_Size), (15, p_ref01_Size), (16, p_ref01_Same), (17, p_ref01_SameNumbers), (18, p_ref01_SameInts)]) cfgOk rfl (.cons pd_num_Put (.cons pd_ref01_Put (.cons pd_num_Size (.cons pd_ref01_Size (.cons pd_ref01_Same (.cons pd_ref01_SameNumbers (.cons pd_ref01_SameInts .nil))))))) (fun d => by kernel_rfl)
end Go.Proofs.Ytgaijhlncgakeaa
