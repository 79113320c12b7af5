/- The functions of the program, as functions on plain data. -/
import Derived.Test.YtaphpgkaammeiaaCfg
import Derived.Test.YtaphpgkaammeiaaM5
import Derived.ProofKit
namespace Go.Proofs.Ytaphpgkaammeiaa
open Go.Eng
set_option linter.unusedVariables false
set_option maxRecDepth 100000
def sp0 (f : Nat) : List LSpec × List Nat := ([], [])

/-- thimblerig/geo.Check -/
noncomputable def geo_Check (d0 : Int) : Option (Int) :=
 (bif (Dat.ilt d0 1) then some 2
 else (bif (Dat.pickB false true (Dat.igt d0 6)) then some 2
 else some 0))
noncomputable def p_geo_Check : PFn := { args := [(.int .i64)], res := [(.int .i64)], fn := geo_Check }
theorem pd_geo_Check : PureD Try.prog cfg 15 p_geo_Check := fnD sp0 (l := []) cfgOk rfl .nil (fun d => by kernel_rfl)

/-- thimblerig/geo.isLeaf -/
noncomputable def geo_isLeaf (d0 : (Int) × (Int)) : Option (Bool) :=
 Dat.bind (geo_Check d0.1) fun (x1 : Int) =>
 (bif (Dat.ieq x1 0) then (bif (Dat.pickB true (Dat.ige d0.2 0) false) then if (Dat.Neg d0.1) then none
 else Dat.bnd (Dat.shl .i64 1 d0.1) fun (x4 : Int) =>
 some (Dat.pickB true (Dat.ilt d0.2 x4) false)
 else some false)
 else some false)
noncomputable def p_geo_isLeaf : PFn := { args := [(.int .i64), (.int .i64)], res := [.bool], fn := geo_isLeaf }
theorem pd_geo_isLeaf : PureD Try.prog cfg 25 p_geo_isLeaf := fnD sp0 (l := [(15, p_geo_Check)]) cfgOk rfl (.cons pd_geo_Check .nil) (fun d => by kernel_rfl)

/-- thimblerig/geo.onRow -/
noncomputable def geo_onRow (d0 : (Int) × ((Int) × (Int))) : Option (Int) :=
 if (Dat.Neg d0.1) then none
 else Dat.bnd (Dat.shl .i64 1 d0.1) fun (x3 : Int) =>
 Dat.bnd (Dat.wrap .i64 (Dat.add x3 d0.2.2)) fun (x4 : Int) =>
 Dat.bnd (Dat.wrap .i64 (Dat.sub d0.1 d0.2.1)) fun (x5 : Int) =>
 if (Dat.Neg x5) then none
 else Dat.bnd (Dat.shr .i64 x4 x5) fun (x8 : Int) =>
 some x8
noncomputable def p_geo_onRow : PFn := { args := [(.int .i64), (.int .i64), (.int .i64)], res := [(.int .i64)], fn := geo_onRow }
theorem pd_geo_onRow : PureD Try.prog cfg 27 p_geo_onRow := fnD sp0 (l := []) cfgOk rfl .nil (fun d => by kernel_rfl)

/-- thimblerig/geo.Path -/
noncomputable def geo_Path (d0 : (Int) × (Int)) : Option ((List (Int)) × (Int)) :=
 Dat.bind (geo_isLeaf (d0.1, d0.2)) fun (x1 : Bool) =>
 (bif (Dat.bnot x1) then some (([] : List (Int)), 2)
 else Dat.bnd (Dat.wrap .i64 (Dat.add d0.1 1)) fun (x2 : Int) =>
 if (Dat.MkOk 0 x2 8) then if (Dat.EqN (Dat.toN 0) 0) then if (Dat.EqN 0 (Dat.len ([] : List (Int)))) then Dat.loop (fun (s9 : (Int) × (List (Int))) k10 =>
 (bif (Dat.ile s9.1 d0.1) then Dat.bind (geo_onRow (d0.1, (s9.1, d0.2))) fun (x11 : Int) =>
 if (Dat.Le (Dat.addN 0 1) (Dat.len (x11 :: ([] : List (Int))))) then if (Dat.Big (Dat.len s9.2) (Dat.len (Dat.seg (x11 :: ([] : List (Int))) 0 1)) 8) then none
 else if (Dat.EqN (Dat.len s9.2) (Dat.len s9.2)) then Dat.bnd (Dat.app s9.2 (Dat.seg (x11 :: ([] : List (Int))) 0 1)) fun (x18 : List (Int)) =>
 Dat.bnd (Dat.wrap .i64 (Dat.add s9.1 1)) fun (x19 : Int) =>
 if (Dat.EqN (Dat.len x18) (Dat.len x18)) then k10 (x19, x18)
 else none
 else none
 else none
 else some (s9.2, 0))) (0, ([] : List (Int)))
 else none
 else none
 else none)
noncomputable def p_geo_Path : PFn := { args := [(.int .i64), (.int .i64)], res := [(.list (.int .i64)), (.int .i64)], fn := geo_Path }
def sp13_34 : List LSpec × List Nat := ([{ id := 3400, known := true, toks := [(2001000, (.int .i64))], items := [.slot 4 (.val (.int .i64)), .cells 1 [.slt (.int .i64) (some 2001000) false]], junk := [5, 6, 7, 10, 11, 12, 13, 14, 15, 16, 17, 8, 9], tails := [(2001000, 2001000)] }], [])
def spt13 : Tab (List LSpec × List Nat) := (.node .leaf none (.node .leaf none (.node (.node (.node (.node .leaf (some sp13_34) .leaf) none .leaf) none .leaf) none .leaf)))
def spf13 (f : Nat) : List LSpec × List Nat := (spt13.get f).getD ([], [])
theorem pd_geo_Path : PureD Try.prog cfg 13 p_geo_Path := fnD spf13 (l := [(25, p_geo_isLeaf), (27, p_geo_onRow)]) cfgOk rfl (.cons pd_geo_isLeaf (.cons pd_geo_onRow .nil)) (fun d => by kernel_rfl)

/-- thimblerig/thimblerigref07.May -/
noncomputable def ref07_May (d0 : Int) : Option (Bool) :=
 (bif (Dat.ige d0 1) then some (Dat.pickB true (Dat.ile d0 6) false)
 else some false)
noncomputable def p_ref07_May : PFn := { args := [(.int .i64)], res := [.bool], fn := ref07_May }
theorem pd_ref07_May : PureD Try.prog cfg 28 p_ref07_May := fnD sp0 (l := []) cfgOk rfl .nil (fun d => by kernel_rfl)

/-- thimblerig/thimblerigref07.Many -/
noncomputable def ref07_Many (d0 : Int) : Option (Int) :=
 Dat.loop (fun (s1 : (Int) × (Int)) k2 =>
 (bif (Dat.ilt s1.2 d0) then Dat.bnd (Dat.wrap .i64 (Dat.mul 2 s1.1)) fun (x3 : Int) =>
 Dat.bnd (Dat.wrap .i64 (Dat.add s1.2 1)) fun (x4 : Int) =>
 k2 (x3, x4)
 else some s1.1)) (1, 0)
noncomputable def p_ref07_Many : PFn := { args := [(.int .i64)], res := [(.int .i64)], fn := ref07_Many }
def sp29_29 : List LSpec × List Nat := ([{ id := 2900, known := true, toks := [], items := [.slot 3 (.val (.int .i64)), .slot 4 (.val (.int .i64))], junk := [5, 6, 7, 10, 11, 8, 9], tails := [] }], [])
def spt29 : Tab (List LSpec × List Nat) := (.node (.node .leaf none (.node .leaf none (.node .leaf none (.node .leaf (some sp29_29) .leaf)))) none .leaf)
def spf29 (f : Nat) : List LSpec × List Nat := (spt29.get f).getD ([], [])
theorem pd_ref07_Many : PureD Try.prog cfg 29 p_ref07_Many := fnD spf29 (l := []) cfgOk rfl .nil (fun d => by kernel_rfl)

/-- thimblerig/thimblerigref07.leaf -/
noncomputable def ref07_leaf (d0 : (Int) × (Int)) : Option (Bool) :=
 (bif (Dat.ige d0.2 0) then Dat.bind (ref07_Many d0.1) fun (x1 : Int) =>
 some (Dat.pickB true (Dat.ilt d0.2 x1) false)
 else some false)
noncomputable def p_ref07_leaf : PFn := { args := [(.int .i64), (.int .i64)], res := [.bool], fn := ref07_leaf }
theorem pd_ref07_leaf : PureD Try.prog cfg 31 p_ref07_leaf := fnD sp0 (l := [(29, p_ref07_Many)]) cfgOk rfl (.cons pd_ref07_Many .nil) (fun d => by kernel_rfl)

/-- thimblerig/thimblerigref07.Way -/
noncomputable def ref07_Way (d0 : (Int) × (Int)) : Option (List (Int)) :=
 Dat.bind (ref07_Many d0.1) fun (x1 : Int) =>
 Dat.bnd (Dat.wrap .i64 (Dat.add x1 d0.2)) fun (x2 : Int) =>
 if (Dat.EqN 0 (Dat.len ([] : List (Int)))) then Dat.loop (fun (s5 : (List (Int)) × (Int)) k6 =>
 (bif (Dat.ige s5.2 1) then if (Dat.Le (Dat.addN 0 1) (Dat.len (s5.2 :: ([] : List (Int))))) then if (Dat.Big (Dat.len s5.1) (Dat.len (Dat.seg (s5.2 :: ([] : List (Int))) 0 1)) 8) then none
 else if (Dat.EqN (Dat.len s5.1) (Dat.len s5.1)) then Dat.bnd (Dat.app s5.1 (Dat.seg (s5.2 :: ([] : List (Int))) 0 1)) fun (x13 : List (Int)) =>
 if (Dat.IsZ 2) then none
 else Dat.bnd (Dat.wrap .i64 (Dat.tdiv s5.2 2)) fun (x16 : Int) =>
 if (Dat.EqN (Dat.len x13) (Dat.len x13)) then k6 (x13, x16)
 else none
 else none
 else none
 else Dat.bnd (Dat.wrap .i64 (Dat.sub (Dat.ofN (Dat.len s5.1)) 1)) fun (x19 : Int) =>
 if (Dat.EqN 0 (Dat.len ([] : List (Int)))) then Dat.loop (fun (s22 : (List (Int)) × (Int)) k23 =>
 (bif (Dat.ige s22.2 0) then if (Dat.Ix s22.2 (Dat.len s5.1)) then Dat.bnd (Dat.get s5.1 (Dat.toN s22.2) 0) fun (x26 : Int) =>
 if (Dat.Le (Dat.addN 0 1) (Dat.len (x26 :: ([] : List (Int))))) then if (Dat.Big (Dat.len s22.1) (Dat.len (Dat.seg (x26 :: ([] : List (Int))) 0 1)) 8) then none
 else if (Dat.EqN (Dat.len s22.1) (Dat.len s22.1)) then Dat.bnd (Dat.app s22.1 (Dat.seg (x26 :: ([] : List (Int))) 0 1)) fun (x33 : List (Int)) =>
 Dat.bnd (Dat.wrap .i64 (Dat.sub s22.2 1)) fun (x34 : Int) =>
 if (Dat.EqN (Dat.len x33) (Dat.len x33)) then k23 (x33, x34)
 else none
 else none
 else none
 else none
 else some s22.1)) (([] : List (Int)), x19)
 else none)) (([] : List (Int)), x2)
 else none
noncomputable def p_ref07_Way : PFn := { args := [(.int .i64), (.int .i64)], res := [(.list (.int .i64))], fn := ref07_Way }
def sp32_32 : List LSpec × List Nat := ([{ id := 3200, known := true, toks := [(5, (.int .i64))], items := [.slot 5 (.slt (.int .i64) (some 1000005) false), .slot 6 (.val (.int .i64))], junk := [13, 14, 17, 18, 19, 20, 15, 16], tails := [(1000005, 5)] }, { id := 3201, known := true, toks := [(7, (.int .i64))], items := [.slot 7 (.slt (.int .i64) (some 1000007) false), .slot 8 (.val (.int .i64))], junk := [24, 25, 28, 29, 30, 31, 32, 33, 34, 26, 27], tails := [(1000007, 7)] }], [])
def spt32 : Tab (List LSpec × List Nat) := (.node .leaf none (.node (.node (.node (.node (.node .leaf (some sp32_32) .leaf) none .leaf) none .leaf) none .leaf) none .leaf))
def spf32 (f : Nat) : List LSpec × List Nat := (spt32.get f).getD ([], [])
theorem pd_ref07_Way : PureD Try.prog cfg 32 p_ref07_Way := fnD spf32 (l := [(29, p_ref07_Many)]) cfgOk rfl (.cons pd_ref07_Many .nil) (fun d => by kernel_rfl)

/-- thimblerig/thimblerigref07.Path -/
noncomputable def ref07_Path (d0 : (Int) × (Int)) : Option ((List (Int)) × (Int)) :=
 Dat.bind (ref07_May d0.1) fun (x1 : Bool) =>
 (bif (Dat.bnot x1) then some (([] : List (Int)), 2)
 else Dat.bind (ref07_leaf (d0.1, d0.2)) fun (x2 : Bool) =>
 (bif (Dat.pickB false true (Dat.bnot x2)) then some (([] : List (Int)), 2)
 else Dat.bind (ref07_Way (d0.1, d0.2)) fun (x3 : List (Int)) =>
 some (x3, 0)))
noncomputable def p_ref07_Path : PFn := { args := [(.int .i64), (.int .i64)], res := [(.list (.int .i64)), (.int .i64)], fn := ref07_Path }
theorem pd_ref07_Path : PureD Try.prog cfg 20 p_ref07_Path := fnD sp0 (l := [(28, p_ref07_May), (31, p_ref07_leaf), (32, p_ref07_Way)]) cfgOk rfl (.cons pd_ref07_May (.cons pd_ref07_leaf (.cons pd_ref07_Way .nil))) (fun d => by kernel_rfl)

/-- thimblerig/geo.Deep -/
noncomputable def geo_Deep (d0 : (Int) × ((Int) × (Int))) : Option ((Int) × (Int)) :=
 Dat.bind (geo_isLeaf (d0.1, d0.2.1)) fun (x1 : Bool) =>
 (bif (Dat.bnot x1) then some (0, 2)
 else Dat.bind (geo_isLeaf (d0.1, d0.2.2)) fun (x2 : Bool) =>
 (bif (Dat.pickB false true (Dat.bnot x2)) then some (0, 2)
 else Dat.loop (fun (s3 : (Int) × (Int)) k4 =>
 (bif (Dat.ile s3.1 d0.1) then Dat.bind (geo_onRow (d0.1, (s3.1, d0.2.1))) fun (x5 : Int) =>
 Dat.bind (geo_onRow (d0.1, (s3.1, d0.2.2))) fun (x6 : Int) =>
 (bif (Dat.ine x6 x5) then some (s3.2, 0)
 else Dat.bnd (Dat.wrap .i64 (Dat.add s3.1 1)) fun (x7 : Int) =>
 k4 (x7, s3.1))
 else some (s3.2, 0))) (0, 0)))
noncomputable def p_geo_Deep : PFn := { args := [(.int .i64), (.int .i64), (.int .i64)], res := [(.int .i64), (.int .i64)], fn := geo_Deep }
def sp9_34 : List LSpec × List Nat := ([{ id := 3400, known := true, toks := [], items := [.slot 4 (.val (.int .i64)), .cells 2 [.val (.int .i64)]], junk := [5, 6, 7, 10, 11, 12, 13, 14, 15, 16, 17, 8, 9], tails := [] }], [])
def spt9 : Tab (List LSpec × List Nat) := (.node .leaf none (.node .leaf none (.node (.node (.node (.node .leaf (some sp9_34) .leaf) none .leaf) none .leaf) none .leaf)))
def spf9 (f : Nat) : List LSpec × List Nat := (spt9.get f).getD ([], [])
theorem pd_geo_Deep : PureD Try.prog cfg 9 p_geo_Deep := fnD spf9 (l := [(25, p_geo_isLeaf), (27, p_geo_onRow)]) cfgOk rfl (.cons pd_geo_isLeaf (.cons pd_geo_onRow .nil)) (fun d => by kernel_rfl)

/-- thimblerig/thimblerigref07.Both -/
noncomputable def ref07_Both (d0 : (Int) × ((Int) × (Int))) : Option (Int) :=
 Dat.bind (ref07_Way (d0.1, d0.2.1)) fun (x1 : List (Int)) =>
 Dat.bind (ref07_Way (d0.1, d0.2.2)) fun (x2 : List (Int)) =>
 Dat.loop (fun (s3 : Int) k4 =>
 Dat.bnd (Dat.wrap .i64 (Dat.add s3 1)) fun (x5 : Int) =>
 (bif (Dat.ilt x5 (Dat.ofN (Dat.len x1))) then Dat.bnd (Dat.wrap .i64 (Dat.add s3 1)) fun (x6 : Int) =>
 if (Dat.Ix x6 (Dat.len x1)) then Dat.bnd (Dat.get x1 (Dat.toN x6) 0) fun (x9 : Int) =>
 Dat.bnd (Dat.wrap .i64 (Dat.add s3 1)) fun (x10 : Int) =>
 if (Dat.Ix x10 (Dat.len x2)) then Dat.bnd (Dat.get x2 (Dat.toN x10) 0) fun (x13 : Int) =>
 (bif (Dat.pickB true (Dat.ieq x9 x13) false) then Dat.bnd (Dat.wrap .i64 (Dat.add s3 1)) fun (x14 : Int) =>
 k4 x14
 else some s3)
 else none
 else none
 else some s3)) 0
noncomputable def p_ref07_Both : PFn := { args := [(.int .i64), (.int .i64), (.int .i64)], res := [(.int .i64)], fn := ref07_Both }
def sp33_33 : List LSpec × List Nat := ([{ id := 3300, known := true, toks := [], items := [.slot 9 (.val (.int .i64))], junk := [16, 17, 18, 19, 20, 21, 22, 23, 24, 25, 26, 27, 28, 29, 30, 31, 32, 33, 34, 35], tails := [] }], [])
def spt33 : Tab (List LSpec × List Nat) := (.node (.node .leaf none (.node (.node (.node (.node .leaf (some sp33_33) .leaf) none .leaf) none .leaf) none .leaf)) none .leaf)
def spf33 (f : Nat) : List LSpec × List Nat := (spt33.get f).getD ([], [])
theorem pd_ref07_Both : PureD Try.prog cfg 33 p_ref07_Both := fnD spf33 (l := [(32, p_ref07_Way)]) cfgOk rfl (.cons pd_ref07_Way .nil) (fun d => by kernel_rfl)

/-- thimblerig/thimblerigref07.Deep -/
noncomputable def ref07_Deep (d0 : (Int) × ((Int) × (Int))) : Option ((Int) × (Int)) :=
 Dat.bind (ref07_May d0.1) fun (x1 : Bool) =>
 (bif (Dat.bnot x1) then some (0, 2)
 else Dat.bind (ref07_leaf (d0.1, d0.2.1)) fun (x2 : Bool) =>
 (bif (Dat.pickB false true (Dat.bnot x2)) then some (0, 2)
 else Dat.bind (ref07_leaf (d0.1, d0.2.2)) fun (x3 : Bool) =>
 (bif (Dat.pickB false true (Dat.bnot x3)) then some (0, 2)
 else Dat.bind (ref07_Both (d0.1, (d0.2.1, d0.2.2))) fun (x4 : Int) =>
 some (x4, 0))))
noncomputable def p_ref07_Deep : PFn := { args := [(.int .i64), (.int .i64), (.int .i64)], res := [(.int .i64), (.int .i64)], fn := ref07_Deep }
theorem pd_ref07_Deep : PureD Try.prog cfg 21 p_ref07_Deep := fnD sp0 (l := [(28, p_ref07_May), (31, p_ref07_leaf), (33, p_ref07_Both)]) cfgOk rfl (.cons pd_ref07_May (.cons pd_ref07_leaf (.cons pd_ref07_Both .nil))) (fun d => by kernel_rfl)

/-- thimblerig/geo.On -/
noncomputable def geo_On (d0 : (Int) × ((Int) × (Int))) : Option ((Bool) × (Int)) :=
 Dat.bind (geo_isLeaf (d0.1, d0.2.2)) fun (x1 : Bool) =>
 (bif (Dat.bnot x1) then some (false, 2)
 else (bif (Dat.pickB false true (Dat.ilt d0.2.1 1)) then some (false, 2)
 else if (Dat.Neg d0.1) then none
 else Dat.bnd (Dat.shl .i64 2 d0.1) fun (x4 : Int) =>
 (bif (Dat.pickB false true (Dat.ige d0.2.1 x4)) then some (false, 2)
 else Dat.loop (fun (s5 : Int) k6 =>
 (bif (Dat.ile s5 d0.1) then Dat.bind (geo_onRow (d0.1, (s5, d0.2.2))) fun (x7 : Int) =>
 (bif (Dat.ieq x7 d0.2.1) then some (true, 0)
 else Dat.bnd (Dat.wrap .i64 (Dat.add s5 1)) fun (x8 : Int) =>
 k6 x8)
 else some (false, 0))) 0)))
noncomputable def p_geo_On : PFn := { args := [(.int .i64), (.int .i64), (.int .i64)], res := [.bool, (.int .i64)], fn := geo_On }
def sp10_34 : List LSpec × List Nat := ([{ id := 3400, known := true, toks := [], items := [.slot 4 (.val (.int .i64))], junk := [5, 6, 7, 10, 11, 12, 13, 14, 15, 16, 17, 8, 9], tails := [] }], [])
def spt10 : Tab (List LSpec × List Nat) := (.node .leaf none (.node .leaf none (.node (.node (.node (.node .leaf (some sp10_34) .leaf) none .leaf) none .leaf) none .leaf)))
def spf10 (f : Nat) : List LSpec × List Nat := (spt10.get f).getD ([], [])
theorem pd_geo_On : PureD Try.prog cfg 10 p_geo_On := fnD spf10 (l := [(25, p_geo_isLeaf), (27, p_geo_onRow)]) cfgOk rfl (.cons pd_geo_isLeaf (.cons pd_geo_onRow .nil)) (fun d => by kernel_rfl)

/-- thimblerig/thimblerigref07.On -/
noncomputable def ref07_On (d0 : (Int) × ((Int) × (Int))) : Option ((Bool) × (Int)) :=
 Dat.bind (ref07_May d0.1) fun (x1 : Bool) =>
 (bif (Dat.bnot x1) then some (false, 2)
 else Dat.bind (ref07_leaf (d0.1, d0.2.2)) fun (x2 : Bool) =>
 (bif (Dat.pickB false true (Dat.bnot x2)) then some (false, 2)
 else (bif (Dat.pickB false true (Dat.ilt d0.2.1 1)) then some (false, 2)
 else Dat.bind (ref07_Many d0.1) fun (x3 : Int) =>
 Dat.bnd (Dat.wrap .i64 (Dat.mul 2 x3)) fun (x4 : Int) =>
 Dat.bnd (Dat.wrap .i64 (Dat.sub x4 1)) fun (x5 : Int) =>
 (bif (Dat.pickB false true (Dat.igt d0.2.1 x5)) then some (false, 2)
 else Dat.bind (ref07_Way (d0.1, d0.2.2)) fun (x6 : List (Int)) =>
 Dat.loop (fun (s7 : Int) k8 =>
 (bif (Dat.ilt s7 (Dat.ofN (Dat.len x6))) then if (Dat.Ix s7 (Dat.len x6)) then Dat.bnd (Dat.get x6 (Dat.toN s7) 0) fun (x11 : Int) =>
 (bif (Dat.ieq x11 d0.2.1) then some (true, 0)
 else Dat.bnd (Dat.wrap .i64 (Dat.add s7 1)) fun (x12 : Int) =>
 k8 x12)
 else none
 else some (false, 0))) 0))))
noncomputable def p_ref07_On : PFn := { args := [(.int .i64), (.int .i64), (.int .i64)], res := [.bool, (.int .i64)], fn := ref07_On }
def sp22_22 : List LSpec × List Nat := ([{ id := 2200, known := true, toks := [], items := [.slot 9 (.val (.int .i64))], junk := [34, 35, 36, 37, 40, 41, 42, 43, 44, 45, 6, 7, 38, 39], tails := [] }], [])
def spt22 : Tab (List LSpec × List Nat) := (.node .leaf none (.node .leaf none (.node .leaf none (.node (.node .leaf (some sp22_22) .leaf) none .leaf))))
def spf22 (f : Nat) : List LSpec × List Nat := (spt22.get f).getD ([], [])
theorem pd_ref07_On : PureD Try.prog cfg 22 p_ref07_On := fnD spf22 (l := [(28, p_ref07_May), (31, p_ref07_leaf), (29, p_ref07_Many), (32, p_ref07_Way)]) cfgOk rfl (.cons pd_ref07_May (.cons pd_ref07_leaf (.cons pd_ref07_Many (.cons pd_ref07_Way .nil)))) (fun d => by kernel_rfl)

/-- thimblerig/thimblerigref01.SameInts -/
noncomputable def ref01_SameInts (d0 : (List (Int)) × (List (Int))) : Option (Bool) :=
 (bif (Dat.ine (Dat.ofN (Dat.len d0.1)) (Dat.ofN (Dat.len d0.2))) then some false
 else Dat.loop (fun (s1 : Int) k2 =>
 (bif (Dat.ilt s1 (Dat.ofN (Dat.len d0.1))) then if (Dat.Ix s1 (Dat.len d0.1)) then Dat.bnd (Dat.get d0.1 (Dat.toN s1) 0) fun (x5 : Int) =>
 if (Dat.Ix s1 (Dat.len d0.2)) then Dat.bnd (Dat.get d0.2 (Dat.toN s1) 0) fun (x8 : Int) =>
 (bif (Dat.ine x5 x8) then some false
 else Dat.bnd (Dat.wrap .i64 (Dat.add s1 1)) fun (x9 : Int) =>
 k2 x9)
 else none
 else none
 else some true)) 0)
noncomputable def p_ref01_SameInts : PFn := { args := [(.list (.int .i64)), (.list (.int .i64))], res := [.bool], fn := ref01_SameInts }
def sp23_23 : List LSpec × List Nat := ([{ id := 2300, known := true, toks := [], items := [.slot 5 (.val (.int .i64))], junk := [11, 12, 13, 14, 17, 18, 19, 20, 21, 22, 23, 24, 25, 4, 15, 16], tails := [] }], [])
def spt23 : Tab (List LSpec × List Nat) := (.node (.node (.node (.node .leaf none (.node .leaf (some sp23_23) .leaf)) none .leaf) none .leaf) none .leaf)
def spf23 (f : Nat) : List LSpec × List Nat := (spt23.get f).getD ([], [])
theorem pd_ref01_SameInts : PureD Try.prog cfg 23 p_ref01_SameInts := fnD spf23 (l := []) cfgOk rfl .nil (fun d => by kernel_rfl)

/-- thimblerig/thimbleriglaw07.GeoPaths -/
noncomputable def law07_GeoPaths (d0 : (Int) × ((Int) × (Int))) : Option (Bool) :=
 Dat.bind (geo_Path (d0.1, d0.2.1)) fun (x1 : (List (Int)) × (Int)) =>
 Dat.bind (ref07_Path (d0.1, d0.2.1)) fun (x2 : (List (Int)) × (Int)) =>
 Dat.bind (geo_Deep (d0.1, (d0.2.1, d0.2.2))) fun (x3 : (Int) × (Int)) =>
 Dat.bind (ref07_Deep (d0.1, (d0.2.1, d0.2.2))) fun (x4 : (Int) × (Int)) =>
 Dat.bind (geo_On (d0.1, (d0.2.2, d0.2.1))) fun (x5 : (Bool) × (Int)) =>
 Dat.bind (ref07_On (d0.1, (d0.2.2, d0.2.1))) fun (x6 : (Bool) × (Int)) =>
 Dat.bind (ref01_SameInts (x1.1, x2.1)) fun (x7 : Bool) =>
 (bif x7 then (bif (Dat.pickB true (Dat.ieq x1.2 x2.2) false) then (bif (Dat.pickB true (Dat.ieq x3.1 x4.1) false) then (bif (Dat.pickB true (Dat.ieq x3.2 x4.2) false) then (bif (Dat.pickB true (Dat.beq x5.1 x6.1) false) then some (Dat.pickB true (Dat.ieq x5.2 x6.2) false)
 else some false)
 else some false)
 else some false)
 else some false)
 else some false)
noncomputable def p_law07_GeoPaths : PFn := { args := [(.int .i64), (.int .i64), (.int .i64)], res := [.bool], fn := law07_GeoPaths }
theorem pd_law07_GeoPaths : PureD Try.prog cfg 5 p_law07_GeoPaths := fnD sp0 (l := [(13, p_geo_Path), (20, p_ref07_Path), (9, p_geo_Deep), (21, p_ref07_Deep), (10, p_geo_On), (22, p_ref07_On), (23, p_ref01_SameInts)]) cfgOk rfl (.cons pd_geo_Path (.cons pd_ref07_Path (.cons pd_geo_Deep (.cons pd_ref07_Deep (.cons pd_geo_On (.cons pd_ref07_On (.cons pd_ref01_SameInts .nil))))))) (fun d => by kernel_rfl)

/-- thimblerig/geo.Reverse -/
noncomputable def geo_Reverse (d0 : (Int) × (Int)) : Option ((Int) × (Int)) :=
 Dat.bind (geo_Check d0.1) fun (x1 : Int) =>
 (bif (Dat.ine x1 0) then some (0, x1)
 else Dat.loop (fun (s2 : (Int) × ((Int) × (Int))) k3 =>
 (bif (Dat.ilt s2.1 d0.1) then Dat.bnd (Dat.wrap .i64 (Dat.mul 2 s2.2.2)) fun (x4 : Int) =>
 if (Dat.IsZ 2) then none
 else Dat.bnd (Dat.tmod s2.2.1 2) fun (x7 : Int) =>
 Dat.bnd (Dat.wrap .i64 x7) fun (x8 : Int) =>
 Dat.bnd (Dat.wrap .i64 (Dat.add x4 x8)) fun (x9 : Int) =>
 if (Dat.IsZ 2) then none
 else Dat.bnd (Dat.wrap .u64 (Dat.tdiv s2.2.1 2)) fun (x12 : Int) =>
 Dat.bnd (Dat.wrap .i64 (Dat.add s2.1 1)) fun (x13 : Int) =>
 k3 (x13, (x12, x9))
 else some (s2.2.2, 0))) (0, (d0.2, 0)))
noncomputable def p_geo_Reverse : PFn := { args := [(.int .i64), (.int .u64)], res := [(.int .i64), (.int .i64)], fn := geo_Reverse }
def sp8_8 : List LSpec × List Nat := ([{ id := 800, known := true, toks := [], items := [.slot 16 (.val (.int .i64)), .cells 1000003 [.val (.int .u64)], .cells 1000007 [.val (.int .i64)]], junk := [17, 18, 19, 20], tails := [] }], [])
def spt8 : Tab (List LSpec × List Nat) := (.node .leaf none (.node (.node (.node .leaf (some sp8_8) .leaf) none .leaf) none .leaf))
def spf8 (f : Nat) : List LSpec × List Nat := (spt8.get f).getD ([], [])
theorem pd_geo_Reverse : PureD Try.prog cfg 8 p_geo_Reverse := fnD spf8 (l := [(15, p_geo_Check)]) cfgOk rfl (.cons pd_geo_Check .nil) (fun d => by kernel_rfl)

/-- thimblerig/thimbleriglaw07.alive -/
noncomputable def law07_alive (d0 : Unit) : Option (Bool) := some true
noncomputable def p_law07_alive : PFn := { args := [], res := [.bool], fn := law07_alive }
theorem pd_law07_alive : PureD Try.prog cfg 14 p_law07_alive := closedD (n := 4000) cfgOk (by kernel_rfl)

/-- thimblerig/thimbleriglaw07.GeoHalves -/
noncomputable def law07_GeoHalves (d0 : (Int) × ((Int) × (Int))) : Option (Bool) :=
 Dat.bind (law07_alive ()) fun (x1 : Bool) =>
 Dat.bind (geo_Path (d0.1, d0.2.1)) fun (x2 : (List (Int)) × (Int)) =>
 Dat.bind (geo_Path (d0.1, d0.2.2)) fun (x3 : (List (Int)) × (Int)) =>
 Dat.bind (geo_Deep (d0.1, (d0.2.1, d0.2.2))) fun (x4 : (Int) × (Int)) =>
 (bif (Dat.ine x2.2 0) then (bif x1 then (bif (Dat.pickB true (Dat.ieq x4.2 2) false) then (bif (Dat.ine x2.2 0) then (bif (Dat.pickB true (Dat.ieq (Dat.ofN (Dat.len x2.1)) 0) false) then some (Dat.pickB true true false)
 else (bif (Dat.ine x3.2 0) then some (Dat.pickB true (Dat.pickB false true (Dat.pickB true (Dat.ieq (Dat.ofN (Dat.len x3.1)) 0) false)) false)
 else some (Dat.pickB true (Dat.pickB false true false) false)))
 else (bif (Dat.ine x3.2 0) then some (Dat.pickB true (Dat.pickB false true (Dat.pickB true (Dat.ieq (Dat.ofN (Dat.len x3.1)) 0) false)) false)
 else some (Dat.pickB true (Dat.pickB false true false) false)))
 else some false)
 else some false)
 else (bif (Dat.pickB false true (Dat.ine x3.2 0)) then (bif x1 then (bif (Dat.pickB true (Dat.ieq x4.2 2) false) then (bif (Dat.ine x2.2 0) then (bif (Dat.pickB true (Dat.ieq (Dat.ofN (Dat.len x2.1)) 0) false) then some (Dat.pickB true true false)
 else (bif (Dat.ine x3.2 0) then some (Dat.pickB true (Dat.pickB false true (Dat.pickB true (Dat.ieq (Dat.ofN (Dat.len x3.1)) 0) false)) false)
 else some (Dat.pickB true (Dat.pickB false true false) false)))
 else (bif (Dat.ine x3.2 0) then some (Dat.pickB true (Dat.pickB false true (Dat.pickB true (Dat.ieq (Dat.ofN (Dat.len x3.1)) 0) false)) false)
 else some (Dat.pickB true (Dat.pickB false true false) false)))
 else some false)
 else some false)
 else (bif (Dat.ine x4.2 0) then some false
 else Dat.bnd (Dat.wrap .i64 (Dat.add d0.1 1)) fun (x5 : Int) =>
 (bif (Dat.pickB false true (Dat.ine (Dat.ofN (Dat.len x2.1)) x5)) then some false
 else Dat.bnd (Dat.wrap .i64 (Dat.add d0.1 1)) fun (x6 : Int) =>
 (bif (Dat.pickB false true (Dat.ine (Dat.ofN (Dat.len x3.1)) x6)) then some false
 else if (Dat.Ix 0 (Dat.len x2.1)) then Dat.bnd (Dat.get x2.1 (Dat.toN 0) 0) fun (x9 : Int) =>
 (bif (Dat.pickB false true (Dat.ine x9 1)) then some false
 else if (Dat.Ix 0 (Dat.len x3.1)) then Dat.bnd (Dat.get x3.1 (Dat.toN 0) 0) fun (x12 : Int) =>
 (bif (Dat.pickB false true (Dat.ine x12 1)) then some false
 else if (Dat.Ix d0.1 (Dat.len x2.1)) then Dat.bnd (Dat.get x2.1 (Dat.toN d0.1) 0) fun (x15 : Int) =>
 if (Dat.Neg d0.1) then none
 else Dat.bnd (Dat.shl .i64 1 d0.1) fun (x18 : Int) =>
 Dat.bnd (Dat.wrap .i64 (Dat.add x18 d0.2.1)) fun (x19 : Int) =>
 (bif (Dat.pickB false true (Dat.ine x15 x19)) then some false
 else (bif (Dat.pickB false true (Dat.ilt x4.1 0)) then some false
 else (bif (Dat.pickB false true (Dat.igt x4.1 d0.1)) then some false
 else Dat.loop (fun (s20 : Int) k21 =>
 (bif (Dat.ile s20 d0.1) then (bif (Dat.igt s20 0) then if (Dat.Ix s20 (Dat.len x2.1)) then Dat.bnd (Dat.get x2.1 (Dat.toN s20) 0) fun (x24 : Int) =>
 if (Dat.IsZ 2) then none
 else Dat.bnd (Dat.wrap .i64 (Dat.tdiv x24 2)) fun (x27 : Int) =>
 Dat.bnd (Dat.wrap .i64 (Dat.sub s20 1)) fun (x28 : Int) =>
 if (Dat.Ix x28 (Dat.len x2.1)) then Dat.bnd (Dat.get x2.1 (Dat.toN x28) 0) fun (x31 : Int) =>
 (bif (Dat.pickB true (Dat.ine x27 x31) false) then some false
 else if (Dat.Ix s20 (Dat.len x2.1)) then Dat.bnd (Dat.get x2.1 (Dat.toN s20) 0) fun (x34 : Int) =>
 if (Dat.Ix s20 (Dat.len x3.1)) then Dat.bnd (Dat.get x3.1 (Dat.toN s20) 0) fun (x37 : Int) =>
 (bif (Dat.pickB false true (Dat.bnot (Dat.beq (Dat.ieq x34 x37) (Dat.ile s20 x4.1)))) then some false
 else if (Dat.Ix s20 (Dat.len x2.1)) then Dat.bnd (Dat.get x2.1 (Dat.toN s20) 0) fun (x40 : Int) =>
 Dat.bind (geo_On (d0.1, (x40, d0.2.2))) fun (x41 : (Bool) × (Int)) =>
 (bif (Dat.ine x41.2 0) then some false
 else (bif (Dat.pickB false true (Dat.bnot (Dat.beq x41.1 (Dat.ile s20 x4.1)))) then some false
 else Dat.bnd (Dat.wrap .i64 (Dat.add s20 1)) fun (x42 : Int) =>
 k21 x42))
 else none)
 else none
 else none)
 else none
 else none
 else if (Dat.Ix s20 (Dat.len x2.1)) then Dat.bnd (Dat.get x2.1 (Dat.toN s20) 0) fun (x45 : Int) =>
 if (Dat.Ix s20 (Dat.len x3.1)) then Dat.bnd (Dat.get x3.1 (Dat.toN s20) 0) fun (x48 : Int) =>
 (bif (Dat.pickB false true (Dat.bnot (Dat.beq (Dat.ieq x45 x48) (Dat.ile s20 x4.1)))) then some false
 else if (Dat.Ix s20 (Dat.len x2.1)) then Dat.bnd (Dat.get x2.1 (Dat.toN s20) 0) fun (x51 : Int) =>
 Dat.bind (geo_On (d0.1, (x51, d0.2.2))) fun (x52 : (Bool) × (Int)) =>
 (bif (Dat.ine x52.2 0) then some false
 else (bif (Dat.pickB false true (Dat.bnot (Dat.beq x52.1 (Dat.ile s20 x4.1)))) then some false
 else Dat.bnd (Dat.wrap .i64 (Dat.add s20 1)) fun (x53 : Int) =>
 k21 x53))
 else none)
 else none
 else none)
 else some x1)) 0)))
 else none)
 else none)
 else none)))))
noncomputable def p_law07_GeoHalves : PFn := { args := [(.int .i64), (.int .i64), (.int .i64)], res := [.bool], fn := law07_GeoHalves }
def sp7_7 : List LSpec × List Nat := ([{ id := 700, known := true, toks := [], items := [.slot 14 (.val (.int .i64))], junk := [114, 115, 116, 119, 120, 121, 122, 123, 124, 125, 126, 127, 128, 129, 130, 131, 132, 133, 134, 135, 136, 137, 138, 139, 140, 141, 142, 143, 144, 145, 146, 147, 148, 6, 150, 151, 152, 153, 154, 155, 156, 149, 157, 158, 15, 16, 159, 160, 161, 162, 163, 164, 165, 166, 167, 117, 118], tails := [] }], [])
def spt7 : Tab (List LSpec × List Nat) := (.node (.node (.node (.node .leaf (some sp7_7) .leaf) none .leaf) none .leaf) none .leaf)
def spf7 (f : Nat) : List LSpec × List Nat := (spt7.get f).getD ([], [])
theorem pd_law07_GeoHalves : PureD Try.prog cfg 7 p_law07_GeoHalves := fnD spf7 (l := [(14, p_law07_alive), (13, p_geo_Path), (9, p_geo_Deep), (10, p_geo_On)]) cfgOk rfl (.cons pd_law07_alive (.cons pd_geo_Path (.cons pd_geo_Deep (.cons pd_geo_On .nil)))) (fun d => by kernel_rfl)
end Go.Proofs.Ytaphpgkaammeiaa
