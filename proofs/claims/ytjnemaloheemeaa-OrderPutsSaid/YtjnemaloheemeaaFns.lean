/- The functions of the program, as functions on plain data. -/
import Derived.Test.YtjnemaloheemeaaCfg
import Derived.Test.YtjnemaloheemeaaM5
import Derived.ProofKit
namespace Go.Proofs.Ytjnemaloheemeaa
open Go.Eng
set_option linter.unusedVariables false
set_option maxRecDepth 100000
def sp0 (f : Nat) : List LSpec × List Nat := ([], [])

/-- thimblerig/order.ordered -/
noncomputable def order_ordered (d0 : (List (Int)) × (List (Int))) : Option (Int) :=
 (bif (Dat.igt (Dat.ofN (Dat.len d0.1)) 1024) then some 4
 else if (Dat.MkOk (Dat.ofN (Dat.len d0.1)) (Dat.ofN (Dat.len d0.1)) 1) then Dat.loop (fun (s3 : (Int) × (List (Bool))) k4 =>
 (bif (Dat.ilt s3.1 (Dat.ofN (Dat.len d0.1))) then if (Dat.Ix s3.1 (Dat.len d0.1)) then Dat.bnd (Dat.get d0.1 (Dat.toN s3.1) 0) fun (x7 : Int) =>
 (bif (Dat.ilt x7 0) then some 2
 else (bif (Dat.pickB false true (Dat.ige x7 (Dat.ofN (Dat.len d0.1)))) then some 2
 else if (Dat.In x7 (Dat.toN (Dat.ofN (Dat.len d0.1)))) then if (Dat.Lt (Dat.addN 0 (Dat.toN x7)) (Dat.len s3.2)) then Dat.bnd (Dat.get s3.2 (Dat.addN 0 (Dat.toN x7)) false) fun (x12 : Bool) =>
 (bif (Dat.pickB false true x12) then some 2
 else if (Dat.In x7 (Dat.toN (Dat.ofN (Dat.len d0.1)))) then if (Dat.Lt (Dat.addN 0 (Dat.toN x7)) (Dat.len s3.2)) then Dat.bnd (Dat.set s3.2 (Dat.addN 0 (Dat.toN x7)) true) fun (x17 : List (Bool)) =>
 Dat.bnd (Dat.wrap .i64 (Dat.add s3.1 1)) fun (x18 : Int) =>
 k4 (x18, x17)
 else none
 else none)
 else none
 else none))
 else none
 else (bif (Dat.ine (Dat.ofN (Dat.len d0.2)) (Dat.ofN (Dat.len d0.1))) then some 2
 else some 0))) (0, (Dat.rep (Dat.toN (Dat.ofN (Dat.len d0.1))) false))
 else none)
noncomputable def p_order_ordered : PFn := { args := [(.list (.int .i64)), (.list (.int .u32))], res := [(.int .i64)], fn := order_ordered }
def sp23_23 : List LSpec × List Nat := ([{ id := 2300, known := true, toks := [], items := [.slot 16 (.val (.int .i64)), .vec 1000005 .bool], junk := [17, 18, 19, 7, 20, 21, 22, 23, 24, 25, 26, 27, 28, 29, 30, 31, 32, 33, 4, 34, 35, 36, 37], tails := [] }], [])
def spt23 : Tab (List LSpec × List Nat) := (.node (.node (.node (.node .leaf none (.node .leaf (some sp23_23) .leaf)) none .leaf) none .leaf) none .leaf)
def spf23 (f : Nat) : List LSpec × List Nat := (spt23.get f).getD ([], [])
theorem pd_order_ordered : PureD Try.prog cfg 23 p_order_ordered := fnD spf23 (l := []) cfgOk rfl .nil (fun d => by kernel_rfl)

/-- thimblerig/order.Apply -/
noncomputable def order_Apply (d0 : (List (Int)) × (List (Int))) : Option ((List (Int)) × (Int)) :=
 Dat.bind (order_ordered (d0.1, d0.2)) fun (x1 : Int) =>
 (bif (Dat.ine x1 0) then some (([] : List (Int)), x1)
 else if (Dat.MkOk (Dat.ofN (Dat.len d0.2)) (Dat.ofN (Dat.len d0.2)) 4) then Dat.loop (fun (s4 : (Int) × (List (Int))) k5 =>
 (bif (Dat.ilt s4.1 (Dat.ofN (Dat.len d0.1))) then if (Dat.Ix s4.1 (Dat.len d0.1)) then Dat.bnd (Dat.get d0.1 (Dat.toN s4.1) 0) fun (x8 : Int) =>
 if (Dat.Ix x8 (Dat.len d0.2)) then Dat.bnd (Dat.get d0.2 (Dat.toN x8) 0) fun (x11 : Int) =>
 if (Dat.In s4.1 (Dat.toN (Dat.ofN (Dat.len d0.2)))) then if (Dat.Lt (Dat.addN 0 (Dat.toN s4.1)) (Dat.len s4.2)) then Dat.bnd (Dat.set s4.2 (Dat.addN 0 (Dat.toN s4.1)) x11) fun (x16 : List (Int)) =>
 Dat.bnd (Dat.wrap .i64 (Dat.add s4.1 1)) fun (x17 : Int) =>
 k5 (x17, x16)
 else none
 else none
 else none
 else none
 else if (Dat.Le (Dat.addN 0 (Dat.toN (Dat.ofN (Dat.len d0.2)))) (Dat.len s4.2)) then some ((Dat.seg s4.2 0 (Dat.toN (Dat.ofN (Dat.len d0.2)))), 0)
 else none)) (0, (Dat.rep (Dat.toN (Dat.ofN (Dat.len d0.2))) 0))
 else none)
noncomputable def p_order_Apply : PFn := { args := [(.list (.int .i64)), (.list (.int .u32))], res := [(.list (.int .u32)), (.int .i64)], fn := order_Apply }
def sp8_24 : List LSpec × List Nat := ([{ id := 2400, known := true, toks := [], items := [.slot 8 (.val (.int .i64)), .vec 1 (.int .u32)], junk := [9, 10, 11, 12, 4, 5, 13, 14, 15, 16, 17], tails := [] }], [])
def spt8 : Tab (List LSpec × List Nat) := (.node .leaf none (.node (.node (.node .leaf none (.node .leaf (some sp8_24) .leaf)) none .leaf) none .leaf))
def spf8 (f : Nat) : List LSpec × List Nat := (spt8.get f).getD ([], [])
noncomputable def o_order_Apply : OFn := { args := [(.list (.int .i64)), (.list (.int .u32))], ores := [(.own (.int .u32)), (.plain (.int .i64))], fn := order_Apply }
theorem od_order_Apply : OwnD Try.prog cfg 8 o_order_Apply ∧ PureD Try.prog cfg 8 o_order_Apply.pfn := fnO spf8 [] (l := [(23, p_order_ordered)]) (lo := []) cfgOk rfl (.cons pd_order_ordered .nil) .nil (fun d => by kernel_rfl)
theorem pd_order_Apply : PureD Try.prog cfg 8 p_order_Apply := od_order_Apply.2

/-- thimblerig/thimblerigref21.among -/
noncomputable def ref21_among (d0 : (List (Int)) × (Int)) : Option (Bool) :=
 Dat.loop (fun (s1 : Int) k2 =>
 (bif (Dat.ilt s1 (Dat.ofN (Dat.len d0.1))) then if (Dat.Ix s1 (Dat.len d0.1)) then Dat.bnd (Dat.get d0.1 (Dat.toN s1) 0) fun (x5 : Int) =>
 (bif (Dat.ieq x5 d0.2) then some true
 else Dat.bnd (Dat.wrap .i64 (Dat.add s1 1)) fun (x6 : Int) =>
 k2 x6)
 else none
 else some false)) 0
noncomputable def p_ref21_among : PFn := { args := [(.list (.int .i64)), (.int .i64)], res := [.bool], fn := ref21_among }
def sp37_37 : List LSpec × List Nat := ([{ id := 3700, known := true, toks := [], items := [.slot 5 (.val (.int .i64))], junk := [6, 7, 8, 9, 12, 13, 14, 15, 16, 17, 4, 10, 11], tails := [] }], [])
def spt37 : Tab (List LSpec × List Nat) := (.node (.node .leaf none (.node .leaf none (.node (.node (.node .leaf (some sp37_37) .leaf) none .leaf) none .leaf))) none .leaf)
def spf37 (f : Nat) : List LSpec × List Nat := (spt37.get f).getD ([], [])
theorem pd_ref21_among : PureD Try.prog cfg 37 p_ref21_among := fnD spf37 (l := []) cfgOk rfl .nil (fun d => by kernel_rfl)

/-- thimblerig/thimblerigref21.Orders -/
noncomputable def ref21_Orders (d0 : (List (Int)) × (List (Int))) : Option (Int) :=
 (bif (Dat.igt (Dat.ofN (Dat.len d0.1)) 1024) then some 4
 else (bif (Dat.ine (Dat.ofN (Dat.len d0.2)) (Dat.ofN (Dat.len d0.1))) then some 2
 else Dat.loop (fun (s1 : Int) k2 =>
 (bif (Dat.ilt s1 (Dat.ofN (Dat.len d0.1))) then Dat.bind (ref21_among (d0.1, s1)) fun (x3 : Bool) =>
 (bif (Dat.bnot x3) then some 2
 else Dat.bnd (Dat.wrap .i64 (Dat.add s1 1)) fun (x4 : Int) =>
 k2 x4)
 else some 0)) 0))
noncomputable def p_ref21_Orders : PFn := { args := [(.list (.int .i64)), (.list (.int .u32))], res := [(.int .i64)], fn := ref21_Orders }
def sp26_26 : List LSpec × List Nat := ([{ id := 2600, known := true, toks := [], items := [.slot 5 (.val (.int .i64))], junk := [14, 15, 16, 17, 20, 21, 22, 23, 4, 18, 19], tails := [] }], [])
def spt26 : Tab (List LSpec × List Nat) := (.node .leaf none (.node .leaf none (.node (.node .leaf none (.node .leaf (some sp26_26) .leaf)) none .leaf)))
def spf26 (f : Nat) : List LSpec × List Nat := (spt26.get f).getD ([], [])
theorem pd_ref21_Orders : PureD Try.prog cfg 26 p_ref21_Orders := fnD spf26 (l := [(37, p_ref21_among)]) cfgOk rfl (.cons pd_ref21_among .nil) (fun d => by kernel_rfl)

/-- thimblerig/thimblerigref21.Apply -/
noncomputable def ref21_Apply (d0 : (List (Int)) × (List (Int))) : Option ((List (Int)) × (Int)) :=
 Dat.bind (ref21_Orders (d0.1, d0.2)) fun (x1 : Int) =>
 (bif (Dat.ine x1 0) then some (([] : List (Int)), x1)
 else if (Dat.EqN 0 (Dat.len ([] : List (Int)))) then Dat.loop (fun (s4 : (List (Int)) × (Int)) k5 =>
 (bif (Dat.ilt s4.2 (Dat.ofN (Dat.len d0.1))) then if (Dat.Ix s4.2 (Dat.len d0.1)) then Dat.bnd (Dat.get d0.1 (Dat.toN s4.2) 0) fun (x8 : Int) =>
 if (Dat.Ix x8 (Dat.len d0.2)) then Dat.bnd (Dat.get d0.2 (Dat.toN x8) 0) fun (x11 : Int) =>
 if (Dat.Le (Dat.addN 0 1) (Dat.len (x11 :: ([] : List (Int))))) then if (Dat.Big (Dat.len s4.1) (Dat.len (Dat.seg (x11 :: ([] : List (Int))) 0 1)) 4) then none
 else if (Dat.EqN (Dat.len s4.1) (Dat.len s4.1)) then Dat.bnd (Dat.app s4.1 (Dat.seg (x11 :: ([] : List (Int))) 0 1)) fun (x18 : List (Int)) =>
 Dat.bnd (Dat.wrap .i64 (Dat.add s4.2 1)) fun (x19 : Int) =>
 if (Dat.EqN (Dat.len x18) (Dat.len x18)) then k5 (x18, x19)
 else none
 else none
 else none
 else none
 else none
 else some (s4.1, 0))) (([] : List (Int)), 0)
 else none)
noncomputable def p_ref21_Apply : PFn := { args := [(.list (.int .i64)), (.list (.int .u32))], res := [(.list (.int .u32)), (.int .i64)], fn := ref21_Apply }
def sp9_9 : List LSpec × List Nat := ([{ id := 900, known := true, toks := [(7, (.int .u32))], items := [.slot 7 (.slt (.int .u32) (some 1000007) false), .slot 8 (.val (.int .i64))], junk := [15, 16, 17, 18, 21, 22, 23, 24, 25, 26, 27, 28, 29, 30, 19, 20], tails := [(1000007, 7)] }], [])
def spt9 : Tab (List LSpec × List Nat) := (.node (.node .leaf none (.node (.node .leaf (some sp9_9) .leaf) none .leaf)) none .leaf)
def spf9 (f : Nat) : List LSpec × List Nat := (spt9.get f).getD ([], [])
theorem pd_ref21_Apply : PureD Try.prog cfg 9 p_ref21_Apply := fnD spf9 (l := [(26, p_ref21_Orders)]) cfgOk rfl (.cons pd_ref21_Orders .nil) (fun d => by kernel_rfl)

/-- thimblerig/order.Undo -/
noncomputable def order_Undo (d0 : (List (Int)) × (List (Int))) : Option ((List (Int)) × (Int)) :=
 Dat.bind (order_ordered (d0.1, d0.2)) fun (x1 : Int) =>
 (bif (Dat.ine x1 0) then some (([] : List (Int)), x1)
 else if (Dat.MkOk (Dat.ofN (Dat.len d0.2)) (Dat.ofN (Dat.len d0.2)) 4) then Dat.loop (fun (s4 : (Int) × (List (Int))) k5 =>
 (bif (Dat.ilt s4.1 (Dat.ofN (Dat.len d0.1))) then if (Dat.Ix s4.1 (Dat.len d0.1)) then Dat.bnd (Dat.get d0.1 (Dat.toN s4.1) 0) fun (x8 : Int) =>
 if (Dat.Ix s4.1 (Dat.len d0.2)) then Dat.bnd (Dat.get d0.2 (Dat.toN s4.1) 0) fun (x11 : Int) =>
 if (Dat.In x8 (Dat.toN (Dat.ofN (Dat.len d0.2)))) then if (Dat.Lt (Dat.addN 0 (Dat.toN x8)) (Dat.len s4.2)) then Dat.bnd (Dat.set s4.2 (Dat.addN 0 (Dat.toN x8)) x11) fun (x16 : List (Int)) =>
 Dat.bnd (Dat.wrap .i64 (Dat.add s4.1 1)) fun (x17 : Int) =>
 k5 (x17, x16)
 else none
 else none
 else none
 else none
 else if (Dat.Le (Dat.addN 0 (Dat.toN (Dat.ofN (Dat.len d0.2)))) (Dat.len s4.2)) then some ((Dat.seg s4.2 0 (Dat.toN (Dat.ofN (Dat.len d0.2)))), 0)
 else none)) (0, (Dat.rep (Dat.toN (Dat.ofN (Dat.len d0.2))) 0))
 else none)
noncomputable def p_order_Undo : PFn := { args := [(.list (.int .i64)), (.list (.int .u32))], res := [(.list (.int .u32)), (.int .i64)], fn := order_Undo }
def sp10_24 : List LSpec × List Nat := ([{ id := 2400, known := true, toks := [], items := [.slot 8 (.val (.int .i64)), .vec 1 (.int .u32)], junk := [9, 10, 11, 12, 4, 5, 13, 14, 15, 16, 17], tails := [] }], [])
def spt10 : Tab (List LSpec × List Nat) := (.node .leaf none (.node (.node (.node .leaf none (.node .leaf (some sp10_24) .leaf)) none .leaf) none .leaf))
def spf10 (f : Nat) : List LSpec × List Nat := (spt10.get f).getD ([], [])
theorem pd_order_Undo : PureD Try.prog cfg 10 p_order_Undo := fnD spf10 (l := [(23, p_order_ordered)]) cfgOk rfl (.cons pd_order_ordered .nil) (fun d => by kernel_rfl)

/-- thimblerig/thimblerigref21.Undo -/
noncomputable def ref21_Undo (d0 : (List (Int)) × (List (Int))) : Option ((List (Int)) × (Int)) :=
 Dat.bind (ref21_Orders (d0.1, d0.2)) fun (x1 : Int) =>
 (bif (Dat.ine x1 0) then some (([] : List (Int)), x1)
 else if (Dat.MkOk (Dat.ofN (Dat.len d0.1)) (Dat.ofN (Dat.len d0.1)) 4) then Dat.loop (fun (s4 : (Int) × (List (Int))) k5 =>
 (bif (Dat.ilt s4.1 (Dat.ofN (Dat.len d0.1))) then if (Dat.Ix s4.1 (Dat.len d0.1)) then Dat.bnd (Dat.get d0.1 (Dat.toN s4.1) 0) fun (x8 : Int) =>
 if (Dat.Ix s4.1 (Dat.len d0.2)) then Dat.bnd (Dat.get d0.2 (Dat.toN s4.1) 0) fun (x11 : Int) =>
 if (Dat.In x8 (Dat.toN (Dat.ofN (Dat.len d0.1)))) then if (Dat.Lt (Dat.addN 0 (Dat.toN x8)) (Dat.len s4.2)) then Dat.bnd (Dat.set s4.2 (Dat.addN 0 (Dat.toN x8)) x11) fun (x16 : List (Int)) =>
 Dat.bnd (Dat.wrap .i64 (Dat.add s4.1 1)) fun (x17 : Int) =>
 k5 (x17, x16)
 else none
 else none
 else none
 else none
 else if (Dat.Le (Dat.addN 0 (Dat.toN (Dat.ofN (Dat.len d0.1)))) (Dat.len s4.2)) then some ((Dat.seg s4.2 0 (Dat.toN (Dat.ofN (Dat.len d0.1)))), 0)
 else none)) (0, (Dat.rep (Dat.toN (Dat.ofN (Dat.len d0.1))) 0))
 else none)
noncomputable def p_ref21_Undo : PFn := { args := [(.list (.int .i64)), (.list (.int .u32))], res := [(.list (.int .u32)), (.int .i64)], fn := ref21_Undo }
def sp11_11 : List LSpec × List Nat := ([{ id := 1100, known := true, toks := [], items := [.slot 8 (.val (.int .i64)), .vec 1000007 (.int .u32)], junk := [18, 19, 20, 21, 24, 25, 26, 27, 28, 29, 30, 31, 32, 33, 22, 23], tails := [] }], [])
def spt11 : Tab (List LSpec × List Nat) := (.node (.node (.node .leaf none (.node .leaf (some sp11_11) .leaf)) none .leaf) none .leaf)
def spf11 (f : Nat) : List LSpec × List Nat := (spt11.get f).getD ([], [])
theorem pd_ref21_Undo : PureD Try.prog cfg 11 p_ref21_Undo := fnD spf11 (l := [(26, p_ref21_Orders)]) cfgOk rfl (.cons pd_ref21_Orders .nil) (fun d => by kernel_rfl)

/-- thimblerig/thimblerigref21.SameCells -/
noncomputable def ref21_SameCells (d0 : (List (Int)) × (List (Int))) : Option (Bool) :=
 (bif (Dat.ine (Dat.ofN (Dat.len d0.1)) (Dat.ofN (Dat.len d0.2))) then some false
 else Dat.loop (fun (s1 : Int) k2 =>
 (bif (Dat.ilt s1 (Dat.ofN (Dat.len d0.1))) then if (Dat.Ix s1 (Dat.len d0.1)) then Dat.bnd (Dat.get d0.1 (Dat.toN s1) 0) fun (x5 : Int) =>
 if (Dat.Ix s1 (Dat.len d0.2)) then Dat.bnd (Dat.get d0.2 (Dat.toN s1) 0) fun (x8 : Int) =>
 (bif (Dat.ine x5 x8) then some false
 else Dat.bnd (Dat.wrap .i64 (Dat.add s1 1)) fun (x9 : Int) =>
 k2 x9)
 else none
 else none
 else some true)) 0)
noncomputable def p_ref21_SameCells : PFn := { args := [(.list (.int .u32)), (.list (.int .u32))], res := [.bool], fn := ref21_SameCells }
def sp12_12 : List LSpec × List Nat := ([{ id := 1200, known := true, toks := [], items := [.slot 5 (.val (.int .i64))], junk := [11, 12, 13, 14, 17, 18, 19, 20, 21, 22, 23, 24, 25, 4, 15, 16], tails := [] }], [])
def spt12 : Tab (List LSpec × List Nat) := (.node .leaf none (.node (.node .leaf none (.node .leaf (some sp12_12) .leaf)) none .leaf))
def spf12 (f : Nat) : List LSpec × List Nat := (spt12.get f).getD ([], [])
theorem pd_ref21_SameCells : PureD Try.prog cfg 12 p_ref21_SameCells := fnD spf12 (l := []) cfgOk rfl .nil (fun d => by kernel_rfl)

/-- thimblerig/thimblerigref01.SameInts -/
noncomputable def ref01_SameInts (d0 : (List (Int)) × (List (Int))) : Option (Bool) :=
 (bif (Dat.ine (Dat.ofN (Dat.len d0.1)) (Dat.ofN (Dat.len d0.2))) then some false
 else Dat.loop (fun (s1 : Int) k2 =>
 (bif (Dat.ilt s1 (Dat.ofN (Dat.len d0.1))) then if (Dat.Ix s1 (Dat.len d0.1)) then Dat.bnd (Dat.get d0.1 (Dat.toN s1) 0) fun (x5 : Int) =>
 if (Dat.Ix s1 (Dat.len d0.2)) then Dat.bnd (Dat.get d0.2 (Dat.toN s1) 0) fun (x8 : Int) =>
 (bif (Dat.ine x5 x8) then some false
 else Dat.bnd (Dat.wrap .i64 (Dat.add s1 1)) fun (x9 : Int) =>
 k2 x9)
 else none
 else none
 else some true)) 0)
noncomputable def p_ref01_SameInts : PFn := { args := [(.list (.int .i64)), (.list (.int .i64))], res := [.bool], fn := ref01_SameInts }
def sp13_13 : List LSpec × List Nat := ([{ id := 1300, known := true, toks := [], items := [.slot 5 (.val (.int .i64))], junk := [11, 12, 13, 14, 17, 18, 19, 20, 21, 22, 23, 24, 25, 4, 15, 16], tails := [] }], [])
def spt13 : Tab (List LSpec × List Nat) := (.node (.node .leaf none (.node .leaf none (.node .leaf (some sp13_13) .leaf))) none .leaf)
def spf13 (f : Nat) : List LSpec × List Nat := (spt13.get f).getD ([], [])
theorem pd_ref01_SameInts : PureD Try.prog cfg 13 p_ref01_SameInts := fnD spf13 (l := []) cfgOk rfl .nil (fun d => by kernel_rfl)

/-- thimblerig/thimbleriglaw21.OrderPuts -/
noncomputable def law21_OrderPuts (d0 : (List (Int)) × (List (Int))) : Option (Bool) :=
 (bif (Dat.igt (Dat.ofN (Dat.len d0.1)) 100) then (bif (Dat.pickB true (Dat.ilt (Dat.ofN (Dat.len d0.1)) 1025) false) then some true
 else (bif (Dat.pickB false true (Dat.igt (Dat.ofN (Dat.len d0.1)) 1030)) then some true
 else (bif (Dat.pickB false true (Dat.igt (Dat.ofN (Dat.len d0.2)) 1030)) then some true
 else if (Dat.Le (Dat.addN 0 0) (Dat.len ([] : List (Int)))) then if (Dat.Big (Dat.len (Dat.seg ([] : List (Int)) 0 0)) (Dat.len d0.1) 8) then none
 else Dat.bnd (Dat.app (Dat.seg ([] : List (Int)) 0 0) d0.1) fun (x5 : List (Int)) =>
 if (Dat.Le (Dat.addN 0 0) (Dat.len ([] : List (Int)))) then if (Dat.Big (Dat.len (Dat.seg ([] : List (Int)) 0 0)) (Dat.len d0.2) 4) then none
 else Dat.bnd (Dat.app (Dat.seg ([] : List (Int)) 0 0) d0.2) fun (x10 : List (Int)) =>
 Dat.bind (order_Apply (x5, x10)) fun (x11 : (List (Int)) × (Int)) =>
 if (Dat.EqN (Dat.len x11.1) 0) then Dat.bind (ref21_Apply (d0.1, d0.2)) fun (x14 : (List (Int)) × (Int)) =>
 Dat.bind (order_Undo (x5, x10)) fun (x15 : (List (Int)) × (Int)) =>
 Dat.bind (ref21_Undo (d0.1, d0.2)) fun (x16 : (List (Int)) × (Int)) =>
 Dat.bind (ref21_SameCells (x11.1, x14.1)) fun (x17 : Bool) =>
 (bif x17 then (bif (Dat.pickB true (Dat.ieq x11.2 x14.2) false) then Dat.bind (ref21_SameCells (x15.1, x16.1)) fun (x18 : Bool) =>
 (bif (Dat.pickB true x18 false) then Dat.loop (fun (s19 : Int) k20 =>
 (bif (Dat.ilt s19 (Dat.ofN (Dat.len x11.1))) then if (Dat.Ix s19 (Dat.len x11.1)) then Dat.bnd (Dat.get x11.1 (Dat.toN s19) 0) fun (x23 : Int) =>
 Dat.bnd (Dat.wrap .u32 (Dat.add x23 1)) fun (x24 : Int) =>
 if (Dat.Ix s19 (Dat.len x11.1)) then Dat.bnd (Dat.get x11.1 (Dat.toN s19) 0) fun (x27 : Int) =>
 none
 else none
 else none
 else (bif (Dat.pickB true (Dat.ieq x15.2 x16.2) false) then Dat.bind (ref01_SameInts (x5, d0.1)) fun (x28 : Bool) =>
 (bif (Dat.pickB true x28 false) then Dat.bind (ref21_SameCells (x10, d0.2)) fun (x29 : Bool) =>
 some (Dat.pickB true x29 false)
 else some false)
 else some false))) 0
 else Dat.loop (fun (s30 : Int) k31 =>
 (bif (Dat.ilt s30 (Dat.ofN (Dat.len x11.1))) then if (Dat.Ix s30 (Dat.len x11.1)) then Dat.bnd (Dat.get x11.1 (Dat.toN s30) 0) fun (x34 : Int) =>
 Dat.bnd (Dat.wrap .u32 (Dat.add x34 1)) fun (x35 : Int) =>
 if (Dat.Ix s30 (Dat.len x11.1)) then Dat.bnd (Dat.get x11.1 (Dat.toN s30) 0) fun (x38 : Int) =>
 none
 else none
 else none
 else some false)) 0)
 else Dat.loop (fun (s39 : Int) k40 =>
 (bif (Dat.ilt s39 (Dat.ofN (Dat.len x11.1))) then if (Dat.Ix s39 (Dat.len x11.1)) then Dat.bnd (Dat.get x11.1 (Dat.toN s39) 0) fun (x43 : Int) =>
 Dat.bnd (Dat.wrap .u32 (Dat.add x43 1)) fun (x44 : Int) =>
 if (Dat.Ix s39 (Dat.len x11.1)) then Dat.bnd (Dat.get x11.1 (Dat.toN s39) 0) fun (x47 : Int) =>
 none
 else none
 else none
 else some false)) 0)
 else Dat.loop (fun (s48 : Int) k49 =>
 (bif (Dat.ilt s48 (Dat.ofN (Dat.len x11.1))) then if (Dat.Ix s48 (Dat.len x11.1)) then Dat.bnd (Dat.get x11.1 (Dat.toN s48) 0) fun (x52 : Int) =>
 Dat.bnd (Dat.wrap .u32 (Dat.add x52 1)) fun (x53 : Int) =>
 if (Dat.Ix s48 (Dat.len x11.1)) then Dat.bnd (Dat.get x11.1 (Dat.toN s48) 0) fun (x56 : Int) =>
 none
 else none
 else none
 else some false)) 0)
 else Dat.bind (ref21_Apply (d0.1, d0.2)) fun (x57 : (List (Int)) × (Int)) =>
 Dat.bind (order_Undo (x5, x10)) fun (x58 : (List (Int)) × (Int)) =>
 Dat.bind (ref21_Undo (d0.1, d0.2)) fun (x59 : (List (Int)) × (Int)) =>
 if (Dat.Le (Dat.addN 0 (Dat.len x11.1)) (Dat.len x11.1)) then Dat.bind (ref21_SameCells ((Dat.seg x11.1 0 (Dat.len x11.1)), x57.1)) fun (x62 : Bool) =>
 (bif x62 then (bif (Dat.pickB true (Dat.ieq x11.2 x57.2) false) then Dat.bind (ref21_SameCells (x58.1, x59.1)) fun (x63 : Bool) =>
 (bif (Dat.pickB true x63 false) then Dat.loop (fun (s64 : (Int) × (List (Int))) k65 =>
 (bif (Dat.ilt s64.1 (Dat.ofN (Dat.len x11.1))) then if (Dat.In s64.1 (Dat.len x11.1)) then if (Dat.Lt (Dat.addN 0 (Dat.toN s64.1)) (Dat.len s64.2)) then Dat.bnd (Dat.get s64.2 (Dat.addN 0 (Dat.toN s64.1)) 0) fun (x70 : Int) =>
 Dat.bnd (Dat.wrap .u32 (Dat.add x70 1)) fun (x71 : Int) =>
 if (Dat.In s64.1 (Dat.len x11.1)) then if (Dat.Lt (Dat.addN 0 (Dat.toN s64.1)) (Dat.len s64.2)) then Dat.bnd (Dat.set s64.2 (Dat.addN 0 (Dat.toN s64.1)) x71) fun (x76 : List (Int)) =>
 Dat.bnd (Dat.wrap .i64 (Dat.add s64.1 1)) fun (x77 : Int) =>
 k65 (x77, x76)
 else none
 else none
 else none
 else none
 else (bif (Dat.pickB true (Dat.ieq x58.2 x59.2) false) then Dat.bind (ref01_SameInts (x5, d0.1)) fun (x78 : Bool) =>
 (bif (Dat.pickB true x78 false) then Dat.bind (ref21_SameCells (x10, d0.2)) fun (x79 : Bool) =>
 some (Dat.pickB true x79 false)
 else some false)
 else some false))) (0, x11.1)
 else Dat.loop (fun (s80 : (Int) × (List (Int))) k81 =>
 (bif (Dat.ilt s80.1 (Dat.ofN (Dat.len x11.1))) then if (Dat.In s80.1 (Dat.len x11.1)) then if (Dat.Lt (Dat.addN 0 (Dat.toN s80.1)) (Dat.len s80.2)) then Dat.bnd (Dat.get s80.2 (Dat.addN 0 (Dat.toN s80.1)) 0) fun (x86 : Int) =>
 Dat.bnd (Dat.wrap .u32 (Dat.add x86 1)) fun (x87 : Int) =>
 if (Dat.In s80.1 (Dat.len x11.1)) then if (Dat.Lt (Dat.addN 0 (Dat.toN s80.1)) (Dat.len s80.2)) then Dat.bnd (Dat.set s80.2 (Dat.addN 0 (Dat.toN s80.1)) x87) fun (x92 : List (Int)) =>
 Dat.bnd (Dat.wrap .i64 (Dat.add s80.1 1)) fun (x93 : Int) =>
 k81 (x93, x92)
 else none
 else none
 else none
 else none
 else some false)) (0, x11.1))
 else Dat.loop (fun (s94 : (Int) × (List (Int))) k95 =>
 (bif (Dat.ilt s94.1 (Dat.ofN (Dat.len x11.1))) then if (Dat.In s94.1 (Dat.len x11.1)) then if (Dat.Lt (Dat.addN 0 (Dat.toN s94.1)) (Dat.len s94.2)) then Dat.bnd (Dat.get s94.2 (Dat.addN 0 (Dat.toN s94.1)) 0) fun (x100 : Int) =>
 Dat.bnd (Dat.wrap .u32 (Dat.add x100 1)) fun (x101 : Int) =>
 if (Dat.In s94.1 (Dat.len x11.1)) then if (Dat.Lt (Dat.addN 0 (Dat.toN s94.1)) (Dat.len s94.2)) then Dat.bnd (Dat.set s94.2 (Dat.addN 0 (Dat.toN s94.1)) x101) fun (x106 : List (Int)) =>
 Dat.bnd (Dat.wrap .i64 (Dat.add s94.1 1)) fun (x107 : Int) =>
 k95 (x107, x106)
 else none
 else none
 else none
 else none
 else some false)) (0, x11.1))
 else Dat.loop (fun (s108 : (Int) × (List (Int))) k109 =>
 (bif (Dat.ilt s108.1 (Dat.ofN (Dat.len x11.1))) then if (Dat.In s108.1 (Dat.len x11.1)) then if (Dat.Lt (Dat.addN 0 (Dat.toN s108.1)) (Dat.len s108.2)) then Dat.bnd (Dat.get s108.2 (Dat.addN 0 (Dat.toN s108.1)) 0) fun (x114 : Int) =>
 Dat.bnd (Dat.wrap .u32 (Dat.add x114 1)) fun (x115 : Int) =>
 if (Dat.In s108.1 (Dat.len x11.1)) then if (Dat.Lt (Dat.addN 0 (Dat.toN s108.1)) (Dat.len s108.2)) then Dat.bnd (Dat.set s108.2 (Dat.addN 0 (Dat.toN s108.1)) x115) fun (x120 : List (Int)) =>
 Dat.bnd (Dat.wrap .i64 (Dat.add s108.1 1)) fun (x121 : Int) =>
 k109 (x121, x120)
 else none
 else none
 else none
 else none
 else some false)) (0, x11.1))
 else none
 else none
 else none)))
 else (bif (Dat.pickB false true (Dat.igt (Dat.ofN (Dat.len d0.1)) 1030)) then some true
 else (bif (Dat.pickB false true (Dat.igt (Dat.ofN (Dat.len d0.2)) 1030)) then some true
 else if (Dat.Le (Dat.addN 0 0) (Dat.len ([] : List (Int)))) then if (Dat.Big (Dat.len (Dat.seg ([] : List (Int)) 0 0)) (Dat.len d0.1) 8) then none
 else Dat.bnd (Dat.app (Dat.seg ([] : List (Int)) 0 0) d0.1) fun (x126 : List (Int)) =>
 if (Dat.Le (Dat.addN 0 0) (Dat.len ([] : List (Int)))) then if (Dat.Big (Dat.len (Dat.seg ([] : List (Int)) 0 0)) (Dat.len d0.2) 4) then none
 else Dat.bnd (Dat.app (Dat.seg ([] : List (Int)) 0 0) d0.2) fun (x131 : List (Int)) =>
 Dat.bind (order_Apply (x126, x131)) fun (x132 : (List (Int)) × (Int)) =>
 if (Dat.EqN (Dat.len x132.1) 0) then Dat.bind (ref21_Apply (d0.1, d0.2)) fun (x135 : (List (Int)) × (Int)) =>
 Dat.bind (order_Undo (x126, x131)) fun (x136 : (List (Int)) × (Int)) =>
 Dat.bind (ref21_Undo (d0.1, d0.2)) fun (x137 : (List (Int)) × (Int)) =>
 Dat.bind (ref21_SameCells (x132.1, x135.1)) fun (x138 : Bool) =>
 (bif x138 then (bif (Dat.pickB true (Dat.ieq x132.2 x135.2) false) then Dat.bind (ref21_SameCells (x136.1, x137.1)) fun (x139 : Bool) =>
 (bif (Dat.pickB true x139 false) then Dat.loop (fun (s140 : Int) k141 =>
 (bif (Dat.ilt s140 (Dat.ofN (Dat.len x132.1))) then if (Dat.Ix s140 (Dat.len x132.1)) then Dat.bnd (Dat.get x132.1 (Dat.toN s140) 0) fun (x144 : Int) =>
 Dat.bnd (Dat.wrap .u32 (Dat.add x144 1)) fun (x145 : Int) =>
 if (Dat.Ix s140 (Dat.len x132.1)) then Dat.bnd (Dat.get x132.1 (Dat.toN s140) 0) fun (x148 : Int) =>
 none
 else none
 else none
 else (bif (Dat.pickB true (Dat.ieq x136.2 x137.2) false) then Dat.bind (ref01_SameInts (x126, d0.1)) fun (x149 : Bool) =>
 (bif (Dat.pickB true x149 false) then Dat.bind (ref21_SameCells (x131, d0.2)) fun (x150 : Bool) =>
 some (Dat.pickB true x150 false)
 else some false)
 else some false))) 0
 else Dat.loop (fun (s151 : Int) k152 =>
 (bif (Dat.ilt s151 (Dat.ofN (Dat.len x132.1))) then if (Dat.Ix s151 (Dat.len x132.1)) then Dat.bnd (Dat.get x132.1 (Dat.toN s151) 0) fun (x155 : Int) =>
 Dat.bnd (Dat.wrap .u32 (Dat.add x155 1)) fun (x156 : Int) =>
 if (Dat.Ix s151 (Dat.len x132.1)) then Dat.bnd (Dat.get x132.1 (Dat.toN s151) 0) fun (x159 : Int) =>
 none
 else none
 else none
 else some false)) 0)
 else Dat.loop (fun (s160 : Int) k161 =>
 (bif (Dat.ilt s160 (Dat.ofN (Dat.len x132.1))) then if (Dat.Ix s160 (Dat.len x132.1)) then Dat.bnd (Dat.get x132.1 (Dat.toN s160) 0) fun (x164 : Int) =>
 Dat.bnd (Dat.wrap .u32 (Dat.add x164 1)) fun (x165 : Int) =>
 if (Dat.Ix s160 (Dat.len x132.1)) then Dat.bnd (Dat.get x132.1 (Dat.toN s160) 0) fun (x168 : Int) =>
 none
 else none
 else none
 else some false)) 0)
 else Dat.loop (fun (s169 : Int) k170 =>
 (bif (Dat.ilt s169 (Dat.ofN (Dat.len x132.1))) then if (Dat.Ix s169 (Dat.len x132.1)) then Dat.bnd (Dat.get x132.1 (Dat.toN s169) 0) fun (x173 : Int) =>
 Dat.bnd (Dat.wrap .u32 (Dat.add x173 1)) fun (x174 : Int) =>
 if (Dat.Ix s169 (Dat.len x132.1)) then Dat.bnd (Dat.get x132.1 (Dat.toN s169) 0) fun (x177 : Int) =>
 none
 else none
 else none
 else some false)) 0)
 else Dat.bind (ref21_Apply (d0.1, d0.2)) fun (x178 : (List (Int)) × (Int)) =>
 Dat.bind (order_Undo (x126, x131)) fun (x179 : (List (Int)) × (Int)) =>
 Dat.bind (ref21_Undo (d0.1, d0.2)) fun (x180 : (List (Int)) × (Int)) =>
 if (Dat.Le (Dat.addN 0 (Dat.len x132.1)) (Dat.len x132.1)) then Dat.bind (ref21_SameCells ((Dat.seg x132.1 0 (Dat.len x132.1)), x178.1)) fun (x183 : Bool) =>
 (bif x183 then (bif (Dat.pickB true (Dat.ieq x132.2 x178.2) false) then Dat.bind (ref21_SameCells (x179.1, x180.1)) fun (x184 : Bool) =>
 (bif (Dat.pickB true x184 false) then Dat.loop (fun (s185 : (Int) × (List (Int))) k186 =>
 (bif (Dat.ilt s185.1 (Dat.ofN (Dat.len x132.1))) then if (Dat.In s185.1 (Dat.len x132.1)) then if (Dat.Lt (Dat.addN 0 (Dat.toN s185.1)) (Dat.len s185.2)) then Dat.bnd (Dat.get s185.2 (Dat.addN 0 (Dat.toN s185.1)) 0) fun (x191 : Int) =>
 Dat.bnd (Dat.wrap .u32 (Dat.add x191 1)) fun (x192 : Int) =>
 if (Dat.In s185.1 (Dat.len x132.1)) then if (Dat.Lt (Dat.addN 0 (Dat.toN s185.1)) (Dat.len s185.2)) then Dat.bnd (Dat.set s185.2 (Dat.addN 0 (Dat.toN s185.1)) x192) fun (x197 : List (Int)) =>
 Dat.bnd (Dat.wrap .i64 (Dat.add s185.1 1)) fun (x198 : Int) =>
 k186 (x198, x197)
 else none
 else none
 else none
 else none
 else (bif (Dat.pickB true (Dat.ieq x179.2 x180.2) false) then Dat.bind (ref01_SameInts (x126, d0.1)) fun (x199 : Bool) =>
 (bif (Dat.pickB true x199 false) then Dat.bind (ref21_SameCells (x131, d0.2)) fun (x200 : Bool) =>
 some (Dat.pickB true x200 false)
 else some false)
 else some false))) (0, x132.1)
 else Dat.loop (fun (s201 : (Int) × (List (Int))) k202 =>
 (bif (Dat.ilt s201.1 (Dat.ofN (Dat.len x132.1))) then if (Dat.In s201.1 (Dat.len x132.1)) then if (Dat.Lt (Dat.addN 0 (Dat.toN s201.1)) (Dat.len s201.2)) then Dat.bnd (Dat.get s201.2 (Dat.addN 0 (Dat.toN s201.1)) 0) fun (x207 : Int) =>
 Dat.bnd (Dat.wrap .u32 (Dat.add x207 1)) fun (x208 : Int) =>
 if (Dat.In s201.1 (Dat.len x132.1)) then if (Dat.Lt (Dat.addN 0 (Dat.toN s201.1)) (Dat.len s201.2)) then Dat.bnd (Dat.set s201.2 (Dat.addN 0 (Dat.toN s201.1)) x208) fun (x213 : List (Int)) =>
 Dat.bnd (Dat.wrap .i64 (Dat.add s201.1 1)) fun (x214 : Int) =>
 k202 (x214, x213)
 else none
 else none
 else none
 else none
 else some false)) (0, x132.1))
 else Dat.loop (fun (s215 : (Int) × (List (Int))) k216 =>
 (bif (Dat.ilt s215.1 (Dat.ofN (Dat.len x132.1))) then if (Dat.In s215.1 (Dat.len x132.1)) then if (Dat.Lt (Dat.addN 0 (Dat.toN s215.1)) (Dat.len s215.2)) then Dat.bnd (Dat.get s215.2 (Dat.addN 0 (Dat.toN s215.1)) 0) fun (x221 : Int) =>
 Dat.bnd (Dat.wrap .u32 (Dat.add x221 1)) fun (x222 : Int) =>
 if (Dat.In s215.1 (Dat.len x132.1)) then if (Dat.Lt (Dat.addN 0 (Dat.toN s215.1)) (Dat.len s215.2)) then Dat.bnd (Dat.set s215.2 (Dat.addN 0 (Dat.toN s215.1)) x222) fun (x227 : List (Int)) =>
 Dat.bnd (Dat.wrap .i64 (Dat.add s215.1 1)) fun (x228 : Int) =>
 k216 (x228, x227)
 else none
 else none
 else none
 else none
 else some false)) (0, x132.1))
 else Dat.loop (fun (s229 : (Int) × (List (Int))) k230 =>
 (bif (Dat.ilt s229.1 (Dat.ofN (Dat.len x132.1))) then if (Dat.In s229.1 (Dat.len x132.1)) then if (Dat.Lt (Dat.addN 0 (Dat.toN s229.1)) (Dat.len s229.2)) then Dat.bnd (Dat.get s229.2 (Dat.addN 0 (Dat.toN s229.1)) 0) fun (x235 : Int) =>
 Dat.bnd (Dat.wrap .u32 (Dat.add x235 1)) fun (x236 : Int) =>
 if (Dat.In s229.1 (Dat.len x132.1)) then if (Dat.Lt (Dat.addN 0 (Dat.toN s229.1)) (Dat.len s229.2)) then Dat.bnd (Dat.set s229.2 (Dat.addN 0 (Dat.toN s229.1)) x236) fun (x241 : List (Int)) =>
 Dat.bnd (Dat.wrap .i64 (Dat.add s229.1 1)) fun (x242 : Int) =>
 k230 (x242, x241)
 else none
 else none
 else none
 else none
 else some false)) (0, x132.1))
 else none
 else none
 else none)))
noncomputable def p_law21_OrderPuts : PFn := { args := [(.list (.int .i64)), (.list (.int .u32))], res := [.bool], fn := law21_OrderPuts }
def sp3_3 : List LSpec × List Nat := ([{ id := 300, known := true, toks := [], items := [.slot 16 (.val (.int .i64)), .vec 1000007 (.int .u32)], junk := [83, 84, 85, 86, 89, 90, 91, 92, 93, 94, 95, 96, 87, 88], tails := [] }], [])
def spt3 : Tab (List LSpec × List Nat) := (.node (.node (.node .leaf (some sp3_3) .leaf) none .leaf) none .leaf)
def spf3 (f : Nat) : List LSpec × List Nat := (spt3.get f).getD ([], [])
theorem pd_law21_OrderPuts : PureD Try.prog cfg 3 p_law21_OrderPuts := fnDa spf3 [] (l := [(8, p_order_Apply), (9, p_ref21_Apply), (10, p_order_Undo), (11, p_ref21_Undo), (12, p_ref21_SameCells), (13, p_ref01_SameInts)]) (lo := [(8, o_order_Apply)]) cfgOk rfl (.cons pd_order_Apply (.cons pd_ref21_Apply (.cons pd_order_Undo (.cons pd_ref21_Undo (.cons pd_ref21_SameCells (.cons pd_ref01_SameInts .nil)))))) (.cons od_order_Apply.1 .nil) (fun d => by kernel_rfl)
end Go.Proofs.Ytjnemaloheemeaa
