/- The functions of the program, as functions on plain data. -/
import Derived.Test.YtcdjnaacgbncdaaCfg
import Derived.Test.YtcdjnaacgbncdaaM5
import Derived.ProofKit
namespace Go.Proofs.Ytcdjnaacgbncdaa
open Go.Eng
set_option linter.unusedVariables false
set_option maxRecDepth 100000
def sp0 (f : Nat) : List LSpec × List Nat := ([], [])

/-- thimblerig/thimblerigref09.Twin -/
noncomputable def ref09_Twin (d0 : (Int) × ((Int) × ((List (Int)) × (Unit)))) : Option ((Int) × ((Int) × ((List (Int)) × (Unit)))) :=
 if (Dat.Le (Dat.addN 0 0) (Dat.len ([] : List (Int)))) then if (Dat.Big (Dat.len (Dat.seg ([] : List (Int)) 0 0)) (Dat.len d0.2.2.1) 1) then none
 else Dat.bnd (Dat.app (Dat.seg ([] : List (Int)) 0 0) d0.2.2.1) fun (x5 : List (Int)) =>
 some (d0.1, (d0.2.1, (x5, ())))
 else none
noncomputable def p_ref09_Twin : PFn := { args := [(.pair (.int .i64) (.pair (.int .i64) (.pair (.list (.int .u8)) .unit)))], res := [(.pair (.int .i64) (.pair (.int .i64) (.pair (.list (.int .u8)) .unit)))], fn := ref09_Twin }
theorem pd_ref09_Twin : PureD Try.prog cfg 15 p_ref09_Twin := fnD sp0 (l := []) cfgOk rfl .nil (fun d => by kernel_rfl)

/-- thimblerig/geo.Check -/
noncomputable def geo_Check (d0 : Int) : Option (Int) :=
 (bif (Dat.ilt d0 1) then some 2
 else (bif (Dat.pickB false true (Dat.igt d0 6)) then some 2
 else some 0))
noncomputable def p_geo_Check : PFn := { args := [(.int .i64)], res := [(.int .i64)], fn := geo_Check }
theorem pd_geo_Check : PureD Try.prog cfg 40 p_geo_Check := fnD sp0 (l := []) cfgOk rfl .nil (fun d => by kernel_rfl)

/-- thimblerig/geo.Leaves -/
noncomputable def geo_Leaves (d0 : Int) : Option ((Int) × (Int)) :=
 Dat.bind (geo_Check d0) fun (x1 : Int) =>
 (bif (Dat.ine x1 0) then some (0, x1)
 else if (Dat.Neg d0) then none
 else Dat.bnd (Dat.shl .i64 1 d0) fun (x4 : Int) =>
 some (x4, 0))
noncomputable def p_geo_Leaves : PFn := { args := [(.int .i64)], res := [(.int .i64), (.int .i64)], fn := geo_Leaves }
theorem pd_geo_Leaves : PureD Try.prog cfg 31 p_geo_Leaves := fnD sp0 (l := [(40, p_geo_Check)]) cfgOk rfl (.cons pd_geo_Check .nil) (fun d => by kernel_rfl)

/-- thimblerig/slot.size -/
noncomputable def slot_size (d0 : (Int) × ((Int) × ((Int) × ((Int) × (Unit))))) : Option (Int) :=
 Dat.bnd (Dat.wrap .i64 (Dat.add 8 d0.2.1)) fun (x1 : Int) =>
 some x1
noncomputable def p_slot_size : PFn := { args := [(.pair (.int .i64) (.pair (.int .i64) (.pair (.int .i64) (.pair (.int .i64) .unit))))], res := [(.int .i64)], fn := slot_size }
theorem pd_slot_size : PureD Try.prog cfg 25 p_slot_size := fnD sp0 (l := []) cfgOk rfl .nil (fun d => by kernel_rfl)

/-- thimblerig/slot.Slots -/
noncomputable def slot_Slots (d0 : (Int) × ((Int) × ((Int) × ((Int) × (Unit))))) : Option ((Int) × (Int)) :=
 (bif (Dat.ilt d0.1 1) then some (0, 8)
 else (bif (Dat.pickB false true (Dat.igt d0.1 64)) then some (0, 8)
 else (bif (Dat.pickB false true (Dat.ilt d0.2.1 1)) then some (0, 8)
 else (bif (Dat.pickB false true (Dat.igt d0.2.1 32)) then some (0, 8)
 else Dat.bind (geo_Leaves d0.2.2.1) fun (x1 : (Int) × (Int)) =>
 (bif (Dat.ine x1.2 0) then some (0, 8)
 else (bif (Dat.pickB false true (Dat.ilt x1.1 d0.1)) then some (0, 8)
 else Dat.loop (fun (s2 : Int) k3 =>
 (bif (Dat.ile s2 4) then Dat.bind (slot_size (d0.1, (d0.2.1, (d0.2.2.1, (d0.2.2.2.1, ()))))) fun (x4 : Int) =>
 Dat.bnd (Dat.wrap .i64 (Dat.mul s2 x4)) fun (x5 : Int) =>
 Dat.bnd (Dat.wrap .i64 (Dat.add x5 64)) fun (x6 : Int) =>
 (bif (Dat.ieq d0.2.2.2.1 x6) then some (s2, 0)
 else Dat.bnd (Dat.wrap .i64 (Dat.add s2 1)) fun (x7 : Int) =>
 k3 x7)
 else some (0, 8))) 1))))))
noncomputable def p_slot_Slots : PFn := { args := [(.pair (.int .i64) (.pair (.int .i64) (.pair (.int .i64) (.pair (.int .i64) .unit))))], res := [(.int .i64), (.int .i64)], fn := slot_Slots }
def sp10_10 : List LSpec × List Nat := ([{ id := 1000, known := true, toks := [], items := [.slot 6 (.val (.int .i64))], junk := [39, 40, 43, 44, 45, 46, 47, 48, 49, 50, 51, 2, 3, 41, 42], tails := [] }], [])
def spt10 : Tab (List LSpec × List Nat) := (.node .leaf none (.node .leaf none (.node (.node .leaf (some sp10_10) .leaf) none .leaf)))
def spf10 (f : Nat) : List LSpec × List Nat := (spt10.get f).getD ([], [])
theorem pd_slot_Slots : PureD Try.prog cfg 10 p_slot_Slots := fnD spf10 (l := [(31, p_geo_Leaves), (25, p_slot_size)]) cfgOk rfl (.cons pd_geo_Leaves (.cons pd_slot_size .nil)) (fun d => by kernel_rfl)

/-- thimblerig/thimblerigref07.May -/
noncomputable def ref07_May (d0 : Int) : Option (Bool) :=
 (bif (Dat.ige d0 1) then some (Dat.pickB true (Dat.ile d0 6) false)
 else some false)
noncomputable def p_ref07_May : PFn := { args := [(.int .i64)], res := [.bool], fn := ref07_May }
theorem pd_ref07_May : PureD Try.prog cfg 41 p_ref07_May := fnD sp0 (l := []) cfgOk rfl .nil (fun d => by kernel_rfl)

/-- thimblerig/thimblerigref07.Many -/
noncomputable def ref07_Many (d0 : Int) : Option (Int) :=
 Dat.loop (fun (s1 : (Int) × (Int)) k2 =>
 (bif (Dat.ilt s1.2 d0) then Dat.bnd (Dat.wrap .i64 (Dat.mul 2 s1.1)) fun (x3 : Int) =>
 Dat.bnd (Dat.wrap .i64 (Dat.add s1.2 1)) fun (x4 : Int) =>
 k2 (x3, x4)
 else some s1.1)) (1, 0)
noncomputable def p_ref07_Many : PFn := { args := [(.int .i64)], res := [(.int .i64)], fn := ref07_Many }
def sp42_42 : List LSpec × List Nat := ([{ id := 4200, known := true, toks := [], items := [.slot 3 (.val (.int .i64)), .slot 4 (.val (.int .i64))], junk := [5, 6, 7, 10, 11, 8, 9], tails := [] }], [])
def spt42 : Tab (List LSpec × List Nat) := (.node .leaf none (.node .leaf none (.node (.node .leaf none (.node (.node .leaf (some sp42_42) .leaf) none .leaf)) none .leaf)))
def spf42 (f : Nat) : List LSpec × List Nat := (spt42.get f).getD ([], [])
theorem pd_ref07_Many : PureD Try.prog cfg 42 p_ref07_Many := fnD spf42 (l := []) cfgOk rfl .nil (fun d => by kernel_rfl)

/-- thimblerig/thimblerigref09.Many -/
noncomputable def ref09_Many (d0 : (Int) × ((Int) × ((Int) × ((Int) × (Unit))))) : Option (Int) :=
 (bif (Dat.ilt d0.1 1) then some 0
 else (bif (Dat.pickB false true (Dat.igt d0.1 64)) then some 0
 else (bif (Dat.pickB false true (Dat.ilt d0.2.1 1)) then some 0
 else (bif (Dat.pickB false true (Dat.igt d0.2.1 32)) then some 0
 else Dat.bind (ref07_May d0.2.2.1) fun (x1 : Bool) =>
 (bif (Dat.pickB false true (Dat.bnot x1)) then some 0
 else Dat.bind (ref07_Many d0.2.2.1) fun (x2 : Int) =>
 (bif (Dat.pickB false true (Dat.ilt x2 d0.1)) then some 0
 else Dat.loop (fun (s3 : Int) k4 =>
 (bif (Dat.ile s3 4) then Dat.bnd (Dat.wrap .i64 (Dat.add 8 d0.2.1)) fun (x5 : Int) =>
 Dat.bnd (Dat.wrap .i64 (Dat.mul s3 x5)) fun (x6 : Int) =>
 Dat.bnd (Dat.wrap .i64 (Dat.add x6 64)) fun (x7 : Int) =>
 (bif (Dat.ieq d0.2.2.2.1 x7) then some s3
 else Dat.bnd (Dat.wrap .i64 (Dat.add s3 1)) fun (x8 : Int) =>
 k4 x8)
 else some 0)) 1))))))
noncomputable def p_ref09_Many : PFn := { args := [(.pair (.int .i64) (.pair (.int .i64) (.pair (.int .i64) (.pair (.int .i64) .unit))))], res := [(.int .i64)], fn := ref09_Many }
def sp32_32 : List LSpec × List Nat := ([{ id := 3200, known := true, toks := [], items := [.slot 3 (.val (.int .i64))], junk := [36, 37, 40, 41, 42, 43, 44, 45, 46, 47, 48, 49, 2, 38, 39], tails := [] }], [])
def spt32 : Tab (List LSpec × List Nat) := (.node .leaf none (.node (.node (.node (.node (.node .leaf (some sp32_32) .leaf) none .leaf) none .leaf) none .leaf) none .leaf))
def spf32 (f : Nat) : List LSpec × List Nat := (spt32.get f).getD ([], [])
theorem pd_ref09_Many : PureD Try.prog cfg 32 p_ref09_Many := fnD spf32 (l := [(41, p_ref07_May), (42, p_ref07_Many)]) cfgOk rfl (.cons pd_ref07_May (.cons pd_ref07_Many .nil)) (fun d => by kernel_rfl)

/-- thimblerig/thimblerigref09.Slots -/
noncomputable def ref09_Slots (d0 : (Int) × ((Int) × ((Int) × ((Int) × (Unit))))) : Option ((Int) × (Int)) :=
 Dat.bind (ref09_Many (d0.1, (d0.2.1, (d0.2.2.1, (d0.2.2.2.1, ()))))) fun (x1 : Int) =>
 (bif (Dat.ilt x1 1) then some (0, 8)
 else Dat.bind (ref09_Many (d0.1, (d0.2.1, (d0.2.2.1, (d0.2.2.2.1, ()))))) fun (x2 : Int) =>
 some (x2, 0))
noncomputable def p_ref09_Slots : PFn := { args := [(.pair (.int .i64) (.pair (.int .i64) (.pair (.int .i64) (.pair (.int .i64) .unit))))], res := [(.int .i64), (.int .i64)], fn := ref09_Slots }
theorem pd_ref09_Slots : PureD Try.prog cfg 16 p_ref09_Slots := fnD sp0 (l := [(32, p_ref09_Many)]) cfgOk rfl (.cons pd_ref09_Many .nil) (fun d => by kernel_rfl)

/-- thimblerig/slot.Check -/
noncomputable def slot_Check (d0 : ((Int) × ((Int) × ((Int) × ((Int) × (Unit))))) × ((Int) × ((Int) × ((List (Int)) × (Unit))))) : Option (Int) :=
 Dat.bind (slot_Slots (d0.1.1, (d0.1.2.1, (d0.1.2.2.1, (d0.1.2.2.2.1, ()))))) fun (x1 : (Int) × (Int)) =>
 (bif (Dat.ine x1.2 0) then some x1.2
 else Dat.bind (geo_Leaves d0.1.2.2.1) fun (x2 : (Int) × (Int)) =>
 (bif (Dat.ilt d0.2.1 0) then some 8
 else (bif (Dat.pickB false true (Dat.ige d0.2.1 d0.1.1)) then some 8
 else (bif (Dat.pickB false true (Dat.ilt d0.2.2.1 0)) then some 8
 else (bif (Dat.pickB false true (Dat.ige d0.2.2.1 x2.1)) then some 8
 else (bif (Dat.pickB false true (Dat.ine (Dat.ofN (Dat.len d0.2.2.2.1)) d0.1.2.1)) then some 8
 else some 0))))))
noncomputable def p_slot_Check : PFn := { args := [(.pair (.int .i64) (.pair (.int .i64) (.pair (.int .i64) (.pair (.int .i64) .unit)))), (.pair (.int .i64) (.pair (.int .i64) (.pair (.list (.int .u8)) .unit)))], res := [(.int .i64)], fn := slot_Check }
theorem pd_slot_Check : PureD Try.prog cfg 13 p_slot_Check := fnD sp0 (l := [(10, p_slot_Slots), (31, p_geo_Leaves)]) cfgOk rfl (.cons pd_slot_Slots (.cons pd_geo_Leaves .nil)) (fun d => by kernel_rfl)

/-- thimblerig/slot.parts -/
noncomputable def slot_parts (d0 : (Int) × ((Int) × ((Int) × ((Int) × (Unit))))) : Option (List (Int)) :=
 if (Dat.EqN (Dat.len (Dat.rep 3 0)) (Dat.len (4 :: (4 :: (d0.2.1 :: ([] : List (Int))))))) then if (Dat.EqN (Dat.len (4 :: (4 :: (d0.2.1 :: ([] : List (Int)))))) 3) then some (4 :: (4 :: (d0.2.1 :: ([] : List (Int)))))
 else none
 else none
noncomputable def p_slot_parts : PFn := { args := [(.pair (.int .i64) (.pair (.int .i64) (.pair (.int .i64) (.pair (.int .i64) .unit))))], res := [(.arr 3 (.int .i64))], fn := slot_parts }
theorem pd_slot_parts : PureD Try.prog cfg 26 p_slot_parts := fnD sp0 (l := []) cfgOk rfl .nil (fun d => by kernel_rfl)

/-- thimblerig/num.together -/
noncomputable def num_together (d0 : (List (Int)) × ((Int) × (Int))) : Option ((Int) × (Int)) :=
 (bif (Dat.igt (Dat.ofN (Dat.len d0.1)) 64) then some (0, 2)
 else Dat.loop (fun (s1 : (Int) × (Int)) k2 =>
 (bif (Dat.ilt s1.1 (Dat.ofN (Dat.len d0.1))) then if (Dat.Ix s1.1 (Dat.len d0.1)) then Dat.bnd (Dat.get d0.1 (Dat.toN s1.1) 0) fun (x5 : Int) =>
 (bif (Dat.ilt x5 d0.2.1) then some (0, 2)
 else (bif (Dat.pickB false true (Dat.igt x5 d0.2.2)) then some (0, 2)
 else Dat.bnd (Dat.wrap .i64 (Dat.add s1.2 x5)) fun (x6 : Int) =>
 (bif (Dat.bnot (Dat.ile x6 65536)) then some (0, 2)
 else Dat.bnd (Dat.wrap .i64 (Dat.add s1.1 1)) fun (x7 : Int) =>
 k2 (x7, x6))))
 else none
 else some (s1.2, 0))) (0, 0))
noncomputable def p_num_together : PFn := { args := [(.list (.int .i64)), (.int .i64), (.int .i64)], res := [(.int .i64), (.int .i64)], fn := num_together }
def sp43_43 : List LSpec × List Nat := ([{ id := 4300, known := true, toks := [], items := [.slot 18 (.val (.int .i64)), .cells 1000008 [.val (.int .i64)]], junk := [19, 20, 21, 11, 22, 23, 24, 25, 6, 7, 26], tails := [] }], [])
def spt43 : Tab (List LSpec × List Nat) := (.node (.node (.node .leaf none (.node .leaf none (.node (.node .leaf (some sp43_43) .leaf) none .leaf))) none .leaf) none .leaf)
def spf43 (f : Nat) : List LSpec × List Nat := (spt43.get f).getD ([], [])
theorem pd_num_together : PureD Try.prog cfg 43 p_num_together := fnD spf43 (l := []) cfgOk rfl .nil (fun d => by kernel_rfl)

/-- thimblerig/num.fits -/
noncomputable def num_fits (d0 : (Int) × (Int)) : Option (Bool) :=
 (bif (Dat.ige d0.2 8) then some true
 else Dat.bnd (Dat.wrap .i64 (Dat.mul 8 d0.2)) fun (x1 : Int) =>
 if (Dat.Neg x1) then none
 else Dat.bnd (Dat.shr .u64 d0.1 x1) fun (x4 : Int) =>
 some (Dat.pickB false true (Dat.ieq x4 0)))
noncomputable def p_num_fits : PFn := { args := [(.int .u64), (.int .i64)], res := [.bool], fn := num_fits }
theorem pd_num_fits : PureD Try.prog cfg 44 p_num_fits := fnD sp0 (l := []) cfgOk rfl .nil (fun d => by kernel_rfl)

/-- thimblerig/num.Put -/
noncomputable def num_Put (d0 : (List (Int)) × (List (Int))) : Option ((List (Int)) × (Int)) :=
 Dat.bind (num_together (d0.2, (1, 8))) fun (x1 : (Int) × (Int)) =>
 (bif (Dat.ine x1.2 0) then some (([] : List (Int)), x1.2)
 else (bif (Dat.ine (Dat.ofN (Dat.len d0.1)) (Dat.ofN (Dat.len d0.2))) then some (([] : List (Int)), 2)
 else if (Dat.MkOk 0 x1.1 1) then if (Dat.EqN (Dat.toN 0) 0) then if (Dat.EqN 0 (Dat.len ([] : List (Int)))) then Dat.loop (fun (s8 : (List (Int)) × (Int)) k9 =>
 (bif (Dat.ilt s8.2 (Dat.ofN (Dat.len d0.2))) then if (Dat.Ix s8.2 (Dat.len d0.2)) then Dat.bnd (Dat.get d0.2 (Dat.toN s8.2) 0) fun (x12 : Int) =>
 if (Dat.Ix s8.2 (Dat.len d0.1)) then Dat.bnd (Dat.get d0.1 (Dat.toN s8.2) 0) fun (x15 : Int) =>
 Dat.bind (num_fits (x15, x12)) fun (x16 : Bool) =>
 (bif (Dat.bnot x16) then some (([] : List (Int)), 4)
 else if (Dat.Ix s8.2 (Dat.len d0.1)) then Dat.bnd (Dat.get d0.1 (Dat.toN s8.2) 0) fun (x19 : Int) =>
 if (Dat.EqN (Dat.len s8.1) (Dat.len s8.1)) then Dat.loop (fun (s22 : (List (Int)) × (Int)) k23 =>
 (bif (Dat.ilt s22.2 x12) then Dat.bnd (Dat.wrap .i64 (Dat.mul 8 s22.2)) fun (x24 : Int) =>
 if (Dat.Neg x24) then none
 else Dat.bnd (Dat.shr .u64 x19 x24) fun (x27 : Int) =>
 Dat.bnd (Dat.wrap .u8 x27) fun (x28 : Int) =>
 if (Dat.Le (Dat.addN 0 1) (Dat.len (x28 :: ([] : List (Int))))) then if (Dat.Big (Dat.len s22.1) (Dat.len (Dat.seg (x28 :: ([] : List (Int))) 0 1)) 1) then none
 else if (Dat.EqN (Dat.len s22.1) (Dat.len s22.1)) then Dat.bnd (Dat.app s22.1 (Dat.seg (x28 :: ([] : List (Int))) 0 1)) fun (x35 : List (Int)) =>
 Dat.bnd (Dat.wrap .i64 (Dat.add s22.2 1)) fun (x36 : Int) =>
 if (Dat.EqN (Dat.len x35) (Dat.len x35)) then k23 (x35, x36)
 else none
 else none
 else none
 else Dat.bnd (Dat.wrap .i64 (Dat.add s8.2 1)) fun (x39 : Int) =>
 if (Dat.EqN (Dat.len s22.1) (Dat.len s22.1)) then k9 (s22.1, x39)
 else none)) (s8.1, 0)
 else none
 else none)
 else none
 else none
 else if (Dat.EqN (Dat.len s8.1) (Dat.len s8.1)) then some (s8.1, 0)
 else none)) (([] : List (Int)), 0)
 else none
 else none
 else none))
noncomputable def p_num_Put : PFn := { args := [(.list (.int .u64)), (.list (.int .i64))], res := [(.list (.int .u8)), (.int .i64)], fn := num_Put }
def sp33_45 : List LSpec × List Nat := ([{ id := 4500, known := true, toks := [(0, (.int .u8))], items := [.slot 0 (.slt (.int .u8) (some 1000000) false), .slot 9 (.val (.int .i64))], junk := [10, 11, 7, 12, 13, 14, 15, 16, 17, 18, 19, 20], tails := [(1000000, 0)] }], [])
def sp33_33 : List LSpec × List Nat := ([{ id := 3300, known := true, toks := [(8, (.int .u8))], items := [.slot 8 (.slt (.int .u8) (some 1000008) false), .slot 28 (.val (.int .i64))], junk := [29, 30, 31, 32, 9, 10, 33, 34, 35, 36, 37, 38, 39, 4, 5, 40, 41, 42, 43, 44, 45, 46, 47], tails := [(1000008, 8)] }], [])
def spt33 : Tab (List LSpec × List Nat) := (.node (.node .leaf none (.node (.node (.node (.node .leaf (some sp33_33) .leaf) none .leaf) none .leaf) none (.node .leaf none (.node (.node .leaf (some sp33_45) .leaf) none .leaf)))) none .leaf)
def spf33 (f : Nat) : List LSpec × List Nat := (spt33.get f).getD ([], [])
noncomputable def o_num_Put : OFn := { args := [(.list (.int .u64)), (.list (.int .i64))], ores := [(.own (.int .u8)), (.plain (.int .i64))], fn := num_Put }
theorem od_num_Put : OwnD Try.prog cfg 33 o_num_Put ∧ PureD Try.prog cfg 33 o_num_Put.pfn := fnO spf33 [] (l := [(43, p_num_together), (44, p_num_fits)]) (lo := []) cfgOk rfl (.cons pd_num_together (.cons pd_num_fits .nil)) .nil (fun d => by kernel_rfl)
theorem pd_num_Put : PureD Try.prog cfg 33 p_num_Put := od_num_Put.2

/-- thimblerig/slot.Write -/
noncomputable def slot_Write (d0 : ((Int) × ((Int) × ((Int) × ((Int) × (Unit))))) × ((Int) × ((Int) × ((List (Int)) × (Unit))))) : Option ((List (Int)) × (Int)) :=
 Dat.bind (slot_Check ((d0.1.1, (d0.1.2.1, (d0.1.2.2.1, (d0.1.2.2.2.1, ())))), (d0.2.1, (d0.2.2.1, (d0.2.2.2.1, ()))))) fun (x1 : Int) =>
 (bif (Dat.ine x1 0) then some (([] : List (Int)), x1)
 else Dat.bind (slot_parts (d0.1.1, (d0.1.2.1, (d0.1.2.2.1, (d0.1.2.2.2.1, ()))))) fun (x2 : List (Int)) =>
 if (Dat.EqN (Dat.len (Dat.rep 3 0)) 3) then Dat.bnd (Dat.wrap .u64 d0.2.1) fun (x5 : Int) =>
 Dat.bnd (Dat.wrap .u64 (Dat.add x5 1)) fun (x6 : Int) =>
 Dat.bnd (Dat.wrap .u64 d0.2.2.1) fun (x7 : Int) =>
 if (Dat.Le 3 (Dat.len (Dat.norm 3 x2 0))) then if (Dat.Bd 2 3) then if (Dat.Lt 0 3) then if (Dat.Le (Dat.addN 0 2) (Dat.len (x6 :: (x7 :: ([] : List (Int)))))) then if (Dat.Le (Dat.addN 0 (Dat.subN (Dat.toN 2) 0)) (Dat.len (Dat.norm 3 x2 0))) then Dat.bind (num_Put ((Dat.seg (x6 :: (x7 :: ([] : List (Int)))) 0 2), (Dat.seg (Dat.norm 3 x2 0) 0 (Dat.subN (Dat.toN 2) 0)))) fun (x18 : (List (Int)) × (Int)) =>
 if (Dat.EqN (Dat.len x18.1) 0) then if (Dat.Big (Dat.len x18.1) (Dat.len d0.2.2.2.1) 1) then none
 else none
 else if (Dat.Le (Dat.addN 0 (Dat.len x18.1)) (Dat.len x18.1)) then if (Dat.Big (Dat.len (Dat.seg x18.1 0 (Dat.len x18.1))) (Dat.len d0.2.2.2.1) 1) then none
 else Dat.bnd (Dat.app (Dat.seg x18.1 0 (Dat.len x18.1)) d0.2.2.2.1) fun (x27 : List (Int)) =>
 if (Dat.EqN (Dat.len x27) (Dat.len x27)) then some (x27, x18.2)
 else none
 else none
 else none
 else none
 else if (Dat.Le (Dat.addN 0 2) (Dat.len (x6 :: (x7 :: ([] : List (Int)))))) then Dat.bind (num_Put ((Dat.seg (x6 :: (x7 :: ([] : List (Int)))) 0 2), ([] : List (Int)))) fun (x32 : (List (Int)) × (Int)) =>
 if (Dat.EqN (Dat.len x32.1) 0) then if (Dat.Big (Dat.len x32.1) (Dat.len d0.2.2.2.1) 1) then none
 else none
 else if (Dat.Le (Dat.addN 0 (Dat.len x32.1)) (Dat.len x32.1)) then if (Dat.Big (Dat.len (Dat.seg x32.1 0 (Dat.len x32.1))) (Dat.len d0.2.2.2.1) 1) then none
 else Dat.bnd (Dat.app (Dat.seg x32.1 0 (Dat.len x32.1)) d0.2.2.2.1) fun (x41 : List (Int)) =>
 if (Dat.EqN (Dat.len x41) (Dat.len x41)) then some (x41, x32.2)
 else none
 else none
 else none
 else none
 else none
 else none)
noncomputable def p_slot_Write : PFn := { args := [(.pair (.int .i64) (.pair (.int .i64) (.pair (.int .i64) (.pair (.int .i64) .unit)))), (.pair (.int .i64) (.pair (.int .i64) (.pair (.list (.int .u8)) .unit)))], res := [(.list (.int .u8)), (.int .i64)], fn := slot_Write }
noncomputable def o_slot_Write : OFn := { args := [(.pair (.int .i64) (.pair (.int .i64) (.pair (.int .i64) (.pair (.int .i64) .unit)))), (.pair (.int .i64) (.pair (.int .i64) (.pair (.list (.int .u8)) .unit)))], ores := [(.own (.int .u8)), (.plain (.int .i64))], fn := slot_Write }
theorem od_slot_Write : OwnD Try.prog cfg 17 o_slot_Write ∧ PureD Try.prog cfg 17 o_slot_Write.pfn := fnO sp0 [] (l := [(13, p_slot_Check), (26, p_slot_parts), (33, p_num_Put)]) (lo := [(33, o_num_Put)]) cfgOk rfl (.cons pd_slot_Check (.cons pd_slot_parts (.cons pd_num_Put .nil))) (.cons od_num_Put.1 .nil) (fun d => by kernel_rfl)
theorem pd_slot_Write : PureD Try.prog cfg 17 p_slot_Write := od_slot_Write.2

/-- thimblerig/thimblerigref09.May -/
noncomputable def ref09_May (d0 : ((Int) × ((Int) × ((Int) × ((Int) × (Unit))))) × ((Int) × ((Int) × ((List (Int)) × (Unit))))) : Option (Bool) :=
 (bif (Dat.ige d0.2.1 0) then (bif (Dat.pickB true (Dat.ilt d0.2.1 d0.1.1) false) then (bif (Dat.pickB true (Dat.ige d0.2.2.1 0) false) then Dat.bind (ref07_Many d0.1.2.2.1) fun (x1 : Int) =>
 (bif (Dat.pickB true (Dat.ilt d0.2.2.1 x1) false) then some (Dat.pickB true (Dat.ieq (Dat.ofN (Dat.len d0.2.2.2.1)) d0.1.2.1) false)
 else some false)
 else some false)
 else some false)
 else some false)
noncomputable def p_ref09_May : PFn := { args := [(.pair (.int .i64) (.pair (.int .i64) (.pair (.int .i64) (.pair (.int .i64) .unit)))), (.pair (.int .i64) (.pair (.int .i64) (.pair (.list (.int .u8)) .unit)))], res := [.bool], fn := ref09_May }
theorem pd_ref09_May : PureD Try.prog cfg 34 p_ref09_May := fnD sp0 (l := [(42, p_ref07_Many)]) cfgOk rfl (.cons pd_ref07_Many .nil) (fun d => by kernel_rfl)

/-- thimblerig/thimblerigref01.Total -/
noncomputable def ref01_Total (d0 : List (Int)) : Option (Int) :=
 (bif (Dat.igt (Dat.ofN (Dat.len d0)) 64) then some (-1)
 else Dat.loop (fun (s1 : (Int) × (Int)) k2 =>
 (bif (Dat.ilt s1.2 (Dat.ofN (Dat.len d0))) then if (Dat.Ix s1.2 (Dat.len d0)) then Dat.bnd (Dat.get d0 (Dat.toN s1.2) 0) fun (x5 : Int) =>
 (bif (Dat.ilt x5 0) then some (-1)
 else if (Dat.Ix s1.2 (Dat.len d0)) then Dat.bnd (Dat.get d0 (Dat.toN s1.2) 0) fun (x8 : Int) =>
 (bif (Dat.pickB false true (Dat.igt x8 65536)) then some (-1)
 else if (Dat.Ix s1.2 (Dat.len d0)) then Dat.bnd (Dat.get d0 (Dat.toN s1.2) 0) fun (x11 : Int) =>
 Dat.bnd (Dat.wrap .i64 (Dat.add s1.1 x11)) fun (x12 : Int) =>
 Dat.bnd (Dat.wrap .i64 (Dat.add s1.2 1)) fun (x13 : Int) =>
 k2 (x12, x13)
 else none)
 else none)
 else none
 else (bif (Dat.igt s1.1 65536) then some (-1)
 else some s1.1))) (0, 0))
noncomputable def p_ref01_Total : PFn := { args := [(.list (.int .i64))], res := [(.int .i64)], fn := ref01_Total }
def sp51_51 : List LSpec × List Nat := ([{ id := 5100, known := true, toks := [], items := [.slot 3 (.val (.int .i64)), .slot 4 (.val (.int .i64))], junk := [8, 9, 10, 11, 14, 15, 16, 17, 18, 19, 20, 21, 22, 23, 24, 25, 2, 26, 27, 28, 29, 30, 31, 12, 13], tails := [] }], [])
def spt51 : Tab (List LSpec × List Nat) := (.node (.node (.node .leaf none (.node (.node .leaf none (.node .leaf (some sp51_51) .leaf)) none .leaf)) none .leaf) none .leaf)
def spf51 (f : Nat) : List LSpec × List Nat := (spt51.get f).getD ([], [])
theorem pd_ref01_Total : PureD Try.prog cfg 51 p_ref01_Total := fnD spf51 (l := []) cfgOk rfl .nil (fun d => by kernel_rfl)

/-- thimblerig/thimblerigref01.numbers -/
noncomputable def ref01_numbers (d0 : List (Int)) : Option (Bool) :=
 Dat.loop (fun (s1 : Int) k2 =>
 (bif (Dat.ilt s1 (Dat.ofN (Dat.len d0))) then if (Dat.Ix s1 (Dat.len d0)) then Dat.bnd (Dat.get d0 (Dat.toN s1) 0) fun (x5 : Int) =>
 (bif (Dat.ilt x5 1) then some false
 else if (Dat.Ix s1 (Dat.len d0)) then Dat.bnd (Dat.get d0 (Dat.toN s1) 0) fun (x8 : Int) =>
 (bif (Dat.pickB false true (Dat.igt x8 8)) then some false
 else Dat.bnd (Dat.wrap .i64 (Dat.add s1 1)) fun (x9 : Int) =>
 k2 x9)
 else none)
 else none
 else Dat.bind (ref01_Total d0) fun (x10 : Int) =>
 some (Dat.ige x10 0))) 0
noncomputable def p_ref01_numbers : PFn := { args := [(.list (.int .i64))], res := [.bool], fn := ref01_numbers }
def sp49_49 : List LSpec × List Nat := ([{ id := 4900, known := true, toks := [], items := [.slot 3 (.val (.int .i64))], junk := [4, 5, 6, 7, 10, 11, 12, 13, 14, 15, 16, 17, 18, 19, 20, 21, 2, 8, 9], tails := [] }], [])
def spt49 : Tab (List LSpec × List Nat) := (.node (.node .leaf none (.node (.node (.node .leaf none (.node .leaf (some sp49_49) .leaf)) none .leaf) none .leaf)) none .leaf)
def spf49 (f : Nat) : List LSpec × List Nat := (spt49.get f).getD ([], [])
theorem pd_ref01_numbers : PureD Try.prog cfg 49 p_ref01_numbers := fnD spf49 (l := [(51, p_ref01_Total)]) cfgOk rfl (.cons pd_ref01_Total .nil) (fun d => by kernel_rfl)

/-- thimblerig/thimblerigref01.Digits -/
noncomputable def ref01_Digits (d0 : (Int) × (Int)) : Option ((List (Int)) × (Bool)) :=
 if (Dat.EqN 0 (Dat.len ([] : List (Int)))) then Dat.loop (fun (s3 : (List (Int)) × ((Int) × (Int))) k4 =>
 (bif (Dat.ilt s3.2.2 d0.2) then if (Dat.IsZ 256) then none
 else Dat.bnd (Dat.tmod s3.2.1 256) fun (x7 : Int) =>
 Dat.bnd (Dat.wrap .u8 x7) fun (x8 : Int) =>
 if (Dat.Le (Dat.addN 0 1) (Dat.len (x8 :: ([] : List (Int))))) then if (Dat.Big (Dat.len s3.1) (Dat.len (Dat.seg (x8 :: ([] : List (Int))) 0 1)) 1) then none
 else if (Dat.EqN (Dat.len s3.1) (Dat.len s3.1)) then Dat.bnd (Dat.app s3.1 (Dat.seg (x8 :: ([] : List (Int))) 0 1)) fun (x15 : List (Int)) =>
 if (Dat.IsZ 256) then none
 else Dat.bnd (Dat.wrap .u64 (Dat.tdiv s3.2.1 256)) fun (x18 : Int) =>
 Dat.bnd (Dat.wrap .i64 (Dat.add s3.2.2 1)) fun (x19 : Int) =>
 if (Dat.EqN (Dat.len x15) (Dat.len x15)) then k4 (x15, (x18, x19))
 else none
 else none
 else none
 else some (s3.1, (Dat.ieq s3.2.1 0)))) (([] : List (Int)), (d0.1, 0))
 else none
noncomputable def p_ref01_Digits : PFn := { args := [(.int .u64), (.int .i64)], res := [(.list (.int .u8)), .bool], fn := ref01_Digits }
def sp50_50 : List LSpec × List Nat := ([{ id := 5000, known := true, toks := [(6, (.int .u8))], items := [.slot 6 (.slt (.int .u8) (some 1000006) false), .slot 0 (.val (.int .u64)), .slot 7 (.val (.int .i64))], junk := [8, 9, 10, 13, 14, 15, 16, 17, 18, 19, 20, 11, 12], tails := [(1000006, 6)] }], [])
def spt50 : Tab (List LSpec × List Nat) := (.node .leaf none (.node .leaf none (.node (.node (.node .leaf none (.node .leaf (some sp50_50) .leaf)) none .leaf) none .leaf)))
def spf50 (f : Nat) : List LSpec × List Nat := (spt50.get f).getD ([], [])
theorem pd_ref01_Digits : PureD Try.prog cfg 50 p_ref01_Digits := fnD spf50 (l := []) cfgOk rfl .nil (fun d => by kernel_rfl)

/-- thimblerig/thimblerigref01.Put -/
noncomputable def ref01_Put (d0 : (List (Int)) × (List (Int))) : Option ((List (Int)) × (Int)) :=
 Dat.bind (ref01_numbers d0.2) fun (x1 : Bool) =>
 (bif (Dat.bnot x1) then some (([] : List (Int)), 2)
 else (bif (Dat.pickB false true (Dat.ine (Dat.ofN (Dat.len d0.1)) (Dat.ofN (Dat.len d0.2)))) then some (([] : List (Int)), 2)
 else if (Dat.EqN 0 (Dat.len ([] : List (Int)))) then Dat.loop (fun (s4 : (List (Int)) × (Int)) k5 =>
 (bif (Dat.ilt s4.2 (Dat.ofN (Dat.len d0.1))) then if (Dat.Ix s4.2 (Dat.len d0.1)) then Dat.bnd (Dat.get d0.1 (Dat.toN s4.2) 0) fun (x8 : Int) =>
 if (Dat.Ix s4.2 (Dat.len d0.2)) then Dat.bnd (Dat.get d0.2 (Dat.toN s4.2) 0) fun (x11 : Int) =>
 Dat.bind (ref01_Digits (x8, x11)) fun (x12 : (List (Int)) × (Bool)) =>
 (bif (Dat.bnot x12.2) then some (([] : List (Int)), 4)
 else if (Dat.Big (Dat.len s4.1) (Dat.len x12.1) 1) then none
 else if (Dat.EqN (Dat.len s4.1) (Dat.len s4.1)) then Dat.bnd (Dat.app s4.1 x12.1) fun (x17 : List (Int)) =>
 Dat.bnd (Dat.wrap .i64 (Dat.add s4.2 1)) fun (x18 : Int) =>
 if (Dat.EqN (Dat.len x17) (Dat.len x17)) then k5 (x17, x18)
 else none
 else none)
 else none
 else none
 else if (Dat.EqN (Dat.len s4.1) (Dat.len s4.1)) then some (s4.1, 0)
 else none)) (([] : List (Int)), 0)
 else none))
noncomputable def p_ref01_Put : PFn := { args := [(.list (.int .u64)), (.list (.int .i64))], res := [(.list (.int .u8)), (.int .i64)], fn := ref01_Put }
def sp46_46 : List LSpec × List Nat := ([{ id := 4600, known := true, toks := [(6, (.int .u8))], items := [.slot 6 (.slt (.int .u8) (some 1000006) false), .slot 7 (.val (.int .i64))], junk := [20, 21, 22, 23, 27, 28, 29, 30, 31, 32, 33, 34, 35, 26, 36, 37, 8, 9, 38, 39, 4, 5, 40, 41, 42, 24, 25], tails := [(1000006, 6)] }], [])
def spt46 : Tab (List LSpec × List Nat) := (.node .leaf none (.node .leaf none (.node .leaf none (.node .leaf none (.node (.node .leaf (some sp46_46) .leaf) none .leaf)))))
def spf46 (f : Nat) : List LSpec × List Nat := (spt46.get f).getD ([], [])
noncomputable def o_ref01_Put : OFn := { args := [(.list (.int .u64)), (.list (.int .i64))], ores := [(.own (.int .u8)), (.plain (.int .i64))], fn := ref01_Put }
theorem od_ref01_Put : OwnD Try.prog cfg 46 o_ref01_Put ∧ PureD Try.prog cfg 46 o_ref01_Put.pfn := fnO spf46 [] (l := [(49, p_ref01_numbers), (50, p_ref01_Digits)]) (lo := []) cfgOk rfl (.cons pd_ref01_numbers (.cons pd_ref01_Digits .nil)) .nil (fun d => by kernel_rfl)
theorem pd_ref01_Put : PureD Try.prog cfg 46 p_ref01_Put := od_ref01_Put.2

/-- thimblerig/thimblerigref09.Of -/
noncomputable def ref09_Of (d0 : (Int) × ((Int) × ((List (Int)) × (Unit)))) : Option (List (Int)) :=
 Dat.bnd (Dat.wrap .i64 (Dat.add d0.1 1)) fun (x1 : Int) =>
 Dat.bnd (Dat.wrap .u64 x1) fun (x2 : Int) =>
 Dat.bnd (Dat.wrap .u64 d0.2.1) fun (x3 : Int) =>
 if (Dat.Le (Dat.addN 0 2) (Dat.len (x2 :: (x3 :: ([] : List (Int)))))) then if (Dat.Le (Dat.addN 0 2) (Dat.len (4 :: (4 :: ([] : List (Int)))))) then Dat.bind (ref01_Put ((Dat.seg (x2 :: (x3 :: ([] : List (Int)))) 0 2), (Dat.seg (4 :: (4 :: ([] : List (Int)))) 0 2))) fun (x8 : (List (Int)) × (Int)) =>
 if (Dat.EqN (Dat.len x8.1) 0) then if (Dat.Big (Dat.len x8.1) (Dat.len d0.2.2.1) 1) then none
 else none
 else if (Dat.Le (Dat.addN 0 (Dat.len x8.1)) (Dat.len x8.1)) then if (Dat.Big (Dat.len (Dat.seg x8.1 0 (Dat.len x8.1))) (Dat.len d0.2.2.1) 1) then none
 else Dat.bnd (Dat.app (Dat.seg x8.1 0 (Dat.len x8.1)) d0.2.2.1) fun (x17 : List (Int)) =>
 if (Dat.EqN (Dat.len x17) (Dat.len x17)) then some x17
 else none
 else none
 else none
 else none
noncomputable def p_ref09_Of : PFn := { args := [(.pair (.int .i64) (.pair (.int .i64) (.pair (.list (.int .u8)) .unit)))], res := [(.list (.int .u8))], fn := ref09_Of }
noncomputable def o_ref09_Of : OFn := { args := [(.pair (.int .i64) (.pair (.int .i64) (.pair (.list (.int .u8)) .unit)))], ores := [(.own (.int .u8))], fn := ref09_Of }
theorem od_ref09_Of : OwnD Try.prog cfg 35 o_ref09_Of ∧ PureD Try.prog cfg 35 o_ref09_Of.pfn := fnO sp0 [] (l := [(46, p_ref01_Put)]) (lo := [(46, o_ref01_Put)]) cfgOk rfl (.cons pd_ref01_Put .nil) (.cons od_ref01_Put.1 .nil) (fun d => by kernel_rfl)
theorem pd_ref09_Of : PureD Try.prog cfg 35 p_ref09_Of := od_ref09_Of.2

/-- thimblerig/thimblerigref09.Write -/
noncomputable def ref09_Write (d0 : ((Int) × ((Int) × ((Int) × ((Int) × (Unit))))) × ((Int) × ((Int) × ((List (Int)) × (Unit))))) : Option ((List (Int)) × (Int)) :=
 Dat.bind (ref09_Many (d0.1.1, (d0.1.2.1, (d0.1.2.2.1, (d0.1.2.2.2.1, ()))))) fun (x1 : Int) =>
 (bif (Dat.ilt x1 1) then some (([] : List (Int)), 8)
 else Dat.bind (ref09_May ((d0.1.1, (d0.1.2.1, (d0.1.2.2.1, (d0.1.2.2.2.1, ())))), (d0.2.1, (d0.2.2.1, (d0.2.2.2.1, ()))))) fun (x2 : Bool) =>
 (bif (Dat.pickB false true (Dat.bnot x2)) then some (([] : List (Int)), 8)
 else Dat.bind (ref09_Of (d0.2.1, (d0.2.2.1, (d0.2.2.2.1, ())))) fun (x3 : List (Int)) =>
 if (Dat.EqN (Dat.len x3) 0) then if (Dat.EqN (Dat.len x3) 0) then some (x3, 0)
 else none
 else if (Dat.Le (Dat.addN 0 (Dat.len x3)) (Dat.len x3)) then some ((Dat.seg x3 0 (Dat.len x3)), 0)
 else none))
noncomputable def p_ref09_Write : PFn := { args := [(.pair (.int .i64) (.pair (.int .i64) (.pair (.int .i64) (.pair (.int .i64) .unit)))), (.pair (.int .i64) (.pair (.int .i64) (.pair (.list (.int .u8)) .unit)))], res := [(.list (.int .u8)), (.int .i64)], fn := ref09_Write }
noncomputable def o_ref09_Write : OFn := { args := [(.pair (.int .i64) (.pair (.int .i64) (.pair (.int .i64) (.pair (.int .i64) .unit)))), (.pair (.int .i64) (.pair (.int .i64) (.pair (.list (.int .u8)) .unit)))], ores := [(.own (.int .u8)), (.plain (.int .i64))], fn := ref09_Write }
theorem od_ref09_Write : OwnD Try.prog cfg 18 o_ref09_Write ∧ PureD Try.prog cfg 18 o_ref09_Write.pfn := fnO sp0 [] (l := [(32, p_ref09_Many), (34, p_ref09_May), (35, p_ref09_Of)]) (lo := [(35, o_ref09_Of)]) cfgOk rfl (.cons pd_ref09_Many (.cons pd_ref09_May (.cons pd_ref09_Of .nil))) (.cons od_ref09_Of.1 .nil) (fun d => by kernel_rfl)
theorem pd_ref09_Write : PureD Try.prog cfg 18 p_ref09_Write := od_ref09_Write.2

/-- thimblerig/slot.None -/
noncomputable def slot_None (d0 : (Int) × ((Int) × ((Int) × ((Int) × (Unit))))) : Option ((List (Int)) × (Int)) :=
 Dat.bind (slot_Slots (d0.1, (d0.2.1, (d0.2.2.1, (d0.2.2.2.1, ()))))) fun (x1 : (Int) × (Int)) =>
 (bif (Dat.ine x1.2 0) then some (([] : List (Int)), x1.2)
 else Dat.bind (slot_size (d0.1, (d0.2.1, (d0.2.2.1, (d0.2.2.2.1, ()))))) fun (x2 : Int) =>
 if (Dat.MkOk x2 x2 1) then if (Dat.Le (Dat.addN 0 (Dat.toN x2)) (Dat.len (Dat.rep (α := Int) (Dat.toN x2) 0))) then some ((Dat.seg (Dat.rep (α := Int) (Dat.toN x2) 0) 0 (Dat.toN x2)), 0)
 else none
 else none)
noncomputable def p_slot_None : PFn := { args := [(.pair (.int .i64) (.pair (.int .i64) (.pair (.int .i64) (.pair (.int .i64) .unit))))], res := [(.list (.int .u8)), (.int .i64)], fn := slot_None }
theorem pd_slot_None : PureD Try.prog cfg 7 p_slot_None := fnD sp0 (l := [(10, p_slot_Slots), (25, p_slot_size)]) cfgOk rfl (.cons pd_slot_Slots (.cons pd_slot_size .nil)) (fun d => by kernel_rfl)

/-- thimblerig/thimblerigref09.None -/
noncomputable def ref09_None (d0 : (Int) × ((Int) × ((Int) × ((Int) × (Unit))))) : Option ((List (Int)) × (Int)) :=
 Dat.bind (ref09_Many (d0.1, (d0.2.1, (d0.2.2.1, (d0.2.2.2.1, ()))))) fun (x1 : Int) =>
 (bif (Dat.ilt x1 1) then some (([] : List (Int)), 8)
 else Dat.bnd (Dat.wrap .i64 (Dat.add 8 d0.2.1)) fun (x2 : Int) =>
 if (Dat.MkOk x2 x2 1) then if (Dat.Le (Dat.addN 0 (Dat.toN x2)) (Dat.len (Dat.rep (α := Int) (Dat.toN x2) 0))) then some ((Dat.seg (Dat.rep (α := Int) (Dat.toN x2) 0) 0 (Dat.toN x2)), 0)
 else none
 else none)
noncomputable def p_ref09_None : PFn := { args := [(.pair (.int .i64) (.pair (.int .i64) (.pair (.int .i64) (.pair (.int .i64) .unit))))], res := [(.list (.int .u8)), (.int .i64)], fn := ref09_None }
theorem pd_ref09_None : PureD Try.prog cfg 19 p_ref09_None := fnD sp0 (l := [(32, p_ref09_Many)]) cfgOk rfl (.cons pd_ref09_Many .nil) (fun d => by kernel_rfl)

/-- slices.Clone(()byte,byte) -/
noncomputable def slices_Clone_byte_byte (d0 : List (Int)) : Option (List (Int)) :=
 if (Dat.Le (Dat.addN 0 0) (Dat.len ([] : List (Int)))) then if (Dat.Big (Dat.len (Dat.seg ([] : List (Int)) 0 0)) (Dat.len d0) 1) then none
 else Dat.bnd (Dat.app (Dat.seg ([] : List (Int)) 0 0) d0) fun (x5 : List (Int)) =>
 some x5
 else none
noncomputable def p_slices_Clone_byte_byte : PFn := { args := [(.list (.int .u8))], res := [(.list (.int .u8))], fn := slices_Clone_byte_byte }
noncomputable def cx36 : CloneX Try.prog cfg 36 5 (.int .u8) := clx xf36 5 (xf36.body.cOps.getD 0 ⟨none, .move (.tmp 0), 0, "", #[], none⟩) (xf36.body.cOps.getD 1 ⟨none, .move (.tmp 0), 0, "", #[], none⟩) (by kernel_rfl) (by kernel_rfl) (by kernel_rfl) (by kernel_rfl) (by kernel_rfl) (by kernel_rfl) (by kernel_rfl) (by kernel_rfl) (by kernel_rfl)
theorem pd_slices_Clone_byte_byte : PureD Try.prog cfg 36 p_slices_Clone_byte_byte := cloneD sp0 cfgOk rfl cx36 (of_decide_eq_true (by kernel_rfl)) (by kernel_rfl) (by kernel_rfl) (by kernel_rfl) (fun d => by kernel_rfl) (fun d => by kernel_rfl) (by kernel_rfl) (fun d r h => by
  unfold slices_Clone_byte_byte at h
  split at h
  · split at h
    · cases h
    · have h1 : some d = some r := h
      exact (Option.some.inj h1).symm
  · cases h)

/-- thimblerig/slot.Twin -/
noncomputable def slot_Twin (d0 : (Int) × ((Int) × ((List (Int)) × (Unit)))) : Option ((Int) × ((Int) × ((List (Int)) × (Unit)))) :=
 if (Dat.EqN (Dat.len d0.2.2.1) 0) then Dat.bind (slices_Clone_byte_byte d0.2.2.1) fun (x3 : List (Int)) =>
 if (Dat.EqN (Dat.len x3) 0) then some (d0.1, (d0.2.1, (x3, ())))
 else none
 else if (Dat.EqN (Dat.len d0.2.2.1) 0) then none
 else if (Dat.Le (Dat.addN 0 0) (Dat.len ([] : List (Int)))) then if (Dat.EqN (Dat.len d0.2.2.1) 0) then if (Dat.Le (Dat.addN 0 0) (Dat.len ([] : List (Int)))) then some (d0.1, (d0.2.1, ((Dat.seg ([] : List (Int)) 0 0), ())))
 else none
 else if (Dat.Big (Dat.len (Dat.seg ([] : List (Int)) 0 0)) (Dat.len d0.2.2.1) 1) then none
 else Dat.bnd (Dat.app (Dat.seg ([] : List (Int)) 0 0) d0.2.2.1) fun (x16 : List (Int)) =>
 if (Dat.Le (Dat.addN 0 (Dat.len x16)) (Dat.len x16)) then some (d0.1, (d0.2.1, ((Dat.seg x16 0 (Dat.len x16)), ())))
 else none
 else none
noncomputable def p_slot_Twin : PFn := { args := [(.pair (.int .i64) (.pair (.int .i64) (.pair (.list (.int .u8)) .unit)))], res := [(.pair (.int .i64) (.pair (.int .i64) (.pair (.list (.int .u8)) .unit)))], fn := slot_Twin }
def sp20_36 : List LSpec × List Nat := ([], [3])
def spt20 : Tab (List LSpec × List Nat) := (.node .leaf none (.node (.node .leaf none (.node (.node (.node .leaf (some sp20_36) .leaf) none .leaf) none .leaf)) none .leaf))
def spf20 (f : Nat) : List LSpec × List Nat := (spt20.get f).getD ([], [])
noncomputable def o_slot_Twin : OFn := { args := [(.pair (.int .i64) (.pair (.int .i64) (.pair (.list (.int .u8)) .unit)))], ores := [(.pair (.plain (.int .i64)) (.pair (.plain (.int .i64)) (.pair (.own (.int .u8)) (.plain .unit))))], fn := slot_Twin }
theorem od_slot_Twin : OwnD Try.prog cfg 20 o_slot_Twin ∧ PureD Try.prog cfg 20 o_slot_Twin.pfn := fnO spf20 [36] (l := [(36, p_slices_Clone_byte_byte)]) (lo := []) cfgOk rfl (.cons pd_slices_Clone_byte_byte .nil) .nil (fun d => by kernel_rfl)
theorem pd_slot_Twin : PureD Try.prog cfg 20 p_slot_Twin := od_slot_Twin.2

/-- thimblerig/thimblerigref01.Same -/
noncomputable def ref01_Same (d0 : (List (Int)) × (List (Int))) : Option (Bool) :=
 Dat.bnd (Dat.str d0.1) fun (x1 : List (UInt8)) =>
 Dat.bnd (Dat.str d0.2) fun (x2 : List (UInt8)) =>
 some (Dat.seq x1 x2)
noncomputable def p_ref01_Same : PFn := { args := [(.list (.int .u8)), (.list (.int .u8))], res := [.bool], fn := ref01_Same }
theorem pd_ref01_Same : PureD Try.prog cfg 12 p_ref01_Same := fnD sp0 (l := []) cfgOk rfl .nil (fun d => by kernel_rfl)

/-- thimblerig/thimblerigref09.Check -/
noncomputable def ref09_Check (d0 : ((Int) × ((Int) × ((Int) × ((Int) × (Unit))))) × ((Int) × ((Int) × ((List (Int)) × (Unit))))) : Option (Int) :=
 Dat.bind (ref09_Many (d0.1.1, (d0.1.2.1, (d0.1.2.2.1, (d0.1.2.2.2.1, ()))))) fun (x1 : Int) =>
 (bif (Dat.ilt x1 1) then some 8
 else Dat.bind (ref09_May ((d0.1.1, (d0.1.2.1, (d0.1.2.2.1, (d0.1.2.2.2.1, ())))), (d0.2.1, (d0.2.2.1, (d0.2.2.2.1, ()))))) fun (x2 : Bool) =>
 (bif (Dat.pickB false true (Dat.bnot x2)) then some 8
 else some 0))
noncomputable def p_ref09_Check : PFn := { args := [(.pair (.int .i64) (.pair (.int .i64) (.pair (.int .i64) (.pair (.int .i64) .unit)))), (.pair (.int .i64) (.pair (.int .i64) (.pair (.list (.int .u8)) .unit)))], res := [(.int .i64)], fn := ref09_Check }
theorem pd_ref09_Check : PureD Try.prog cfg 21 p_ref09_Check := fnD sp0 (l := [(32, p_ref09_Many), (34, p_ref09_May)]) cfgOk rfl (.cons pd_ref09_Many (.cons pd_ref09_May .nil)) (fun d => by kernel_rfl)

/-- bytes.Equal -/
noncomputable def bytes_Equal (d0 : (List (Int)) × (List (Int))) : Option (Bool) :=
 Dat.bnd (Dat.str d0.1) fun (x1 : List (UInt8)) =>
 Dat.bnd (Dat.str d0.2) fun (x2 : List (UInt8)) =>
 some (Dat.seq x1 x2)
noncomputable def p_bytes_Equal : PFn := { args := [(.list (.int .u8)), (.list (.int .u8))], res := [.bool], fn := bytes_Equal }
theorem pd_bytes_Equal : PureD Try.prog cfg 28 p_bytes_Equal := fnD sp0 (l := []) cfgOk rfl .nil (fun d => by kernel_rfl)

/-- thimblerig/slot.Same -/
noncomputable def slot_Same (d0 : ((Int) × ((Int) × ((List (Int)) × (Unit)))) × ((Int) × ((Int) × ((List (Int)) × (Unit))))) : Option (Bool) :=
 (bif (Dat.ieq d0.1.1 d0.2.1) then (bif (Dat.pickB true (Dat.ieq d0.1.2.1 d0.2.2.1) false) then Dat.bind (bytes_Equal (d0.1.2.2.1, d0.2.2.2.1)) fun (x1 : Bool) =>
 some (Dat.pickB true x1 false)
 else some false)
 else some false)
noncomputable def p_slot_Same : PFn := { args := [(.pair (.int .i64) (.pair (.int .i64) (.pair (.list (.int .u8)) .unit))), (.pair (.int .i64) (.pair (.int .i64) (.pair (.list (.int .u8)) .unit)))], res := [.bool], fn := slot_Same }
theorem pd_slot_Same : PureD Try.prog cfg 22 p_slot_Same := fnD sp0 (l := [(28, p_bytes_Equal)]) cfgOk rfl (.cons pd_bytes_Equal .nil) (fun d => by kernel_rfl)

/-- thimblerig/thimblerigref09.Same -/
noncomputable def ref09_Same (d0 : ((Int) × ((Int) × ((List (Int)) × (Unit)))) × ((Int) × ((Int) × ((List (Int)) × (Unit))))) : Option (Bool) :=
 (bif (Dat.ieq d0.1.1 d0.2.1) then (bif (Dat.pickB true (Dat.ieq d0.1.2.1 d0.2.2.1) false) then Dat.bind (ref01_Same (d0.1.2.2.1, d0.2.2.2.1)) fun (x1 : Bool) =>
 some (Dat.pickB true x1 false)
 else some false)
 else some false)
noncomputable def p_ref09_Same : PFn := { args := [(.pair (.int .i64) (.pair (.int .i64) (.pair (.list (.int .u8)) .unit))), (.pair (.int .i64) (.pair (.int .i64) (.pair (.list (.int .u8)) .unit)))], res := [.bool], fn := ref09_Same }
theorem pd_ref09_Same : PureD Try.prog cfg 23 p_ref09_Same := fnD sp0 (l := [(12, p_ref01_Same)]) cfgOk rfl (.cons pd_ref01_Same .nil) (fun d => by kernel_rfl)

/-- thimblerig/thimbleriglaw09.SlotWrites -/
noncomputable def law09_SlotWrites (d0 : ((Int) × ((Int) × ((Int) × ((Int) × (Unit))))) × (((Int) × ((Int) × ((List (Int)) × (Unit)))) × ((Int) × ((Int) × ((List (Int)) × (Unit)))))) : Option (Bool) :=
 Dat.join (σ := Bool) (fun k1 =>
 (bif (Dat.igt (Dat.ofN (Dat.len d0.2.1.2.2.1)) 1000) then k1 true
 else k1 (Dat.pickB false true (Dat.igt (Dat.ofN (Dat.len d0.2.2.2.2.1)) 1000)))) fun (j2 : Bool) =>
 (bif j2 then some true
 else Dat.bind (ref09_Twin (d0.2.1.1, (d0.2.1.2.1, (d0.2.1.2.2.1, ())))) fun (x3 : (Int) × ((Int) × ((List (Int)) × (Unit)))) =>
 Dat.bind (slot_Slots (d0.1.1, (d0.1.2.1, (d0.1.2.2.1, (d0.1.2.2.2.1, ()))))) fun (x4 : (Int) × (Int)) =>
 Dat.bind (ref09_Slots (d0.1.1, (d0.1.2.1, (d0.1.2.2.1, (d0.1.2.2.2.1, ()))))) fun (x5 : (Int) × (Int)) =>
 Dat.bind (slot_Write ((d0.1.1, (d0.1.2.1, (d0.1.2.2.1, (d0.1.2.2.2.1, ())))), (x3.1, (x3.2.1, (x3.2.2.1, ()))))) fun (x6 : (List (Int)) × (Int)) =>
 if (Dat.EqN (Dat.len x6.1) 0) then Dat.bind (ref09_Write ((d0.1.1, (d0.1.2.1, (d0.1.2.2.1, (d0.1.2.2.2.1, ())))), (d0.2.1.1, (d0.2.1.2.1, (d0.2.1.2.2.1, ()))))) fun (x9 : (List (Int)) × (Int)) =>
 Dat.bind (slot_None (d0.1.1, (d0.1.2.1, (d0.1.2.2.1, (d0.1.2.2.2.1, ()))))) fun (x10 : (List (Int)) × (Int)) =>
 Dat.bind (ref09_None (d0.1.1, (d0.1.2.1, (d0.1.2.2.1, (d0.1.2.2.2.1, ()))))) fun (x11 : (List (Int)) × (Int)) =>
 Dat.bind (slot_Twin (x3.1, (x3.2.1, (x3.2.2.1, ())))) fun (x12 : (Int) × ((Int) × ((List (Int)) × (Unit)))) =>
 if (Dat.EqN (Dat.len x12.2.2.1) 0) then Dat.join (σ := Bool) (fun k15 =>
 (bif (Dat.ieq x4.1 x5.1) then (bif (Dat.pickB true (Dat.ieq x4.2 x5.2) false) then Dat.bind (ref01_Same (x6.1, x9.1)) fun (x16 : Bool) =>
 (bif (Dat.pickB true x16 false) then (bif (Dat.pickB true (Dat.ieq x6.2 x9.2) false) then Dat.bind (ref01_Same (x10.1, x11.1)) fun (x17 : Bool) =>
 (bif (Dat.pickB true x17 false) then k15 (Dat.pickB true (Dat.ieq x10.2 x11.2) false)
 else k15 false)
 else k15 false)
 else k15 false)
 else k15 false)
 else k15 false)) fun (j18 : Bool) =>
 Dat.join (σ := Bool) (fun k19 =>
 Dat.bind (slot_Check ((d0.1.1, (d0.1.2.1, (d0.1.2.2.1, (d0.1.2.2.2.1, ())))), (x3.1, (x3.2.1, (x3.2.2.1, ()))))) fun (x20 : Int) =>
 Dat.bind (ref09_Check ((d0.1.1, (d0.1.2.1, (d0.1.2.2.1, (d0.1.2.2.2.1, ())))), (d0.2.1.1, (d0.2.1.2.1, (d0.2.1.2.2.1, ()))))) fun (x21 : Int) =>
 (bif (Dat.ieq x20 x21) then Dat.bind (slot_Same ((x3.1, (x3.2.1, (x3.2.2.1, ()))), (d0.2.2.1, (d0.2.2.2.1, (d0.2.2.2.2.1, ()))))) fun (x22 : Bool) =>
 Dat.bind (ref09_Same ((d0.2.1.1, (d0.2.1.2.1, (d0.2.1.2.2.1, ()))), (d0.2.2.1, (d0.2.2.2.1, (d0.2.2.2.2.1, ()))))) fun (x23 : Bool) =>
 (bif (Dat.pickB true (Dat.beq x22 x23) false) then Dat.bind (slot_Same ((x3.1, (x3.2.1, (x3.2.2.1, ()))), (d0.2.1.1, (d0.2.1.2.1, (d0.2.1.2.2.1, ()))))) fun (x24 : Bool) =>
 (bif (Dat.pickB true x24 false) then Dat.bind (ref09_Same ((x12.1, (x12.2.1, (x12.2.2.1, ()))), (d0.2.1.1, (d0.2.1.2.1, (d0.2.1.2.2.1, ()))))) fun (x25 : Bool) =>
 k19 (Dat.pickB true x25 false)
 else k19 false)
 else k19 false)
 else k19 false)) fun (j26 : Bool) =>
 Dat.loop (fun (s27 : Int) k28 =>
 (bif (Dat.ilt s27 (Dat.ofN (Dat.len x12.2.2.1))) then if (Dat.Ix s27 (Dat.len x12.2.2.1)) then Dat.bnd (Dat.get x12.2.2.1 (Dat.toN s27) 0) fun (x31 : Int) =>
 Dat.bnd (Dat.wrap .u8 (Dat.add x31 1)) fun (x32 : Int) =>
 if (Dat.Ix s27 (Dat.len x12.2.2.1)) then Dat.bnd (Dat.get x12.2.2.1 (Dat.toN s27) 0) fun (x35 : Int) =>
 none
 else none
 else none
 else Dat.loop (fun (s36 : Int) k37 =>
 (bif (Dat.ilt s36 (Dat.ofN (Dat.len x6.1))) then if (Dat.Ix s36 (Dat.len x6.1)) then Dat.bnd (Dat.get x6.1 (Dat.toN s36) 0) fun (x40 : Int) =>
 Dat.bnd (Dat.wrap .u8 (Dat.add x40 1)) fun (x41 : Int) =>
 if (Dat.Ix s36 (Dat.len x6.1)) then Dat.bnd (Dat.get x6.1 (Dat.toN s36) 0) fun (x44 : Int) =>
 none
 else none
 else none
 else Dat.join (σ := Bool) (fun k45 =>
 (bif j18 then (bif (Dat.pickB true j26 false) then Dat.bind (ref09_Same ((x3.1, (x3.2.1, (x3.2.2.1, ()))), (d0.2.1.1, (d0.2.1.2.1, (d0.2.1.2.2.1, ()))))) fun (x46 : Bool) =>
 k45 (Dat.pickB true x46 false)
 else k45 false)
 else k45 false)) fun (j47 : Bool) =>
 some j47)) 0)) 0
 else Dat.join (σ := Bool) (fun k48 =>
 (bif (Dat.ieq x4.1 x5.1) then (bif (Dat.pickB true (Dat.ieq x4.2 x5.2) false) then Dat.bind (ref01_Same (x6.1, x9.1)) fun (x49 : Bool) =>
 (bif (Dat.pickB true x49 false) then (bif (Dat.pickB true (Dat.ieq x6.2 x9.2) false) then Dat.bind (ref01_Same (x10.1, x11.1)) fun (x50 : Bool) =>
 (bif (Dat.pickB true x50 false) then k48 (Dat.pickB true (Dat.ieq x10.2 x11.2) false)
 else k48 false)
 else k48 false)
 else k48 false)
 else k48 false)
 else k48 false)) fun (j51 : Bool) =>
 Dat.join (σ := Bool) (fun k52 =>
 Dat.bind (slot_Check ((d0.1.1, (d0.1.2.1, (d0.1.2.2.1, (d0.1.2.2.2.1, ())))), (x3.1, (x3.2.1, (x3.2.2.1, ()))))) fun (x53 : Int) =>
 Dat.bind (ref09_Check ((d0.1.1, (d0.1.2.1, (d0.1.2.2.1, (d0.1.2.2.2.1, ())))), (d0.2.1.1, (d0.2.1.2.1, (d0.2.1.2.2.1, ()))))) fun (x54 : Int) =>
 (bif (Dat.ieq x53 x54) then Dat.bind (slot_Same ((x3.1, (x3.2.1, (x3.2.2.1, ()))), (d0.2.2.1, (d0.2.2.2.1, (d0.2.2.2.2.1, ()))))) fun (x55 : Bool) =>
 Dat.bind (ref09_Same ((d0.2.1.1, (d0.2.1.2.1, (d0.2.1.2.2.1, ()))), (d0.2.2.1, (d0.2.2.2.1, (d0.2.2.2.2.1, ()))))) fun (x56 : Bool) =>
 (bif (Dat.pickB true (Dat.beq x55 x56) false) then Dat.bind (slot_Same ((x3.1, (x3.2.1, (x3.2.2.1, ()))), (d0.2.1.1, (d0.2.1.2.1, (d0.2.1.2.2.1, ()))))) fun (x57 : Bool) =>
 (bif (Dat.pickB true x57 false) then if (Dat.Le (Dat.addN 0 (Dat.len x12.2.2.1)) (Dat.len x12.2.2.1)) then Dat.bind (ref09_Same ((x12.1, (x12.2.1, ((Dat.seg x12.2.2.1 0 (Dat.len x12.2.2.1)), ()))), (d0.2.1.1, (d0.2.1.2.1, (d0.2.1.2.2.1, ()))))) fun (x60 : Bool) =>
 k52 (Dat.pickB true x60 false)
 else none
 else k52 false)
 else k52 false)
 else k52 false)) fun (j61 : Bool) =>
 Dat.loop (fun (s62 : (Int) × (List (Int))) k63 =>
 (bif (Dat.ilt s62.1 (Dat.ofN (Dat.len x12.2.2.1))) then if (Dat.In s62.1 (Dat.len x12.2.2.1)) then if (Dat.Lt (Dat.addN 0 (Dat.toN s62.1)) (Dat.len s62.2)) then Dat.bnd (Dat.get s62.2 (Dat.addN 0 (Dat.toN s62.1)) 0) fun (x68 : Int) =>
 Dat.bnd (Dat.wrap .u8 (Dat.add x68 1)) fun (x69 : Int) =>
 if (Dat.In s62.1 (Dat.len x12.2.2.1)) then if (Dat.Lt (Dat.addN 0 (Dat.toN s62.1)) (Dat.len s62.2)) then Dat.bnd (Dat.set s62.2 (Dat.addN 0 (Dat.toN s62.1)) x69) fun (x74 : List (Int)) =>
 Dat.bnd (Dat.wrap .i64 (Dat.add s62.1 1)) fun (x75 : Int) =>
 k63 (x75, x74)
 else none
 else none
 else none
 else none
 else Dat.loop (fun (s76 : Int) k77 =>
 (bif (Dat.ilt s76 (Dat.ofN (Dat.len x6.1))) then if (Dat.Ix s76 (Dat.len x6.1)) then Dat.bnd (Dat.get x6.1 (Dat.toN s76) 0) fun (x80 : Int) =>
 Dat.bnd (Dat.wrap .u8 (Dat.add x80 1)) fun (x81 : Int) =>
 if (Dat.Ix s76 (Dat.len x6.1)) then Dat.bnd (Dat.get x6.1 (Dat.toN s76) 0) fun (x84 : Int) =>
 none
 else none
 else none
 else Dat.join (σ := Bool) (fun k85 =>
 (bif j51 then (bif (Dat.pickB true j61 false) then Dat.bind (ref09_Same ((x3.1, (x3.2.1, (x3.2.2.1, ()))), (d0.2.1.1, (d0.2.1.2.1, (d0.2.1.2.2.1, ()))))) fun (x86 : Bool) =>
 k85 (Dat.pickB true x86 false)
 else k85 false)
 else k85 false)) fun (j87 : Bool) =>
 some j87)) 0)) (0, x12.2.2.1)
 else Dat.bind (ref09_Write ((d0.1.1, (d0.1.2.1, (d0.1.2.2.1, (d0.1.2.2.2.1, ())))), (d0.2.1.1, (d0.2.1.2.1, (d0.2.1.2.2.1, ()))))) fun (x88 : (List (Int)) × (Int)) =>
 Dat.bind (slot_None (d0.1.1, (d0.1.2.1, (d0.1.2.2.1, (d0.1.2.2.2.1, ()))))) fun (x89 : (List (Int)) × (Int)) =>
 Dat.bind (ref09_None (d0.1.1, (d0.1.2.1, (d0.1.2.2.1, (d0.1.2.2.2.1, ()))))) fun (x90 : (List (Int)) × (Int)) =>
 Dat.bind (slot_Twin (x3.1, (x3.2.1, (x3.2.2.1, ())))) fun (x91 : (Int) × ((Int) × ((List (Int)) × (Unit)))) =>
 if (Dat.EqN (Dat.len x91.2.2.1) 0) then Dat.join (σ := Bool) (fun k94 =>
 (bif (Dat.ieq x4.1 x5.1) then (bif (Dat.pickB true (Dat.ieq x4.2 x5.2) false) then if (Dat.Le (Dat.addN 0 (Dat.len x6.1)) (Dat.len x6.1)) then Dat.bind (ref01_Same ((Dat.seg x6.1 0 (Dat.len x6.1)), x88.1)) fun (x97 : Bool) =>
 (bif (Dat.pickB true x97 false) then (bif (Dat.pickB true (Dat.ieq x6.2 x88.2) false) then Dat.bind (ref01_Same (x89.1, x90.1)) fun (x98 : Bool) =>
 (bif (Dat.pickB true x98 false) then k94 (Dat.pickB true (Dat.ieq x89.2 x90.2) false)
 else k94 false)
 else k94 false)
 else k94 false)
 else none
 else k94 false)
 else k94 false)) fun (j99 : Bool) =>
 Dat.join (σ := Bool) (fun k100 =>
 Dat.bind (slot_Check ((d0.1.1, (d0.1.2.1, (d0.1.2.2.1, (d0.1.2.2.2.1, ())))), (x3.1, (x3.2.1, (x3.2.2.1, ()))))) fun (x101 : Int) =>
 Dat.bind (ref09_Check ((d0.1.1, (d0.1.2.1, (d0.1.2.2.1, (d0.1.2.2.2.1, ())))), (d0.2.1.1, (d0.2.1.2.1, (d0.2.1.2.2.1, ()))))) fun (x102 : Int) =>
 (bif (Dat.ieq x101 x102) then Dat.bind (slot_Same ((x3.1, (x3.2.1, (x3.2.2.1, ()))), (d0.2.2.1, (d0.2.2.2.1, (d0.2.2.2.2.1, ()))))) fun (x103 : Bool) =>
 Dat.bind (ref09_Same ((d0.2.1.1, (d0.2.1.2.1, (d0.2.1.2.2.1, ()))), (d0.2.2.1, (d0.2.2.2.1, (d0.2.2.2.2.1, ()))))) fun (x104 : Bool) =>
 (bif (Dat.pickB true (Dat.beq x103 x104) false) then Dat.bind (slot_Same ((x3.1, (x3.2.1, (x3.2.2.1, ()))), (d0.2.1.1, (d0.2.1.2.1, (d0.2.1.2.2.1, ()))))) fun (x105 : Bool) =>
 (bif (Dat.pickB true x105 false) then Dat.bind (ref09_Same ((x91.1, (x91.2.1, (x91.2.2.1, ()))), (d0.2.1.1, (d0.2.1.2.1, (d0.2.1.2.2.1, ()))))) fun (x106 : Bool) =>
 k100 (Dat.pickB true x106 false)
 else k100 false)
 else k100 false)
 else k100 false)) fun (j107 : Bool) =>
 Dat.loop (fun (s108 : Int) k109 =>
 (bif (Dat.ilt s108 (Dat.ofN (Dat.len x91.2.2.1))) then if (Dat.Ix s108 (Dat.len x91.2.2.1)) then Dat.bnd (Dat.get x91.2.2.1 (Dat.toN s108) 0) fun (x112 : Int) =>
 Dat.bnd (Dat.wrap .u8 (Dat.add x112 1)) fun (x113 : Int) =>
 if (Dat.Ix s108 (Dat.len x91.2.2.1)) then Dat.bnd (Dat.get x91.2.2.1 (Dat.toN s108) 0) fun (x116 : Int) =>
 none
 else none
 else none
 else Dat.loop (fun (s117 : (Int) × (List (Int))) k118 =>
 (bif (Dat.ilt s117.1 (Dat.ofN (Dat.len x6.1))) then if (Dat.In s117.1 (Dat.len x6.1)) then if (Dat.Lt (Dat.addN 0 (Dat.toN s117.1)) (Dat.len s117.2)) then Dat.bnd (Dat.get s117.2 (Dat.addN 0 (Dat.toN s117.1)) 0) fun (x123 : Int) =>
 Dat.bnd (Dat.wrap .u8 (Dat.add x123 1)) fun (x124 : Int) =>
 if (Dat.In s117.1 (Dat.len x6.1)) then if (Dat.Lt (Dat.addN 0 (Dat.toN s117.1)) (Dat.len s117.2)) then Dat.bnd (Dat.set s117.2 (Dat.addN 0 (Dat.toN s117.1)) x124) fun (x129 : List (Int)) =>
 Dat.bnd (Dat.wrap .i64 (Dat.add s117.1 1)) fun (x130 : Int) =>
 k118 (x130, x129)
 else none
 else none
 else none
 else none
 else Dat.join (σ := Bool) (fun k131 =>
 (bif j99 then (bif (Dat.pickB true j107 false) then Dat.bind (ref09_Same ((x3.1, (x3.2.1, (x3.2.2.1, ()))), (d0.2.1.1, (d0.2.1.2.1, (d0.2.1.2.2.1, ()))))) fun (x132 : Bool) =>
 k131 (Dat.pickB true x132 false)
 else k131 false)
 else k131 false)) fun (j133 : Bool) =>
 some j133)) (0, x6.1))) 0
 else Dat.join (σ := Bool) (fun k134 =>
 (bif (Dat.ieq x4.1 x5.1) then (bif (Dat.pickB true (Dat.ieq x4.2 x5.2) false) then if (Dat.Le (Dat.addN 0 (Dat.len x6.1)) (Dat.len x6.1)) then Dat.bind (ref01_Same ((Dat.seg x6.1 0 (Dat.len x6.1)), x88.1)) fun (x137 : Bool) =>
 (bif (Dat.pickB true x137 false) then (bif (Dat.pickB true (Dat.ieq x6.2 x88.2) false) then Dat.bind (ref01_Same (x89.1, x90.1)) fun (x138 : Bool) =>
 (bif (Dat.pickB true x138 false) then k134 (Dat.pickB true (Dat.ieq x89.2 x90.2) false)
 else k134 false)
 else k134 false)
 else k134 false)
 else none
 else k134 false)
 else k134 false)) fun (j139 : Bool) =>
 Dat.join (σ := Bool) (fun k140 =>
 Dat.bind (slot_Check ((d0.1.1, (d0.1.2.1, (d0.1.2.2.1, (d0.1.2.2.2.1, ())))), (x3.1, (x3.2.1, (x3.2.2.1, ()))))) fun (x141 : Int) =>
 Dat.bind (ref09_Check ((d0.1.1, (d0.1.2.1, (d0.1.2.2.1, (d0.1.2.2.2.1, ())))), (d0.2.1.1, (d0.2.1.2.1, (d0.2.1.2.2.1, ()))))) fun (x142 : Int) =>
 (bif (Dat.ieq x141 x142) then Dat.bind (slot_Same ((x3.1, (x3.2.1, (x3.2.2.1, ()))), (d0.2.2.1, (d0.2.2.2.1, (d0.2.2.2.2.1, ()))))) fun (x143 : Bool) =>
 Dat.bind (ref09_Same ((d0.2.1.1, (d0.2.1.2.1, (d0.2.1.2.2.1, ()))), (d0.2.2.1, (d0.2.2.2.1, (d0.2.2.2.2.1, ()))))) fun (x144 : Bool) =>
 (bif (Dat.pickB true (Dat.beq x143 x144) false) then Dat.bind (slot_Same ((x3.1, (x3.2.1, (x3.2.2.1, ()))), (d0.2.1.1, (d0.2.1.2.1, (d0.2.1.2.2.1, ()))))) fun (x145 : Bool) =>
 (bif (Dat.pickB true x145 false) then if (Dat.Le (Dat.addN 0 (Dat.len x91.2.2.1)) (Dat.len x91.2.2.1)) then Dat.bind (ref09_Same ((x91.1, (x91.2.1, ((Dat.seg x91.2.2.1 0 (Dat.len x91.2.2.1)), ()))), (d0.2.1.1, (d0.2.1.2.1, (d0.2.1.2.2.1, ()))))) fun (x148 : Bool) =>
 k140 (Dat.pickB true x148 false)
 else none
 else k140 false)
 else k140 false)
 else k140 false)) fun (j149 : Bool) =>
 Dat.loop (fun (s150 : (Int) × (List (Int))) k151 =>
 (bif (Dat.ilt s150.1 (Dat.ofN (Dat.len x91.2.2.1))) then if (Dat.In s150.1 (Dat.len x91.2.2.1)) then if (Dat.Lt (Dat.addN 0 (Dat.toN s150.1)) (Dat.len s150.2)) then Dat.bnd (Dat.get s150.2 (Dat.addN 0 (Dat.toN s150.1)) 0) fun (x156 : Int) =>
 Dat.bnd (Dat.wrap .u8 (Dat.add x156 1)) fun (x157 : Int) =>
 if (Dat.In s150.1 (Dat.len x91.2.2.1)) then if (Dat.Lt (Dat.addN 0 (Dat.toN s150.1)) (Dat.len s150.2)) then Dat.bnd (Dat.set s150.2 (Dat.addN 0 (Dat.toN s150.1)) x157) fun (x162 : List (Int)) =>
 Dat.bnd (Dat.wrap .i64 (Dat.add s150.1 1)) fun (x163 : Int) =>
 k151 (x163, x162)
 else none
 else none
 else none
 else none
 else Dat.loop (fun (s164 : (Int) × (List (Int))) k165 =>
 (bif (Dat.ilt s164.1 (Dat.ofN (Dat.len x6.1))) then if (Dat.In s164.1 (Dat.len x6.1)) then if (Dat.Lt (Dat.addN 0 (Dat.toN s164.1)) (Dat.len s164.2)) then Dat.bnd (Dat.get s164.2 (Dat.addN 0 (Dat.toN s164.1)) 0) fun (x170 : Int) =>
 Dat.bnd (Dat.wrap .u8 (Dat.add x170 1)) fun (x171 : Int) =>
 if (Dat.In s164.1 (Dat.len x6.1)) then if (Dat.Lt (Dat.addN 0 (Dat.toN s164.1)) (Dat.len s164.2)) then Dat.bnd (Dat.set s164.2 (Dat.addN 0 (Dat.toN s164.1)) x171) fun (x176 : List (Int)) =>
 Dat.bnd (Dat.wrap .i64 (Dat.add s164.1 1)) fun (x177 : Int) =>
 k165 (x177, x176)
 else none
 else none
 else none
 else none
 else Dat.join (σ := Bool) (fun k178 =>
 (bif j139 then (bif (Dat.pickB true j149 false) then Dat.bind (ref09_Same ((x3.1, (x3.2.1, (x3.2.2.1, ()))), (d0.2.1.1, (d0.2.1.2.1, (d0.2.1.2.2.1, ()))))) fun (x179 : Bool) =>
 k178 (Dat.pickB true x179 false)
 else k178 false)
 else k178 false)) fun (j180 : Bool) =>
 some j180)) (0, x6.1))) (0, x91.2.2.1))
noncomputable def p_law09_SlotWrites : PFn := { args := [(.pair (.int .i64) (.pair (.int .i64) (.pair (.int .i64) (.pair (.int .i64) .unit)))), (.pair (.int .i64) (.pair (.int .i64) (.pair (.list (.int .u8)) .unit))), (.pair (.int .i64) (.pair (.int .i64) (.pair (.list (.int .u8)) .unit)))], res := [.bool], fn := law09_SlotWrites }
def sp4_40 : List LSpec × List Nat := ([{ id := 5040000, known := false, toks := [], items := [], junk := [2], tails := [] }, { id := 5040001, known := true, toks := [], items := [.slot 8 (.val .bool)], junk := [3, 4, 5, 6, 7], tails := [] }, { id := 5040002, known := false, toks := [], items := [], junk := [2], tails := [] }, { id := 5040003, known := false, toks := [], items := [.slot 2 (.val (.int .i64))], junk := [], tails := [] }, { id := 5040004, known := false, toks := [], items := [.slot 2 (.val (.int .i64))], junk := [], tails := [] }], [])
def sp4_10 : List LSpec × List Nat := ([{ id := 5010000, known := false, toks := [], items := [], junk := [2, 3], tails := [] }, { id := 5010001, known := true, toks := [], items := [.slot 24 (.val .bool)], junk := [7, 8, 9, 10, 11, 12, 13, 14, 15, 16, 17, 18, 19, 20, 21, 22, 23], tails := [] }, { id := 5010002, known := false, toks := [], items := [], junk := [2, 3], tails := [] }, { id := 5010003, known := false, toks := [], items := [.slot 2 (.val (.int .i64)), .slot 3 (.val (.int .i64))], junk := [], tails := [] }, { id := 5010004, known := false, toks := [], items := [.slot 4 (.val (.int .i64)), .slot 5 (.val (.int .i64))], junk := [26, 27, 28, 25, 29, 30], tails := [] }, { id := 5010005, known := true, toks := [], items := [.slot 38 (.val .bool)], junk := [31, 32, 33, 34, 35, 36, 37], tails := [] }, { id := 5010006, known := false, toks := [], items := [], junk := [2, 3], tails := [] }, { id := 5010007, known := false, toks := [], items := [.slot 2 (.val (.int .i64)), .slot 3 (.val (.int .i64))], junk := [], tails := [] }, { id := 5010008, known := false, toks := [], items := [.slot 6 (.val (.int .i64))], junk := [], tails := [] }, { id := 1000, known := false, toks := [], items := [], junk := [], tails := [] }, { id := 5010009, known := false, toks := [], items := [.slot 40 (.val .bool)], junk := [39], tails := [] }, { id := 5010010, known := false, toks := [], items := [], junk := [], tails := [] }, { id := 5010011, known := false, toks := [], items := [.slot 50 (.val .bool)], junk := [43, 44, 45, 46, 47, 48, 49], tails := [] }, { id := 5010012, known := false, toks := [], items := [], junk := [51, 2, 3], tails := [] }, { id := 5010013, known := false, toks := [], items := [.slot 2 (.val (.int .i64)), .slot 3 (.val (.int .i64))], junk := [51], tails := [] }, { id := 5010014, known := false, toks := [], items := [.slot 6 (.val (.int .i64))], junk := [41, 42], tails := [] }, { id := 5010015, known := false, toks := [], items := [.slot 2 (.val (.int .i64)), .slot 3 (.val (.int .i64))], junk := [], tails := [] }], [])
def sp4_41 : List LSpec × List Nat := ([{ id := 5041000, known := false, toks := [], items := [], junk := [2], tails := [] }, { id := 5041001, known := true, toks := [], items := [.slot 2 (.val .bool)], junk := [3, 4, 5, 6, 7, 8], tails := [] }], [])
def sp4_32 : List LSpec × List Nat := ([{ id := 5032000, known := false, toks := [], items := [], junk := [2], tails := [] }, { id := 5032001, known := true, toks := [], items := [.slot 35 (.val .bool)], junk := [4, 5, 6, 7, 8, 9, 10, 11, 12, 13, 14, 15, 16, 17, 18, 19, 20, 21, 22, 23, 24, 25, 26, 27, 28, 29, 30, 31, 32, 33, 34], tails := [] }, { id := 5032002, known := false, toks := [], items := [], junk := [2], tails := [] }, { id := 5032003, known := false, toks := [], items := [.slot 2 (.val (.int .i64))], junk := [], tails := [] }, { id := 5032004, known := false, toks := [], items := [.slot 3 (.val (.int .i64))], junk := [], tails := [] }, { id := 3200, known := false, toks := [], items := [], junk := [], tails := [] }, { id := 5032005, known := false, toks := [], items := [.slot 37 (.val .bool)], junk := [36], tails := [] }, { id := 5032006, known := false, toks := [], items := [], junk := [], tails := [] }, { id := 5032007, known := false, toks := [], items := [.slot 48 (.val .bool)], junk := [40, 41, 42, 43, 44, 45, 46, 47], tails := [] }, { id := 5032008, known := false, toks := [], items := [], junk := [49, 2], tails := [] }, { id := 5032009, known := false, toks := [], items := [.slot 2 (.val (.int .i64))], junk := [49], tails := [] }, { id := 5032010, known := false, toks := [], items := [.slot 3 (.val (.int .i64))], junk := [38, 39], tails := [] }, { id := 5032011, known := false, toks := [], items := [.slot 2 (.val (.int .i64))], junk := [], tails := [] }], [])
def sp4_13 : List LSpec × List Nat := ([{ id := 5013000, known := false, toks := [], items := [], junk := [4], tails := [] }, { id := 5013001, known := false, toks := [], items := [.slot 6 (.val (.int .i64))], junk := [10, 11, 9, 12, 13, 5], tails := [] }, { id := 5013002, known := false, toks := [], items := [.slot 15 (.val .bool)], junk := [14], tails := [] }, { id := 5013003, known := false, toks := [], items := [], junk := [16, 4], tails := [] }, { id := 5013004, known := false, toks := [], items := [.slot 4 (.val (.int .i64))], junk := [16], tails := [] }, { id := 5013005, known := false, toks := [], items := [.slot 7 (.val (.int .i64))], junk := [18, 19, 20, 17, 21, 22, 8], tails := [] }, { id := 5013006, known := true, toks := [], items := [.slot 51 (.val .bool)], junk := [23, 24, 25, 26, 27, 28, 29, 30, 31, 32, 33, 34, 35, 36, 37, 38, 39, 40, 41, 42, 43, 44, 45, 46, 47, 48, 49, 50], tails := [] }, { id := 5013007, known := false, toks := [], items := [], junk := [4], tails := [] }, { id := 5013008, known := false, toks := [], items := [.slot 4 (.val (.int .i64))], junk := [], tails := [] }, { id := 5013009, known := false, toks := [], items := [.slot 4 (.val (.int .i64))], junk := [], tails := [] }], [])
def sp4_48 : List LSpec × List Nat := ([{ id := 5048000, known := false, toks := [], items := [], junk := [5], tails := [] }, { id := 5048001, known := true, toks := [], items := [.slot 13 (.val .bool)], junk := [6, 7, 8, 9, 10, 11, 12], tails := [] }, { id := 5048002, known := false, toks := [], items := [], junk := [5], tails := [] }, { id := 5048003, known := false, toks := [], items := [.slot 5 (.val .bool)], junk := [], tails := [] }, { id := 5048004, known := false, toks := [], items := [], junk := [14, 15, 16], tails := [] }, { id := 5048005, known := false, toks := [], items := [.slot 5 (.val .bool)], junk := [17, 18], tails := [] }], [])
def sp4_44 : List LSpec × List Nat := ([{ id := 5044000, known := false, toks := [], items := [], junk := [4], tails := [] }, { id := 5044001, known := true, toks := [], items := [.slot 4 (.val .bool)], junk := [5, 6, 7, 8, 9, 10, 11, 12, 13], tails := [] }], [])
def sp4_34 : List LSpec × List Nat := ([{ id := 5034000, known := false, toks := [], items := [], junk := [4], tails := [] }, { id := 5034001, known := true, toks := [], items := [.slot 4 (.val .bool)], junk := [5, 6, 7, 8, 9, 10, 11, 12, 13, 14, 15, 16, 17, 18, 19, 20, 21, 22, 23, 24, 25, 26, 27, 28, 29, 30, 31, 32, 33, 34, 35], tails := [] }], [])
def sp4_51 : List LSpec × List Nat := ([{ id := 5051000, known := false, toks := [], items := [], junk := [2], tails := [] }, { id := 5051001, known := false, toks := [], items := [.slot 7 (.val .bool)], junk := [5, 6], tails := [] }, { id := 5051002, known := false, toks := [], items := [], junk := [2], tails := [] }, { id := 5051003, known := false, toks := [], items := [.slot 2 (.val (.int .i64))], junk := [], tails := [] }, { id := 5051004, known := false, toks := [], items := [.slot 3 (.val (.int .i64))], junk := [], tails := [] }, { id := 5051005, known := false, toks := [], items := [.slot 4 (.val (.int .i64))], junk := [], tails := [] }, { id := 5100, known := false, toks := [], items := [], junk := [], tails := [] }, { id := 5051006, known := false, toks := [], items := [.slot 11 (.val .bool)], junk := [8, 9, 10], tails := [] }, { id := 5051007, known := false, toks := [], items := [], junk := [], tails := [] }, { id := 5051008, known := true, toks := [], items := [.slot 25 (.val .bool)], junk := [14, 15, 16, 17, 18, 19, 20, 21, 22, 23, 24], tails := [] }, { id := 5051009, known := false, toks := [], items := [], junk := [2], tails := [] }, { id := 5051010, known := false, toks := [], items := [.slot 2 (.val (.int .i64))], junk := [], tails := [] }, { id := 5051011, known := false, toks := [], items := [.slot 3 (.val (.int .i64))], junk := [26, 27, 28, 29, 30, 31], tails := [] }, { id := 5051012, known := false, toks := [], items := [.slot 4 (.val (.int .i64))], junk := [12, 13], tails := [] }, { id := 5051013, known := false, toks := [], items := [.slot 33 (.val .bool)], junk := [32], tails := [] }, { id := 5051014, known := false, toks := [], items := [], junk := [2], tails := [] }, { id := 5051015, known := false, toks := [], items := [.slot 2 (.val (.int .i64))], junk := [], tails := [] }, { id := 5051016, known := false, toks := [], items := [.slot 2 (.val (.int .i64))], junk := [34], tails := [] }], [])
def sp4_49 : List LSpec × List Nat := ([{ id := 5049000, known := false, toks := [], items := [], junk := [2], tails := [] }, { id := 5049001, known := false, toks := [], items := [.slot 3 (.val (.int .i64))], junk := [], tails := [] }, { id := 4900, known := false, toks := [], items := [], junk := [], tails := [] }, { id := 5049002, known := false, toks := [], items := [.slot 7 (.val .bool)], junk := [4, 5, 6], tails := [] }, { id := 5049003, known := false, toks := [], items := [], junk := [], tails := [] }, { id := 5049004, known := true, toks := [], items := [.slot 21 (.val .bool)], junk := [10, 11, 12, 13, 14, 15, 16, 17, 18, 19, 20], tails := [] }, { id := 5049005, known := false, toks := [], items := [], junk := [2], tails := [] }, { id := 5049006, known := false, toks := [], items := [.slot 2 (.val .bool)], junk := [], tails := [] }, { id := 5049007, known := false, toks := [], items := [.slot 3 (.val (.int .i64))], junk := [8, 9], tails := [] }, { id := 5049008, known := false, toks := [], items := [.slot 2 (.val .bool)], junk := [22, 23, 24], tails := [] }], [])
def sp4_46 : List LSpec × List Nat := ([{ id := 5046000, known := false, toks := [], items := [], junk := [4, 5], tails := [] }, { id := 5046001, known := true, toks := [], items := [.slot 19 (.val .bool)], junk := [10, 11, 12, 13, 14, 15, 16, 17, 18], tails := [] }, { id := 5046002, known := false, toks := [], items := [], junk := [4, 5], tails := [] }, { id := 5046003, known := false, toks := [], items := [.slot 5 (.val (.int .i64))], junk := [], tails := [] }, { id := 5046004, known := false, toks := [], items := [], junk := [], tails := [] }, { id := 5046005, known := false, toks := [], items := [.slot 7 (.val (.int .i64))], junk := [], tails := [] }, { id := 4600, known := false, toks := [], items := [], junk := [], tails := [] }, { id := 5046006, known := false, toks := [], items := [.slot 23 (.val .bool)], junk := [20, 21, 22], tails := [] }, { id := 5046007, known := false, toks := [], items := [], junk := [], tails := [] }, { id := 5046008, known := false, toks := [], items := [.slot 9 (.val .bool)], junk := [27, 28, 29, 30, 31, 32, 33, 34, 35, 26, 36, 37], tails := [] }, { id := 5046009, known := false, toks := [], items := [.slot 39 (.val .bool)], junk := [38], tails := [] }, { id := 5046010, known := false, toks := [], items := [], junk := [4, 5], tails := [] }, { id := 5046011, known := false, toks := [], items := [.slot 5 (.val (.int .i64))], junk := [], tails := [] }, { id := 5046012, known := false, toks := [], items := [], junk := [40, 41, 42], tails := [] }, { id := 5046013, known := false, toks := [], items := [.slot 7 (.val (.int .i64))], junk := [24, 25], tails := [] }, { id := 5046014, known := false, toks := [], items := [.slot 5 (.val (.int .i64))], junk := [43], tails := [] }], [])
def sp4_18 : List LSpec × List Nat := ([{ id := 5018000, known := false, toks := [], items := [], junk := [4, 5], tails := [] }, { id := 5018001, known := true, toks := [], items := [.slot 14 (.val .bool)], junk := [6, 7, 8, 9, 10, 11, 12, 13], tails := [] }, { id := 5018002, known := false, toks := [], items := [], junk := [4, 5], tails := [] }, { id := 5018003, known := false, toks := [], items := [.slot 5 (.val (.int .i64))], junk := [], tails := [] }, { id := 5018004, known := false, toks := [], items := [.slot 5 (.val (.int .i64))], junk := [15, 16], tails := [] }], [])
def sp4_21 : List LSpec × List Nat := ([{ id := 5021000, known := false, toks := [], items := [], junk := [4], tails := [] }, { id := 5021001, known := true, toks := [], items := [.slot 13 (.val .bool)], junk := [5, 6, 7, 8, 9, 10, 11, 12], tails := [] }, { id := 5021002, known := false, toks := [], items := [], junk := [4], tails := [] }, { id := 5021003, known := false, toks := [], items := [.slot 4 (.val (.int .i64))], junk := [], tails := [] }, { id := 5021004, known := false, toks := [], items := [.slot 4 (.val (.int .i64))], junk := [], tails := [] }], [])
def sp4_22 : List LSpec × List Nat := ([{ id := 5022000, known := false, toks := [], items := [], junk := [4], tails := [] }, { id := 5022001, known := true, toks := [], items := [.slot 4 (.val .bool)], junk := [5, 6, 7, 8, 9, 10, 11, 12, 13, 14, 15, 16, 17, 18, 19, 20, 21, 22, 23], tails := [] }], [])
def sp4_23 : List LSpec × List Nat := ([{ id := 5023000, known := false, toks := [], items := [], junk := [4], tails := [] }, { id := 5023001, known := true, toks := [], items := [.slot 4 (.val .bool)], junk := [5, 6, 7, 8, 9, 10, 11, 12, 13, 14, 15, 16, 17, 18, 19, 20, 21, 22, 23], tails := [] }], [])
def sp4_4 : List LSpec × List Nat := ([{ id := 5004000, known := false, toks := [], items := [], junk := [6], tails := [] }, { id := 5004001, known := true, toks := [], items := [.slot 34 (.val .bool)], junk := [25, 26, 27, 28, 29, 30, 31, 32, 33], tails := [] }, { id := 5004002, known := false, toks := [], items := [], junk := [6], tails := [] }, { id := 5004003, known := false, toks := [], items := [.slot 6 (.val .bool)], junk := [], tails := [] }, { id := 5004004, known := false, toks := [], items := [], junk := [35, 36], tails := [] }, { id := 5004005, known := false, toks := [], items := [.slot 8 (.val (.int .i64)), .slot 9 (.val (.int .i64))], junk := [38, 39, 37, 40, 41], tails := [] }, { id := 5004006, known := false, toks := [], items := [.slot 10 (.val (.int .i64)), .slot 11 (.val (.int .i64))], junk := [43, 44, 42, 45, 46], tails := [] }, { id := 5004007, known := false, toks := [], items := [.slot 13 (.val (.int .i64))], junk := [48, 49, 50, 47, 51, 52], tails := [] }, { id := 5004008, known := false, toks := [], items := [.slot 15 (.val (.int .i64))], junk := [54, 55, 56, 53, 57, 58], tails := [] }, { id := 5004009, known := false, toks := [], items := [.slot 17 (.val (.int .i64))], junk := [60, 61, 59, 62, 63], tails := [] }, { id := 5004010, known := false, toks := [], items := [.slot 19 (.val (.int .i64))], junk := [65, 66, 64, 67, 68], tails := [] }, { id := 5004011, known := false, toks := [], items := [], junk := [69, 70], tails := [] }, { id := 5004012, known := true, toks := [], items := [.slot 21 (.val .bool)], junk := [71, 72, 73, 74, 75, 76, 77, 78, 79, 80, 81, 82, 83, 84, 85, 86, 87, 88, 89, 90, 91, 92, 93, 94, 95, 96, 97, 98], tails := [] }, { id := 5004013, known := true, toks := [], items := [.slot 22 (.val .bool)], junk := [99, 100, 101, 102, 103, 104, 105, 106, 107, 108, 109, 110, 111, 112, 113, 114, 115, 116, 117, 118, 119, 120, 121, 122, 123, 124], tails := [] }, { id := 5004014, known := false, toks := [], items := [.slot 23 (.val (.int .i64))], junk := [], tails := [] }, { id := 400, known := true, toks := [], items := [.slot 23 (.val (.int .i64)), .vec 3020002 (.int .u8)], junk := [125, 126, 127, 128, 129, 132, 133, 134, 135, 136, 137, 138, 139, 140, 141, 130, 131], tails := [] }, { id := 5004015, known := false, toks := [], items := [.slot 129 (.val .bool)], junk := [125, 126, 127, 128], tails := [] }, { id := 5004016, known := false, toks := [], items := [], junk := [], tails := [] }, { id := 5004017, known := false, toks := [], items := [], junk := [132, 133, 134, 135, 136, 137, 138, 139, 140, 141], tails := [] }, { id := 5004018, known := false, toks := [], items := [.slot 23 (.val (.int .i64))], junk := [130, 131], tails := [] }, { id := 5004019, known := false, toks := [], items := [.slot 24 (.val (.int .i64))], junk := [], tails := [] }, { id := 401, known := true, toks := [], items := [.slot 24 (.val (.int .i64)), .vec 1000012 (.int .u8)], junk := [142, 143, 144, 145, 148, 149, 150, 151, 152, 153, 154, 155, 146, 147], tails := [] }, { id := 5004020, known := false, toks := [], items := [.slot 145 (.val .bool)], junk := [142, 143, 144], tails := [] }, { id := 5004021, known := false, toks := [], items := [], junk := [], tails := [] }, { id := 5004022, known := false, toks := [], items := [], junk := [148, 149, 150, 151, 152, 153, 154, 155], tails := [] }, { id := 5004023, known := false, toks := [], items := [.slot 24 (.val (.int .i64))], junk := [146, 147], tails := [] }, { id := 5004024, known := true, toks := [], items := [.slot 6 (.val .bool)], junk := [156, 157, 158, 159, 160, 161, 162, 163, 164], tails := [] }], [])
def spt4 : Tab (List LSpec × List Nat) := (.node (.node (.node (.node .leaf none (.node .leaf (some sp4_23) .leaf)) none (.node (.node .leaf none (.node .leaf (some sp4_51) .leaf)) none .leaf)) none (.node (.node (.node .leaf none (.node .leaf (some sp4_49) .leaf)) none (.node (.node .leaf (some sp4_41) .leaf) none .leaf)) none (.node (.node .leaf (some sp4_21) .leaf) (some sp4_13) .leaf))) none (.node (.node (.node (.node (.node .leaf (some sp4_32) .leaf) none (.node .leaf (some sp4_48) .leaf)) none (.node (.node .leaf (some sp4_40) .leaf) none .leaf)) (some sp4_4) (.node .leaf none (.node (.node .leaf (some sp4_44) .leaf) none .leaf))) none (.node (.node (.node (.node .leaf (some sp4_34) .leaf) (some sp4_18) .leaf) (some sp4_10) .leaf) none (.node (.node .leaf (some sp4_22) .leaf) none (.node (.node .leaf (some sp4_46) .leaf) none .leaf)))))
def spf4 (f : Nat) : List LSpec × List Nat := (spt4.get f).getD ([], [])
theorem pd_law09_SlotWrites : PureD Try.prog cfg 4 p_law09_SlotWrites := fnDa spf4 [] (l := [(15, p_ref09_Twin), (10, p_slot_Slots), (16, p_ref09_Slots), (17, p_slot_Write), (18, p_ref09_Write), (7, p_slot_None), (19, p_ref09_None), (20, p_slot_Twin), (12, p_ref01_Same), (13, p_slot_Check), (21, p_ref09_Check), (22, p_slot_Same), (23, p_ref09_Same)]) (lo := [(17, o_slot_Write), (20, o_slot_Twin)]) cfgOk rfl (.cons pd_ref09_Twin (.cons pd_slot_Slots (.cons pd_ref09_Slots (.cons pd_slot_Write (.cons pd_ref09_Write (.cons pd_slot_None (.cons pd_ref09_None (.cons pd_slot_Twin (.cons pd_ref01_Same (.cons pd_slot_Check (.cons pd_ref09_Check (.cons pd_slot_Same (.cons pd_ref09_Same .nil))))))))))))) (.cons od_slot_Write.1 (.cons od_slot_Twin.1 .nil)) (fun d => by kernel_rfl)
end Go.Proofs.Ytcdjnaacgbncdaa
