/- The functions of the program, as functions on plain data. -/
import Derived.Test.YtcdjnaacgbncdaaCfg
import Derived.Test.YtcdjnaacgbncdaaM5
import Derived.ProofKit
namespace Go.Proofs.Ytcdjnaacgbncdaa
open Go.Eng
set_option linter.unusedVariables false
set_option maxRecDepth 100000
def sp0 (f : Nat) : List LSpec × List Nat := ([], [])

/-- thimblerig/thimbleriglaw09.level -/
noncomputable def law09_level (d0 : Unit) : Option ((Int) × ((Int) × ((Int) × ((Int) × (Unit))))) :=
 some (8, (4, (3, (88, ()))))
noncomputable def p_law09_level : PFn := { args := [], res := [(.pair (.int .i64) (.pair (.int .i64) (.pair (.int .i64) (.pair (.int .i64) .unit))))], fn := law09_level }
theorem pd_law09_level : PureD Try.prog cfg 8 p_law09_level := fnD sp0 (l := []) cfgOk rfl .nil (fun d => by kernel_rfl)

/-- thimblerig/geo.Check -/
noncomputable def geo_Check (d0 : Int) : Option (Int) :=
 (bif (Dat.ilt d0 1) then some 2
 else (bif (Dat.pickB false true (Dat.igt d0 6)) then some 2
 else some 0))
noncomputable def p_geo_Check : PFn := { args := [(.int .i64)], res := [(.int .i64)], fn := geo_Check }
theorem pd_geo_Check : PureD Try.prog cfg 40 p_geo_Check := fnD sp0 (l := []) cfgOk rfl .nil (fun d => by kernel_rfl)

/-- thimblerig/geo.Leaves -/
noncomputable def geo_Leaves (d0 : Int) : Option ((Int) × (Int)) :=
 Dat.bind (geo_Check d0) fun (x1 : Int) =>
 (bif (Dat.ine x1 0) then some (0, x1)
 else if (Dat.Neg d0) then none
 else Dat.bnd (Dat.shl .i64 1 d0) fun (x4 : Int) =>
 some (x4, 0))
noncomputable def p_geo_Leaves : PFn := { args := [(.int .i64)], res := [(.int .i64), (.int .i64)], fn := geo_Leaves }
theorem pd_geo_Leaves : PureD Try.prog cfg 31 p_geo_Leaves := fnD sp0 (l := [(40, p_geo_Check)]) cfgOk rfl (.cons pd_geo_Check .nil) (fun d => by kernel_rfl)

/-- thimblerig/slot.size -/
noncomputable def slot_size (d0 : (Int) × ((Int) × ((Int) × ((Int) × (Unit))))) : Option (Int) :=
 Dat.bnd (Dat.wrap .i64 (Dat.add 8 d0.2.1)) fun (x1 : Int) =>
 some x1
noncomputable def p_slot_size : PFn := { args := [(.pair (.int .i64) (.pair (.int .i64) (.pair (.int .i64) (.pair (.int .i64) .unit))))], res := [(.int .i64)], fn := slot_size }
theorem pd_slot_size : PureD Try.prog cfg 25 p_slot_size := fnD sp0 (l := []) cfgOk rfl .nil (fun d => by kernel_rfl)

/-- thimblerig/slot.Slots -/
noncomputable def slot_Slots (d0 : (Int) × ((Int) × ((Int) × ((Int) × (Unit))))) : Option ((Int) × (Int)) :=
 (bif (Dat.ilt d0.1 1) then some (0, 8)
 else (bif (Dat.pickB false true (Dat.igt d0.1 64)) then some (0, 8)
 else (bif (Dat.pickB false true (Dat.ilt d0.2.1 1)) then some (0, 8)
 else (bif (Dat.pickB false true (Dat.igt d0.2.1 32)) then some (0, 8)
 else Dat.bind (geo_Leaves d0.2.2.1) fun (x1 : (Int) × (Int)) =>
 (bif (Dat.ine x1.2 0) then some (0, 8)
 else (bif (Dat.pickB false true (Dat.ilt x1.1 d0.1)) then some (0, 8)
 else Dat.loop (fun (s2 : Int) k3 =>
 (bif (Dat.ile s2 4) then Dat.bind (slot_size (d0.1, (d0.2.1, (d0.2.2.1, (d0.2.2.2.1, ()))))) fun (x4 : Int) =>
 Dat.bnd (Dat.wrap .i64 (Dat.mul s2 x4)) fun (x5 : Int) =>
 Dat.bnd (Dat.wrap .i64 (Dat.add x5 64)) fun (x6 : Int) =>
 (bif (Dat.ieq d0.2.2.2.1 x6) then some (s2, 0)
 else Dat.bnd (Dat.wrap .i64 (Dat.add s2 1)) fun (x7 : Int) =>
 k3 x7)
 else some (0, 8))) 1))))))
noncomputable def p_slot_Slots : PFn := { args := [(.pair (.int .i64) (.pair (.int .i64) (.pair (.int .i64) (.pair (.int .i64) .unit))))], res := [(.int .i64), (.int .i64)], fn := slot_Slots }
def sp10_10 : List LSpec × List Nat := ([{ id := 1000, known := true, toks := [], items := [.slot 6 (.val (.int .i64))], junk := [39, 40, 43, 44, 45, 46, 47, 48, 49, 50, 51, 2, 3, 41, 42], tails := [] }], [])
def spt10 : Tab (List LSpec × List Nat) := (.node .leaf none (.node .leaf none (.node (.node .leaf (some sp10_10) .leaf) none .leaf)))
def spf10 (f : Nat) : List LSpec × List Nat := (spt10.get f).getD ([], [])
theorem pd_slot_Slots : PureD Try.prog cfg 10 p_slot_Slots := fnD spf10 (l := [(31, p_geo_Leaves), (25, p_slot_size)]) cfgOk rfl (.cons pd_geo_Leaves (.cons pd_slot_size .nil)) (fun d => by kernel_rfl)

/-- thimblerig/thimbleriglaw09.block -/
noncomputable def law09_block (d0 : Unit) : Option ((Int) × ((Int) × ((List (Int)) × (Unit)))) :=
 if (Dat.Le (Dat.addN 0 4) (Dat.len (97 :: (98 :: (99 :: (100 :: ([] : List (Int)))))))) then some (2, (5, ((Dat.seg (97 :: (98 :: (99 :: (100 :: ([] : List (Int)))))) 0 4), ())))
 else none
noncomputable def p_law09_block : PFn := { args := [], res := [(.pair (.int .i64) (.pair (.int .i64) (.pair (.list (.int .u8)) .unit)))], fn := law09_block }
theorem pd_law09_block : PureD Try.prog cfg 14 p_law09_block := fnD sp0 (l := []) cfgOk rfl .nil (fun d => by kernel_rfl)

/-- thimblerig/slot.Check -/
noncomputable def slot_Check (d0 : ((Int) × ((Int) × ((Int) × ((Int) × (Unit))))) × ((Int) × ((Int) × ((List (Int)) × (Unit))))) : Option (Int) :=
 Dat.bind (slot_Slots (d0.1.1, (d0.1.2.1, (d0.1.2.2.1, (d0.1.2.2.2.1, ()))))) fun (x1 : (Int) × (Int)) =>
 (bif (Dat.ine x1.2 0) then some x1.2
 else Dat.bind (geo_Leaves d0.1.2.2.1) fun (x2 : (Int) × (Int)) =>
 (bif (Dat.ilt d0.2.1 0) then some 8
 else (bif (Dat.pickB false true (Dat.ige d0.2.1 d0.1.1)) then some 8
 else (bif (Dat.pickB false true (Dat.ilt d0.2.2.1 0)) then some 8
 else (bif (Dat.pickB false true (Dat.ige d0.2.2.1 x2.1)) then some 8
 else (bif (Dat.pickB false true (Dat.ine (Dat.ofN (Dat.len d0.2.2.2.1)) d0.1.2.1)) then some 8
 else some 0))))))
noncomputable def p_slot_Check : PFn := { args := [(.pair (.int .i64) (.pair (.int .i64) (.pair (.int .i64) (.pair (.int .i64) .unit)))), (.pair (.int .i64) (.pair (.int .i64) (.pair (.list (.int .u8)) .unit)))], res := [(.int .i64)], fn := slot_Check }
theorem pd_slot_Check : PureD Try.prog cfg 13 p_slot_Check := fnD sp0 (l := [(10, p_slot_Slots), (31, p_geo_Leaves)]) cfgOk rfl (.cons pd_slot_Slots (.cons pd_geo_Leaves .nil)) (fun d => by kernel_rfl)

/-- thimblerig/slot.parts -/
noncomputable def slot_parts (d0 : (Int) × ((Int) × ((Int) × ((Int) × (Unit))))) : Option (List (Int)) :=
 if (Dat.EqN (Dat.len (Dat.rep 3 0)) (Dat.len (4 :: (4 :: (d0.2.1 :: ([] : List (Int))))))) then if (Dat.EqN (Dat.len (4 :: (4 :: (d0.2.1 :: ([] : List (Int)))))) 3) then some (4 :: (4 :: (d0.2.1 :: ([] : List (Int)))))
 else none
 else none
noncomputable def p_slot_parts : PFn := { args := [(.pair (.int .i64) (.pair (.int .i64) (.pair (.int .i64) (.pair (.int .i64) .unit))))], res := [(.arr 3 (.int .i64))], fn := slot_parts }
theorem pd_slot_parts : PureD Try.prog cfg 26 p_slot_parts := fnD sp0 (l := []) cfgOk rfl .nil (fun d => by kernel_rfl)

/-- thimblerig/num.together -/
noncomputable def num_together (d0 : (List (Int)) × ((Int) × (Int))) : Option ((Int) × (Int)) :=
 (bif (Dat.igt (Dat.ofN (Dat.len d0.1)) 64) then some (0, 2)
 else Dat.loop (fun (s1 : (Int) × (Int)) k2 =>
 (bif (Dat.ilt s1.1 (Dat.ofN (Dat.len d0.1))) then if (Dat.Ix s1.1 (Dat.len d0.1)) then Dat.bnd (Dat.get d0.1 (Dat.toN s1.1) 0) fun (x5 : Int) =>
 (bif (Dat.ilt x5 d0.2.1) then some (0, 2)
 else (bif (Dat.pickB false true (Dat.igt x5 d0.2.2)) then some (0, 2)
 else Dat.bnd (Dat.wrap .i64 (Dat.add s1.2 x5)) fun (x6 : Int) =>
 (bif (Dat.bnot (Dat.ile x6 65536)) then some (0, 2)
 else Dat.bnd (Dat.wrap .i64 (Dat.add s1.1 1)) fun (x7 : Int) =>
 k2 (x7, x6))))
 else none
 else some (s1.2, 0))) (0, 0))
noncomputable def p_num_together : PFn := { args := [(.list (.int .i64)), (.int .i64), (.int .i64)], res := [(.int .i64), (.int .i64)], fn := num_together }
def sp43_43 : List LSpec × List Nat := ([{ id := 4300, known := true, toks := [], items := [.slot 18 (.val (.int .i64)), .cells 1000008 [.val (.int .i64)]], junk := [19, 20, 21, 11, 22, 23, 24, 25, 6, 7, 26], tails := [] }], [])
def spt43 : Tab (List LSpec × List Nat) := (.node (.node (.node .leaf none (.node .leaf none (.node (.node .leaf (some sp43_43) .leaf) none .leaf))) none .leaf) none .leaf)
def spf43 (f : Nat) : List LSpec × List Nat := (spt43.get f).getD ([], [])
theorem pd_num_together : PureD Try.prog cfg 43 p_num_together := fnD spf43 (l := []) cfgOk rfl .nil (fun d => by kernel_rfl)

/-- thimblerig/num.fits -/
noncomputable def num_fits (d0 : (Int) × (Int)) : Option (Bool) :=
 (bif (Dat.ige d0.2 8) then some true
 else Dat.bnd (Dat.wrap .i64 (Dat.mul 8 d0.2)) fun (x1 : Int) =>
 if (Dat.Neg x1) then none
 else Dat.bnd (Dat.shr .u64 d0.1 x1) fun (x4 : Int) =>
 some (Dat.pickB false true (Dat.ieq x4 0)))
noncomputable def p_num_fits : PFn := { args := [(.int .u64), (.int .i64)], res := [.bool], fn := num_fits }
theorem pd_num_fits : PureD Try.prog cfg 44 p_num_fits := fnD sp0 (l := []) cfgOk rfl .nil (fun d => by kernel_rfl)

/-- thimblerig/num.Put -/
noncomputable def num_Put (d0 : (List (Int)) × (List (Int))) : Option ((List (Int)) × (Int)) :=
 Dat.bind (num_together (d0.2, (1, 8))) fun (x1 : (Int) × (Int)) =>
 (bif (Dat.ine x1.2 0) then some (([] : List (Int)), x1.2)
 else (bif (Dat.ine (Dat.ofN (Dat.len d0.1)) (Dat.ofN (Dat.len d0.2))) then some (([] : List (Int)), 2)
 else if (Dat.MkOk 0 x1.1 1) then if (Dat.EqN (Dat.toN 0) 0) then if (Dat.EqN 0 (Dat.len ([] : List (Int)))) then Dat.loop (fun (s8 : (List (Int)) × (Int)) k9 =>
 (bif (Dat.ilt s8.2 (Dat.ofN (Dat.len d0.2))) then if (Dat.Ix s8.2 (Dat.len d0.2)) then Dat.bnd (Dat.get d0.2 (Dat.toN s8.2) 0) fun (x12 : Int) =>
 if (Dat.Ix s8.2 (Dat.len d0.1)) then Dat.bnd (Dat.get d0.1 (Dat.toN s8.2) 0) fun (x15 : Int) =>
 Dat.bind (num_fits (x15, x12)) fun (x16 : Bool) =>
 (bif (Dat.bnot x16) then some (([] : List (Int)), 4)
 else if (Dat.Ix s8.2 (Dat.len d0.1)) then Dat.bnd (Dat.get d0.1 (Dat.toN s8.2) 0) fun (x19 : Int) =>
 if (Dat.EqN (Dat.len s8.1) (Dat.len s8.1)) then Dat.loop (fun (s22 : (List (Int)) × (Int)) k23 =>
 (bif (Dat.ilt s22.2 x12) then Dat.bnd (Dat.wrap .i64 (Dat.mul 8 s22.2)) fun (x24 : Int) =>
 if (Dat.Neg x24) then none
 else Dat.bnd (Dat.shr .u64 x19 x24) fun (x27 : Int) =>
 Dat.bnd (Dat.wrap .u8 x27) fun (x28 : Int) =>
 if (Dat.Le (Dat.addN 0 1) (Dat.len (x28 :: ([] : List (Int))))) then if (Dat.Big (Dat.len s22.1) (Dat.len (Dat.seg (x28 :: ([] : List (Int))) 0 1)) 1) then none
 else if (Dat.EqN (Dat.len s22.1) (Dat.len s22.1)) then Dat.bnd (Dat.app s22.1 (Dat.seg (x28 :: ([] : List (Int))) 0 1)) fun (x35 : List (Int)) =>
 Dat.bnd (Dat.wrap .i64 (Dat.add s22.2 1)) fun (x36 : Int) =>
 if (Dat.EqN (Dat.len x35) (Dat.len x35)) then k23 (x35, x36)
 else none
 else none
 else none
 else Dat.bnd (Dat.wrap .i64 (Dat.add s8.2 1)) fun (x39 : Int) =>
 if (Dat.EqN (Dat.len s22.1) (Dat.len s22.1)) then k9 (s22.1, x39)
 else none)) (s8.1, 0)
 else none
 else none)
 else none
 else none
 else if (Dat.EqN (Dat.len s8.1) (Dat.len s8.1)) then some (s8.1, 0)
 else none)) (([] : List (Int)), 0)
 else none
 else none
 else none))
noncomputable def p_num_Put : PFn := { args := [(.list (.int .u64)), (.list (.int .i64))], res := [(.list (.int .u8)), (.int .i64)], fn := num_Put }
def sp33_45 : List LSpec × List Nat := ([{ id := 4500, known := true, toks := [(0, (.int .u8))], items := [.slot 0 (.slt (.int .u8) (some 1000000) false), .slot 9 (.val (.int .i64))], junk := [10, 11, 7, 12, 13, 14, 15, 16, 17, 18, 19, 20], tails := [(1000000, 0)] }], [])
def sp33_33 : List LSpec × List Nat := ([{ id := 3300, known := true, toks := [(8, (.int .u8))], items := [.slot 8 (.slt (.int .u8) (some 1000008) false), .slot 28 (.val (.int .i64))], junk := [29, 30, 31, 32, 9, 10, 33, 34, 35, 36, 37, 38, 39, 4, 5, 40, 41, 42, 43, 44, 45, 46, 47], tails := [(1000008, 8)] }], [])
def spt33 : Tab (List LSpec × List Nat) := (.node (.node .leaf none (.node (.node (.node (.node .leaf (some sp33_33) .leaf) none .leaf) none .leaf) none (.node .leaf none (.node (.node .leaf (some sp33_45) .leaf) none .leaf)))) none .leaf)
def spf33 (f : Nat) : List LSpec × List Nat := (spt33.get f).getD ([], [])
noncomputable def o_num_Put : OFn := { args := [(.list (.int .u64)), (.list (.int .i64))], ores := [(.own (.int .u8)), (.plain (.int .i64))], fn := num_Put }
theorem od_num_Put : OwnD Try.prog cfg 33 o_num_Put ∧ PureD Try.prog cfg 33 o_num_Put.pfn := fnO spf33 [] (l := [(43, p_num_together), (44, p_num_fits)]) (lo := []) cfgOk rfl (.cons pd_num_together (.cons pd_num_fits .nil)) .nil (fun d => by kernel_rfl)
theorem pd_num_Put : PureD Try.prog cfg 33 p_num_Put := od_num_Put.2

/-- thimblerig/slot.Write -/
noncomputable def slot_Write (d0 : ((Int) × ((Int) × ((Int) × ((Int) × (Unit))))) × ((Int) × ((Int) × ((List (Int)) × (Unit))))) : Option ((List (Int)) × (Int)) :=
 Dat.bind (slot_Check ((d0.1.1, (d0.1.2.1, (d0.1.2.2.1, (d0.1.2.2.2.1, ())))), (d0.2.1, (d0.2.2.1, (d0.2.2.2.1, ()))))) fun (x1 : Int) =>
 (bif (Dat.ine x1 0) then some (([] : List (Int)), x1)
 else Dat.bind (slot_parts (d0.1.1, (d0.1.2.1, (d0.1.2.2.1, (d0.1.2.2.2.1, ()))))) fun (x2 : List (Int)) =>
 if (Dat.EqN (Dat.len (Dat.rep 3 0)) 3) then Dat.bnd (Dat.wrap .u64 d0.2.1) fun (x5 : Int) =>
 Dat.bnd (Dat.wrap .u64 (Dat.add x5 1)) fun (x6 : Int) =>
 Dat.bnd (Dat.wrap .u64 d0.2.2.1) fun (x7 : Int) =>
 if (Dat.Le 3 (Dat.len (Dat.norm 3 x2 0))) then if (Dat.Bd 2 3) then if (Dat.Lt 0 3) then if (Dat.Le (Dat.addN 0 2) (Dat.len (x6 :: (x7 :: ([] : List (Int)))))) then if (Dat.Le (Dat.addN 0 (Dat.subN (Dat.toN 2) 0)) (Dat.len (Dat.norm 3 x2 0))) then Dat.bind (num_Put ((Dat.seg (x6 :: (x7 :: ([] : List (Int)))) 0 2), (Dat.seg (Dat.norm 3 x2 0) 0 (Dat.subN (Dat.toN 2) 0)))) fun (x18 : (List (Int)) × (Int)) =>
 if (Dat.EqN (Dat.len x18.1) 0) then if (Dat.Big (Dat.len x18.1) (Dat.len d0.2.2.2.1) 1) then none
 else none
 else if (Dat.Le (Dat.addN 0 (Dat.len x18.1)) (Dat.len x18.1)) then if (Dat.Big (Dat.len (Dat.seg x18.1 0 (Dat.len x18.1))) (Dat.len d0.2.2.2.1) 1) then none
 else Dat.bnd (Dat.app (Dat.seg x18.1 0 (Dat.len x18.1)) d0.2.2.2.1) fun (x27 : List (Int)) =>
 if (Dat.EqN (Dat.len x27) (Dat.len x27)) then some (x27, x18.2)
 else none
 else none
 else none
 else none
 else if (Dat.Le (Dat.addN 0 2) (Dat.len (x6 :: (x7 :: ([] : List (Int)))))) then Dat.bind (num_Put ((Dat.seg (x6 :: (x7 :: ([] : List (Int)))) 0 2), ([] : List (Int)))) fun (x32 : (List (Int)) × (Int)) =>
 if (Dat.EqN (Dat.len x32.1) 0) then if (Dat.Big (Dat.len x32.1) (Dat.len d0.2.2.2.1) 1) then none
 else none
 else if (Dat.Le (Dat.addN 0 (Dat.len x32.1)) (Dat.len x32.1)) then if (Dat.Big (Dat.len (Dat.seg x32.1 0 (Dat.len x32.1))) (Dat.len d0.2.2.2.1) 1) then none
 else Dat.bnd (Dat.app (Dat.seg x32.1 0 (Dat.len x32.1)) d0.2.2.2.1) fun (x41 : List (Int)) =>
 if (Dat.EqN (Dat.len x41) (Dat.len x41)) then some (x41, x32.2)
 else none
 else none
 else none
 else none
 else none
 else none)
noncomputable def p_slot_Write : PFn := { args := [(.pair (.int .i64) (.pair (.int .i64) (.pair (.int .i64) (.pair (.int .i64) .unit)))), (.pair (.int .i64) (.pair (.int .i64) (.pair (.list (.int .u8)) .unit)))], res := [(.list (.int .u8)), (.int .i64)], fn := slot_Write }
noncomputable def o_slot_Write : OFn := { args := [(.pair (.int .i64) (.pair (.int .i64) (.pair (.int .i64) (.pair (.int .i64) .unit)))), (.pair (.int .i64) (.pair (.int .i64) (.pair (.list (.int .u8)) .unit)))], ores := [(.own (.int .u8)), (.plain (.int .i64))], fn := slot_Write }
theorem od_slot_Write : OwnD Try.prog cfg 17 o_slot_Write ∧ PureD Try.prog cfg 17 o_slot_Write.pfn := fnO sp0 [] (l := [(13, p_slot_Check), (26, p_slot_parts), (33, p_num_Put)]) (lo := [(33, o_num_Put)]) cfgOk rfl (.cons pd_slot_Check (.cons pd_slot_parts (.cons pd_num_Put .nil))) (.cons od_num_Put.1 .nil) (fun d => by kernel_rfl)
theorem pd_slot_Write : PureD Try.prog cfg 17 p_slot_Write := od_slot_Write.2

/-- thimblerig/slot.None -/
noncomputable def slot_None (d0 : (Int) × ((Int) × ((Int) × ((Int) × (Unit))))) : Option ((List (Int)) × (Int)) :=
 Dat.bind (slot_Slots (d0.1, (d0.2.1, (d0.2.2.1, (d0.2.2.2.1, ()))))) fun (x1 : (Int) × (Int)) =>
 (bif (Dat.ine x1.2 0) then some (([] : List (Int)), x1.2)
 else Dat.bind (slot_size (d0.1, (d0.2.1, (d0.2.2.1, (d0.2.2.2.1, ()))))) fun (x2 : Int) =>
 if (Dat.MkOk x2 x2 1) then if (Dat.Le (Dat.addN 0 (Dat.toN x2)) (Dat.len (Dat.rep (α := Int) (Dat.toN x2) 0))) then some ((Dat.seg (Dat.rep (α := Int) (Dat.toN x2) 0) 0 (Dat.toN x2)), 0)
 else none
 else none)
noncomputable def p_slot_None : PFn := { args := [(.pair (.int .i64) (.pair (.int .i64) (.pair (.int .i64) (.pair (.int .i64) .unit))))], res := [(.list (.int .u8)), (.int .i64)], fn := slot_None }
theorem pd_slot_None : PureD Try.prog cfg 7 p_slot_None := fnD sp0 (l := [(10, p_slot_Slots), (25, p_slot_size)]) cfgOk rfl (.cons pd_slot_Slots (.cons pd_slot_size .nil)) (fun d => by kernel_rfl)

/-- thimblerig/num.Size -/
noncomputable def num_Size (d0 : List (Int)) : Option ((Int) × (Int)) :=
 Dat.bind (num_together (d0, (0, 65536))) fun (x1 : (Int) × (Int)) =>
 some (x1.1, x1.2)
noncomputable def p_num_Size : PFn := { args := [(.list (.int .i64))], res := [(.int .i64), (.int .i64)], fn := num_Size }
theorem pd_num_Size : PureD Try.prog cfg 38 p_num_Size := fnD sp0 (l := [(43, p_num_together)]) cfgOk rfl (.cons pd_num_together .nil) (fun d => by kernel_rfl)

/-- slices.Clone(()byte,byte) -/
noncomputable def slices_Clone_byte_byte (d0 : List (Int)) : Option (List (Int)) :=
 if (Dat.Le (Dat.addN 0 0) (Dat.len ([] : List (Int)))) then if (Dat.Big (Dat.len (Dat.seg ([] : List (Int)) 0 0)) (Dat.len d0) 1) then none
 else Dat.bnd (Dat.app (Dat.seg ([] : List (Int)) 0 0) d0) fun (x5 : List (Int)) =>
 some x5
 else none
noncomputable def p_slices_Clone_byte_byte : PFn := { args := [(.list (.int .u8))], res := [(.list (.int .u8))], fn := slices_Clone_byte_byte }
noncomputable def cx36 : CloneX Try.prog cfg 36 5 (.int .u8) := clx xf36 5 (xf36.body.cOps.getD 0 ⟨none, .move (.tmp 0), 0, "", #[], none⟩) (xf36.body.cOps.getD 1 ⟨none, .move (.tmp 0), 0, "", #[], none⟩) (by kernel_rfl) (by kernel_rfl) (by kernel_rfl) (by kernel_rfl) (by kernel_rfl) (by kernel_rfl) (by kernel_rfl) (by kernel_rfl) (by kernel_rfl)
theorem pd_slices_Clone_byte_byte : PureD Try.prog cfg 36 p_slices_Clone_byte_byte := cloneD sp0 cfgOk rfl cx36 (of_decide_eq_true (by kernel_rfl)) (by kernel_rfl) (by kernel_rfl) (by kernel_rfl) (fun d => by kernel_rfl) (fun d => by kernel_rfl) (by kernel_rfl) (fun d r h => by
  unfold slices_Clone_byte_byte at h
  split at h
  · split at h
    · cases h
    · have h1 : some d = some r := h
      exact (Option.some.inj h1).symm
  · cases h)

/-- thimblerig/num.Cut -/
noncomputable def num_Cut (d0 : (List (Int)) × (List (Int))) : Option ((List (List (Int))) × (Int)) :=
 Dat.bind (num_Size d0.2) fun (x1 : (Int) × (Int)) =>
 (bif (Dat.ine x1.2 0) then some (([] : List (List (Int))), x1.2)
 else (bif (Dat.ine (Dat.ofN (Dat.len d0.1)) x1.1) then some (([] : List (List (Int))), 10)
 else Dat.bind (slices_Clone_byte_byte d0.1) fun (x2 : List (Int)) =>
 if (Dat.MkOk (Dat.ofN (Dat.len d0.2)) (Dat.ofN (Dat.len d0.2)) 24) then Dat.loop (fun (s5 : (Int) × ((Int) × (List (List (Int))))) k6 =>
 (bif (Dat.ilt s5.2.1 (Dat.ofN (Dat.len d0.2))) then if (Dat.Ix s5.2.1 (Dat.len d0.2)) then Dat.bnd (Dat.get d0.2 (Dat.toN s5.2.1) 0) fun (x9 : Int) =>
 Dat.bnd (Dat.wrap .i64 (Dat.add s5.1 x9)) fun (x10 : Int) =>
 Dat.bnd (Dat.wrap .i64 (Dat.add s5.1 x9)) fun (x11 : Int) =>
 if (Dat.Bd x11 (Dat.len x2)) then if (Dat.Bd x10 (Dat.toN x11)) then if (Dat.Bd s5.1 (Dat.toN x10)) then Dat.bnd (Dat.slice x2 (Dat.toN s5.1) (Dat.toN x10)) fun (x18 : List (Int)) =>
 if (Dat.In s5.2.1 (Dat.toN (Dat.ofN (Dat.len d0.2)))) then if (Dat.Lt (Dat.addN 0 (Dat.toN s5.2.1)) (Dat.len s5.2.2)) then Dat.bnd (Dat.set s5.2.2 (Dat.addN 0 (Dat.toN s5.2.1)) x18) fun (x23 : List (List (Int))) =>
 Dat.bnd (Dat.wrap .i64 (Dat.add s5.1 x9)) fun (x24 : Int) =>
 Dat.bnd (Dat.wrap .i64 (Dat.add s5.2.1 1)) fun (x25 : Int) =>
 k6 (x24, (x25, x23))
 else none
 else none
 else none
 else none
 else none
 else none
 else if (Dat.Le (Dat.addN 0 (Dat.toN (Dat.ofN (Dat.len d0.2)))) (Dat.len s5.2.2)) then some ((Dat.seg s5.2.2 0 (Dat.toN (Dat.ofN (Dat.len d0.2)))), 0)
 else none)) (0, (0, (Dat.rep (Dat.toN (Dat.ofN (Dat.len d0.2))) ([] : List (Int)))))
 else none))
noncomputable def p_num_Cut : PFn := { args := [(.list (.int .u8)), (.list (.int .i64))], res := [(.list (.list (.int .u8))), (.int .i64)], fn := num_Cut }
def sp27_27 : List LSpec × List Nat := ([{ id := 2700, known := true, toks := [], items := [.slot 10 (.val (.int .i64)), .slot 32 (.val (.int .i64)), .vec 1000009 (.list (.int .u8))], junk := [33, 34, 35, 36, 11, 12, 37, 38, 39, 40, 41, 42, 43, 44, 45, 46, 47, 48, 49, 50, 51, 52], tails := [] }], [])
def spt27 : Tab (List LSpec × List Nat) := (.node (.node (.node .leaf none (.node .leaf none (.node .leaf (some sp27_27) .leaf))) none .leaf) none .leaf)
def spf27 (f : Nat) : List LSpec × List Nat := (spt27.get f).getD ([], [])
theorem pd_num_Cut : PureD Try.prog cfg 27 p_num_Cut := fnD spf27 (l := [(38, p_num_Size), (36, p_slices_Clone_byte_byte)]) cfgOk rfl (.cons pd_num_Size (.cons pd_slices_Clone_byte_byte .nil)) (fun d => by kernel_rfl)

/-- bytes.Equal -/
noncomputable def bytes_Equal (d0 : (List (Int)) × (List (Int))) : Option (Bool) :=
 Dat.bnd (Dat.str d0.1) fun (x1 : List (UInt8)) =>
 Dat.bnd (Dat.str d0.2) fun (x2 : List (UInt8)) =>
 some (Dat.seq x1 x2)
noncomputable def p_bytes_Equal : PFn := { args := [(.list (.int .u8)), (.list (.int .u8))], res := [.bool], fn := bytes_Equal }
theorem pd_bytes_Equal : PureD Try.prog cfg 28 p_bytes_Equal := fnD sp0 (l := []) cfgOk rfl .nil (fun d => by kernel_rfl)

/-- thimblerig/num.shiftTogether -/
noncomputable def num_shiftTogether (d0 : List (Int)) : Option (Int) :=
 Dat.loop (fun (s1 : (Int) × (Int)) k2 =>
 (bif (Dat.ilt s1.2 (Dat.ofN (Dat.len d0))) then if (Dat.Ix s1.2 (Dat.len d0)) then Dat.bnd (Dat.get d0 (Dat.toN s1.2) 0) fun (x5 : Int) =>
 Dat.bnd (Dat.wrap .u64 x5) fun (x6 : Int) =>
 Dat.bnd (Dat.wrap .i64 (Dat.mul 8 s1.2)) fun (x7 : Int) =>
 if (Dat.Neg x7) then none
 else Dat.bnd (Dat.shl .u64 x6 x7) fun (x10 : Int) =>
 Dat.bnd (Dat.bor .u64 s1.1 x10) fun (x11 : Int) =>
 Dat.bnd (Dat.wrap .i64 (Dat.add s1.2 1)) fun (x12 : Int) =>
 k2 (x11, x12)
 else none
 else some s1.1)) (0, 0)
noncomputable def p_num_shiftTogether : PFn := { args := [(.list (.int .u8))], res := [(.int .u64)], fn := num_shiftTogether }
def sp47_47 : List LSpec × List Nat := ([{ id := 4700, known := true, toks := [], items := [.slot 3 (.val (.int .u64)), .slot 7 (.val (.int .i64))], junk := [8, 9, 4, 10, 11, 12, 13, 14, 15, 16, 17, 18, 19, 20], tails := [] }], [])
def spt47 : Tab (List LSpec × List Nat) := (.node (.node (.node (.node (.node .leaf none (.node .leaf (some sp47_47) .leaf)) none .leaf) none .leaf) none .leaf) none .leaf)
def spf47 (f : Nat) : List LSpec × List Nat := (spt47.get f).getD ([], [])
theorem pd_num_shiftTogether : PureD Try.prog cfg 47 p_num_shiftTogether := fnD spf47 (l := []) cfgOk rfl .nil (fun d => by kernel_rfl)

/-- thimblerig/num.Take -/
noncomputable def num_Take (d0 : (List (Int)) × (List (Int))) : Option ((List (Int)) × (Int)) :=
 Dat.bind (num_together (d0.2, (1, 8))) fun (x1 : (Int) × (Int)) =>
 (bif (Dat.ine x1.2 0) then some (([] : List (Int)), x1.2)
 else Dat.bind (num_Cut (d0.1, d0.2)) fun (x2 : (List (List (Int))) × (Int)) =>
 (bif (Dat.ine x2.2 0) then some (([] : List (Int)), x2.2)
 else if (Dat.MkOk (Dat.ofN (Dat.len x2.1)) (Dat.ofN (Dat.len x2.1)) 8) then Dat.loop (fun (s5 : (Int) × (List (Int))) k6 =>
 (bif (Dat.ilt s5.1 (Dat.ofN (Dat.len x2.1))) then if (Dat.Ix s5.1 (Dat.len x2.1)) then Dat.bnd (Dat.get x2.1 (Dat.toN s5.1) ([] : List (Int))) fun (x9 : List (Int)) =>
 Dat.bind (num_shiftTogether x9) fun (x10 : Int) =>
 if (Dat.In s5.1 (Dat.toN (Dat.ofN (Dat.len x2.1)))) then if (Dat.Lt (Dat.addN 0 (Dat.toN s5.1)) (Dat.len s5.2)) then Dat.bnd (Dat.set s5.2 (Dat.addN 0 (Dat.toN s5.1)) x10) fun (x15 : List (Int)) =>
 Dat.bnd (Dat.wrap .i64 (Dat.add s5.1 1)) fun (x16 : Int) =>
 k6 (x16, x15)
 else none
 else none
 else none
 else if (Dat.Le (Dat.addN 0 (Dat.toN (Dat.ofN (Dat.len x2.1)))) (Dat.len s5.2)) then some ((Dat.seg s5.2 0 (Dat.toN (Dat.ofN (Dat.len x2.1)))), 0)
 else none)) (0, (Dat.rep (Dat.toN (Dat.ofN (Dat.len x2.1))) 0))
 else none))
noncomputable def p_num_Take : PFn := { args := [(.list (.int .u8)), (.list (.int .i64))], res := [(.list (.int .u64)), (.int .i64)], fn := num_Take }
def sp39_39 : List LSpec × List Nat := ([{ id := 3900, known := true, toks := [], items := [.slot 35 (.val (.int .i64)), .vec 1000010 (.int .u64)], junk := [36, 37, 38, 39, 11, 12, 40, 41, 42, 43, 44, 45], tails := [] }], [])
def spt39 : Tab (List LSpec × List Nat) := (.node (.node (.node (.node .leaf none (.node (.node .leaf (some sp39_39) .leaf) none .leaf)) none .leaf) none .leaf) none .leaf)
def spf39 (f : Nat) : List LSpec × List Nat := (spt39.get f).getD ([], [])
theorem pd_num_Take : PureD Try.prog cfg 39 p_num_Take := fnD spf39 (l := [(43, p_num_together), (27, p_num_Cut), (47, p_num_shiftTogether)]) cfgOk rfl (.cons pd_num_together (.cons pd_num_Cut (.cons pd_num_shiftTogether .nil))) (fun d => by kernel_rfl)

/-- thimblerig/slot.Read -/
noncomputable def slot_Read (d0 : ((Int) × ((Int) × ((Int) × ((Int) × (Unit))))) × (List (Int))) : Option (((Int) × ((Int) × ((List (Int)) × (Unit)))) × ((Bool) × (Int))) :=
 Dat.bind (slot_None (d0.1.1, (d0.1.2.1, (d0.1.2.2.1, (d0.1.2.2.2.1, ()))))) fun (x1 : (List (Int)) × (Int)) =>
 (bif (Dat.ine x1.2 0) then some ((0, (0, (([] : List (Int)), ()))), (false, x1.2))
 else Dat.bind (slot_parts (d0.1.1, (d0.1.2.1, (d0.1.2.2.1, (d0.1.2.2.2.1, ()))))) fun (x2 : List (Int)) =>
 if (Dat.EqN (Dat.len (Dat.rep 3 0)) 3) then if (Dat.Le 3 (Dat.len (Dat.norm 3 x2 0))) then if (Dat.Lt 0 3) then if (Dat.Le (Dat.addN 0 (Dat.subN 3 0)) (Dat.len (Dat.norm 3 x2 0))) then Dat.bind (num_Cut (d0.2, (Dat.seg (Dat.norm 3 x2 0) 0 (Dat.subN 3 0)))) fun (x11 : (List (List (Int))) × (Int)) =>
 (bif (Dat.ine x11.2 0) then some ((0, (0, (([] : List (Int)), ()))), (false, x11.2))
 else Dat.bind (bytes_Equal (d0.2, x1.1)) fun (x12 : Bool) =>
 (bif x12 then some ((0, (0, (([] : List (Int)), ()))), (false, 0))
 else if (Dat.Ix 0 (Dat.len x11.1)) then Dat.bnd (Dat.get x11.1 (Dat.toN 0) ([] : List (Int))) fun (x15 : List (Int)) =>
 Dat.bnd (Dat.wrap .i64 (Dat.add 0 1)) fun (x16 : Int) =>
 if (Dat.Le (Dat.addN 0 1) (Dat.len (4 :: ([] : List (Int))))) then Dat.bind (num_Take (x15, (Dat.seg (4 :: ([] : List (Int))) 0 1))) fun (x19 : (List (Int)) × (Int)) =>
 if (Dat.Ix 0 (Dat.len x19.1)) then Dat.bnd (Dat.get x19.1 (Dat.toN 0) 0) fun (x22 : Int) =>
 if (Dat.Ix x16 (Dat.len x11.1)) then Dat.bnd (Dat.get x11.1 (Dat.toN x16) ([] : List (Int))) fun (x25 : List (Int)) =>
 Dat.bnd (Dat.wrap .i64 (Dat.add x16 1)) fun (x26 : Int) =>
 if (Dat.Le (Dat.addN 0 1) (Dat.len (4 :: ([] : List (Int))))) then Dat.bind (num_Take (x25, (Dat.seg (4 :: ([] : List (Int))) 0 1))) fun (x29 : (List (Int)) × (Int)) =>
 if (Dat.Ix 0 (Dat.len x29.1)) then Dat.bnd (Dat.get x29.1 (Dat.toN 0) 0) fun (x32 : Int) =>
 Dat.bnd (Dat.wrap .i64 x22) fun (x33 : Int) =>
 Dat.bnd (Dat.wrap .i64 (Dat.sub x33 1)) fun (x34 : Int) =>
 Dat.bnd (Dat.wrap .i64 x32) fun (x35 : Int) =>
 if (Dat.Ix x26 (Dat.len x11.1)) then Dat.bnd (Dat.get x11.1 (Dat.toN x26) ([] : List (Int))) fun (x38 : List (Int)) =>
 Dat.bnd (Dat.wrap .i64 (Dat.add x26 1)) fun (x39 : Int) =>
 Dat.bind (slot_Check ((d0.1.1, (d0.1.2.1, (d0.1.2.2.1, (d0.1.2.2.2.1, ())))), (x34, (x35, (x38, ()))))) fun (x40 : Int) =>
 (bif (Dat.ine x40 0) then some ((0, (0, (([] : List (Int)), ()))), (false, x40))
 else some ((x34, (x35, (x38, ()))), (true, 0)))
 else none
 else none
 else none
 else none
 else none
 else none
 else none))
 else none
 else Dat.bind (num_Cut (d0.2, ([] : List (Int)))) fun (x41 : (List (List (Int))) × (Int)) =>
 (bif (Dat.ine x41.2 0) then some ((0, (0, (([] : List (Int)), ()))), (false, x41.2))
 else Dat.bind (bytes_Equal (d0.2, x1.1)) fun (x42 : Bool) =>
 (bif x42 then some ((0, (0, (([] : List (Int)), ()))), (false, 0))
 else if (Dat.Ix 0 (Dat.len x41.1)) then Dat.bnd (Dat.get x41.1 (Dat.toN 0) ([] : List (Int))) fun (x45 : List (Int)) =>
 Dat.bnd (Dat.wrap .i64 (Dat.add 0 1)) fun (x46 : Int) =>
 if (Dat.Le (Dat.addN 0 1) (Dat.len (4 :: ([] : List (Int))))) then Dat.bind (num_Take (x45, (Dat.seg (4 :: ([] : List (Int))) 0 1))) fun (x49 : (List (Int)) × (Int)) =>
 if (Dat.Ix 0 (Dat.len x49.1)) then Dat.bnd (Dat.get x49.1 (Dat.toN 0) 0) fun (x52 : Int) =>
 if (Dat.Ix x46 (Dat.len x41.1)) then Dat.bnd (Dat.get x41.1 (Dat.toN x46) ([] : List (Int))) fun (x55 : List (Int)) =>
 Dat.bnd (Dat.wrap .i64 (Dat.add x46 1)) fun (x56 : Int) =>
 if (Dat.Le (Dat.addN 0 1) (Dat.len (4 :: ([] : List (Int))))) then Dat.bind (num_Take (x55, (Dat.seg (4 :: ([] : List (Int))) 0 1))) fun (x59 : (List (Int)) × (Int)) =>
 if (Dat.Ix 0 (Dat.len x59.1)) then Dat.bnd (Dat.get x59.1 (Dat.toN 0) 0) fun (x62 : Int) =>
 Dat.bnd (Dat.wrap .i64 x52) fun (x63 : Int) =>
 Dat.bnd (Dat.wrap .i64 (Dat.sub x63 1)) fun (x64 : Int) =>
 Dat.bnd (Dat.wrap .i64 x62) fun (x65 : Int) =>
 if (Dat.Ix x56 (Dat.len x41.1)) then Dat.bnd (Dat.get x41.1 (Dat.toN x56) ([] : List (Int))) fun (x68 : List (Int)) =>
 Dat.bnd (Dat.wrap .i64 (Dat.add x56 1)) fun (x69 : Int) =>
 Dat.bind (slot_Check ((d0.1.1, (d0.1.2.1, (d0.1.2.2.1, (d0.1.2.2.2.1, ())))), (x64, (x65, (x68, ()))))) fun (x70 : Int) =>
 (bif (Dat.ine x70 0) then some ((0, (0, (([] : List (Int)), ()))), (false, x70))
 else some ((x64, (x65, (x68, ()))), (true, 0)))
 else none
 else none
 else none
 else none
 else none
 else none
 else none))
 else none
 else none)
noncomputable def p_slot_Read : PFn := { args := [(.pair (.int .i64) (.pair (.int .i64) (.pair (.int .i64) (.pair (.int .i64) .unit)))), (.list (.int .u8))], res := [(.pair (.int .i64) (.pair (.int .i64) (.pair (.list (.int .u8)) .unit))), .bool, (.int .i64)], fn := slot_Read }
theorem pd_slot_Read : PureD Try.prog cfg 9 p_slot_Read := fnD sp0 (l := [(7, p_slot_None), (26, p_slot_parts), (27, p_num_Cut), (28, p_bytes_Equal), (39, p_num_Take), (13, p_slot_Check)]) cfgOk rfl (.cons pd_slot_None (.cons pd_slot_parts (.cons pd_num_Cut (.cons pd_bytes_Equal (.cons pd_num_Take (.cons pd_slot_Check .nil)))))) (fun d => by kernel_rfl)

/-- thimblerig/thimblerigref01.Same -/
noncomputable def ref01_Same (d0 : (List (Int)) × (List (Int))) : Option (Bool) :=
 Dat.bnd (Dat.str d0.1) fun (x1 : List (UInt8)) =>
 Dat.bnd (Dat.str d0.2) fun (x2 : List (UInt8)) =>
 some (Dat.seq x1 x2)
noncomputable def p_ref01_Same : PFn := { args := [(.list (.int .u8)), (.list (.int .u8))], res := [.bool], fn := ref01_Same }
theorem pd_ref01_Same : PureD Try.prog cfg 12 p_ref01_Same := fnD sp0 (l := []) cfgOk rfl .nil (fun d => by kernel_rfl)

/-- thimblerig/thimblerigref09.Same -/
noncomputable def ref09_Same (d0 : ((Int) × ((Int) × ((List (Int)) × (Unit)))) × ((Int) × ((Int) × ((List (Int)) × (Unit))))) : Option (Bool) :=
 (bif (Dat.ieq d0.1.1 d0.2.1) then (bif (Dat.pickB true (Dat.ieq d0.1.2.1 d0.2.2.1) false) then Dat.bind (ref01_Same (d0.1.2.2.1, d0.2.2.2.1)) fun (x1 : Bool) =>
 some (Dat.pickB true x1 false)
 else some false)
 else some false)
noncomputable def p_ref09_Same : PFn := { args := [(.pair (.int .i64) (.pair (.int .i64) (.pair (.list (.int .u8)) .unit))), (.pair (.int .i64) (.pair (.int .i64) (.pair (.list (.int .u8)) .unit)))], res := [.bool], fn := ref09_Same }
theorem pd_ref09_Same : PureD Try.prog cfg 23 p_ref09_Same := fnD sp0 (l := [(12, p_ref01_Same)]) cfgOk rfl (.cons pd_ref01_Same .nil) (fun d => by kernel_rfl)

/-- thimblerig/thimbleriglaw09.alive -/
noncomputable def law09_alive (d0 : Unit) : Option (Bool) :=
 Dat.bind (law09_level ()) fun (x1 : (Int) × ((Int) × ((Int) × ((Int) × (Unit))))) =>
 Dat.bind (slot_Slots (x1.1, (x1.2.1, (x1.2.2.1, (x1.2.2.2.1, ()))))) fun (x2 : (Int) × (Int)) =>
 Dat.bind (law09_level ()) fun (x3 : (Int) × ((Int) × ((Int) × ((Int) × (Unit))))) =>
 Dat.bind (law09_block ()) fun (x4 : (Int) × ((Int) × ((List (Int)) × (Unit)))) =>
 Dat.bind (slot_Write ((x3.1, (x3.2.1, (x3.2.2.1, (x3.2.2.2.1, ())))), (x4.1, (x4.2.1, (x4.2.2.1, ()))))) fun (x5 : (List (Int)) × (Int)) =>
 Dat.bind (law09_level ()) fun (x6 : (Int) × ((Int) × ((Int) × ((Int) × (Unit))))) =>
 Dat.bind (slot_Read ((x6.1, (x6.2.1, (x6.2.2.1, (x6.2.2.2.1, ())))), x5.1)) fun (x7 : ((Int) × ((Int) × ((List (Int)) × (Unit)))) × ((Bool) × (Int))) =>
 (bif (Dat.ieq x2.2 0) then (bif (Dat.pickB true (Dat.ieq x2.1 2) false) then (bif (Dat.pickB true (Dat.ieq x5.2 0) false) then if (Dat.Le (Dat.addN 0 12) (Dat.len (3 :: (0 :: (0 :: (0 :: (5 :: (0 :: (0 :: (0 :: (97 :: (98 :: (99 :: (100 :: ([] : List (Int)))))))))))))))) then Dat.bind (ref01_Same (x5.1, (Dat.seg (3 :: (0 :: (0 :: (0 :: (5 :: (0 :: (0 :: (0 :: (97 :: (98 :: (99 :: (100 :: ([] : List (Int)))))))))))))) 0 12))) fun (x10 : Bool) =>
 (bif (Dat.pickB true x10 false) then (bif (Dat.pickB true (Dat.ieq x7.2.2 0) false) then (bif (Dat.pickB true x7.2.1 false) then Dat.bind (law09_block ()) fun (x11 : (Int) × ((Int) × ((List (Int)) × (Unit)))) =>
 Dat.bind (ref09_Same ((x7.1.1, (x7.1.2.1, (x7.1.2.2.1, ()))), (x11.1, (x11.2.1, (x11.2.2.1, ()))))) fun (x12 : Bool) =>
 some (Dat.pickB true x12 false)
 else some false)
 else some false)
 else some false)
 else none
 else some false)
 else some false)
 else some false)
noncomputable def p_law09_alive : PFn := { args := [], res := [.bool], fn := law09_alive }
theorem pd_law09_alive : PureD Try.prog cfg 11 p_law09_alive := fnD sp0 (l := [(8, p_law09_level), (10, p_slot_Slots), (14, p_law09_block), (17, p_slot_Write), (9, p_slot_Read), (12, p_ref01_Same), (23, p_ref09_Same)]) cfgOk rfl (.cons pd_law09_level (.cons pd_slot_Slots (.cons pd_law09_block (.cons pd_slot_Write (.cons pd_slot_Read (.cons pd_ref01_Same (.cons pd_ref09_Same .nil))))))) (fun d => by kernel_rfl)

/-- thimblerig/thimbleriglaw09.SlotBack -/
noncomputable def law09_SlotBack (d0 : ((Int) × ((Int) × ((Int) × ((Int) × (Unit))))) × (((Int) × ((Int) × ((List (Int)) × (Unit)))) × (List (Int)))) : Option (Bool) :=
 Dat.bind (law09_alive ()) fun (x1 : Bool) =>
 (bif (Dat.igt (Dat.ofN (Dat.len d0.2.1.2.2.1)) 1000) then some x1
 else (bif (Dat.pickB false true (Dat.igt (Dat.ofN (Dat.len d0.2.2)) 1000)) then some x1
 else (bif (Dat.pickB false true (Dat.bnot x1)) then some x1
 else Dat.bind (slot_Write ((d0.1.1, (d0.1.2.1, (d0.1.2.2.1, (d0.1.2.2.2.1, ())))), (d0.2.1.1, (d0.2.1.2.1, (d0.2.1.2.2.1, ()))))) fun (x2 : (List (Int)) × (Int)) =>
 Dat.bind (slot_Read ((d0.1.1, (d0.1.2.1, (d0.1.2.2.1, (d0.1.2.2.2.1, ())))), x2.1)) fun (x3 : ((Int) × ((Int) × ((List (Int)) × (Unit)))) × ((Bool) × (Int))) =>
 (bif (Dat.ieq x2.2 0) then (bif (Dat.ine x3.2.2 0) then some false
 else (bif (Dat.pickB false true (Dat.bnot x3.2.1)) then some false
 else Dat.bind (ref09_Same ((x3.1.1, (x3.1.2.1, (x3.1.2.2.1, ()))), (d0.2.1.1, (d0.2.1.2.1, (d0.2.1.2.2.1, ()))))) fun (x4 : Bool) =>
 (bif (Dat.pickB true (Dat.pickB false true (Dat.bnot x4)) false) then some false
 else (bif (Dat.ine x2.2 0) then (bif (Dat.pickB false true (Dat.pickB true (Dat.igt (Dat.ofN (Dat.len x2.1)) 0) false)) then some false
 else Dat.bind (slot_Read ((d0.1.1, (d0.1.2.1, (d0.1.2.2.1, (d0.1.2.2.2.1, ())))), d0.2.2)) fun (x5 : ((Int) × ((Int) × ((List (Int)) × (Unit)))) × ((Bool) × (Int))) =>
 (bif (Dat.ine x5.2.2 0) then (bif x1 then (bif (Dat.pickB true (Dat.bnot x5.2.1) false) then Dat.bind (ref09_Same ((x5.1.1, (x5.1.2.1, (x5.1.2.2.1, ()))), (0, (0, (([] : List (Int)), ()))))) fun (x6 : Bool) =>
 some (Dat.pickB true x6 false)
 else some false)
 else some false)
 else (bif (Dat.bnot x5.2.1) then Dat.bind (slot_None (d0.1.1, (d0.1.2.1, (d0.1.2.2.1, (d0.1.2.2.2.1, ()))))) fun (x7 : (List (Int)) × (Int)) =>
 (bif x1 then (bif (Dat.pickB true (Dat.ieq x7.2 0) false) then Dat.bind (ref01_Same (x7.1, d0.2.2)) fun (x8 : Bool) =>
 some (Dat.pickB true x8 false)
 else some false)
 else some false)
 else Dat.bind (slot_Write ((d0.1.1, (d0.1.2.1, (d0.1.2.2.1, (d0.1.2.2.2.1, ())))), (x5.1.1, (x5.1.2.1, (x5.1.2.2.1, ()))))) fun (x9 : (List (Int)) × (Int)) =>
 (bif x1 then (bif (Dat.pickB true (Dat.ieq x9.2 0) false) then Dat.bind (ref01_Same (x9.1, d0.2.2)) fun (x10 : Bool) =>
 some (Dat.pickB true x10 false)
 else some false)
 else some false))))
 else Dat.bind (slot_Read ((d0.1.1, (d0.1.2.1, (d0.1.2.2.1, (d0.1.2.2.2.1, ())))), d0.2.2)) fun (x11 : ((Int) × ((Int) × ((List (Int)) × (Unit)))) × ((Bool) × (Int))) =>
 (bif (Dat.ine x11.2.2 0) then (bif x1 then (bif (Dat.pickB true (Dat.bnot x11.2.1) false) then Dat.bind (ref09_Same ((x11.1.1, (x11.1.2.1, (x11.1.2.2.1, ()))), (0, (0, (([] : List (Int)), ()))))) fun (x12 : Bool) =>
 some (Dat.pickB true x12 false)
 else some false)
 else some false)
 else (bif (Dat.bnot x11.2.1) then Dat.bind (slot_None (d0.1.1, (d0.1.2.1, (d0.1.2.2.1, (d0.1.2.2.2.1, ()))))) fun (x13 : (List (Int)) × (Int)) =>
 (bif x1 then (bif (Dat.pickB true (Dat.ieq x13.2 0) false) then Dat.bind (ref01_Same (x13.1, d0.2.2)) fun (x14 : Bool) =>
 some (Dat.pickB true x14 false)
 else some false)
 else some false)
 else Dat.bind (slot_Write ((d0.1.1, (d0.1.2.1, (d0.1.2.2.1, (d0.1.2.2.2.1, ())))), (x11.1.1, (x11.1.2.1, (x11.1.2.2.1, ()))))) fun (x15 : (List (Int)) × (Int)) =>
 (bif x1 then (bif (Dat.pickB true (Dat.ieq x15.2 0) false) then Dat.bind (ref01_Same (x15.1, d0.2.2)) fun (x16 : Bool) =>
 some (Dat.pickB true x16 false)
 else some false)
 else some false)))))))
 else (bif (Dat.ine x2.2 0) then (bif (Dat.pickB false true (Dat.pickB true (Dat.igt (Dat.ofN (Dat.len x2.1)) 0) false)) then some false
 else Dat.bind (slot_Read ((d0.1.1, (d0.1.2.1, (d0.1.2.2.1, (d0.1.2.2.2.1, ())))), d0.2.2)) fun (x17 : ((Int) × ((Int) × ((List (Int)) × (Unit)))) × ((Bool) × (Int))) =>
 (bif (Dat.ine x17.2.2 0) then (bif x1 then (bif (Dat.pickB true (Dat.bnot x17.2.1) false) then Dat.bind (ref09_Same ((x17.1.1, (x17.1.2.1, (x17.1.2.2.1, ()))), (0, (0, (([] : List (Int)), ()))))) fun (x18 : Bool) =>
 some (Dat.pickB true x18 false)
 else some false)
 else some false)
 else (bif (Dat.bnot x17.2.1) then Dat.bind (slot_None (d0.1.1, (d0.1.2.1, (d0.1.2.2.1, (d0.1.2.2.2.1, ()))))) fun (x19 : (List (Int)) × (Int)) =>
 (bif x1 then (bif (Dat.pickB true (Dat.ieq x19.2 0) false) then Dat.bind (ref01_Same (x19.1, d0.2.2)) fun (x20 : Bool) =>
 some (Dat.pickB true x20 false)
 else some false)
 else some false)
 else Dat.bind (slot_Write ((d0.1.1, (d0.1.2.1, (d0.1.2.2.1, (d0.1.2.2.2.1, ())))), (x17.1.1, (x17.1.2.1, (x17.1.2.2.1, ()))))) fun (x21 : (List (Int)) × (Int)) =>
 (bif x1 then (bif (Dat.pickB true (Dat.ieq x21.2 0) false) then Dat.bind (ref01_Same (x21.1, d0.2.2)) fun (x22 : Bool) =>
 some (Dat.pickB true x22 false)
 else some false)
 else some false))))
 else Dat.bind (slot_Read ((d0.1.1, (d0.1.2.1, (d0.1.2.2.1, (d0.1.2.2.2.1, ())))), d0.2.2)) fun (x23 : ((Int) × ((Int) × ((List (Int)) × (Unit)))) × ((Bool) × (Int))) =>
 (bif (Dat.ine x23.2.2 0) then (bif x1 then (bif (Dat.pickB true (Dat.bnot x23.2.1) false) then Dat.bind (ref09_Same ((x23.1.1, (x23.1.2.1, (x23.1.2.2.1, ()))), (0, (0, (([] : List (Int)), ()))))) fun (x24 : Bool) =>
 some (Dat.pickB true x24 false)
 else some false)
 else some false)
 else (bif (Dat.bnot x23.2.1) then Dat.bind (slot_None (d0.1.1, (d0.1.2.1, (d0.1.2.2.1, (d0.1.2.2.2.1, ()))))) fun (x25 : (List (Int)) × (Int)) =>
 (bif x1 then (bif (Dat.pickB true (Dat.ieq x25.2 0) false) then Dat.bind (ref01_Same (x25.1, d0.2.2)) fun (x26 : Bool) =>
 some (Dat.pickB true x26 false)
 else some false)
 else some false)
 else Dat.bind (slot_Write ((d0.1.1, (d0.1.2.1, (d0.1.2.2.1, (d0.1.2.2.2.1, ())))), (x23.1.1, (x23.1.2.1, (x23.1.2.2.1, ()))))) fun (x27 : (List (Int)) × (Int)) =>
 (bif x1 then (bif (Dat.pickB true (Dat.ieq x27.2 0) false) then Dat.bind (ref01_Same (x27.1, d0.2.2)) fun (x28 : Bool) =>
 some (Dat.pickB true x28 false)
 else some false)
 else some false))))))))
noncomputable def p_law09_SlotBack : PFn := { args := [(.pair (.int .i64) (.pair (.int .i64) (.pair (.int .i64) (.pair (.int .i64) .unit)))), (.pair (.int .i64) (.pair (.int .i64) (.pair (.list (.int .u8)) .unit))), (.list (.int .u8))], res := [.bool], fn := law09_SlotBack }
theorem pd_law09_SlotBack : PureD Try.prog cfg 6 p_law09_SlotBack := fnD sp0 (l := [(11, p_law09_alive), (17, p_slot_Write), (9, p_slot_Read), (23, p_ref09_Same), (7, p_slot_None), (12, p_ref01_Same)]) cfgOk rfl (.cons pd_law09_alive (.cons pd_slot_Write (.cons pd_slot_Read (.cons pd_ref09_Same (.cons pd_slot_None (.cons pd_ref01_Same .nil)))))) (fun d => by kernel_rfl)
end Go.Proofs.Ytcdjnaacgbncdaa
