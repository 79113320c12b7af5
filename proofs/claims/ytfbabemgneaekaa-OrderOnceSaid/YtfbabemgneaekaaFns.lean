/- The functions of the program, as functions on plain data. -/
import Derived.Test.YtfbabemgneaekaaCfg
import Derived.Test.YtfbabemgneaekaaM5
import Derived.ProofKit
import Derived.Test.YtfbabemgneaekaaM5
import Derived.Test.YtfbabemgneaekaaConfS
namespace Go.Proofs.Ytfbabemgneaekaa
open Go.Eng
set_option linter.unusedVariables false
set_option maxRecDepth 100000
def sp0 (f : Nat) : List LSpec × List Nat := ([], [])

/-- thimblerig/thimblerigref21.GreatUnits -/
noncomputable def ref21_GreatUnits (d0 : (List ((Int) × ((Int) × ((Int) × ((List (Int)) × (Unit)))))) × (Int)) : Option (Bool) :=
 Dat.loop (fun (s1 : Int) k2 =>
 (bif (Dat.ilt s1 (Dat.ofN (Dat.len d0.1))) then (bif (Dat.pickB true (Dat.ilt s1 d0.2) false) then if (Dat.Ix s1 (Dat.len d0.1)) then Dat.bnd (Dat.get d0.1 (Dat.toN s1) (0, (0, (0, (([] : List (Int)), ()))))) fun (x5 : (Int) × ((Int) × ((Int) × ((List (Int)) × (Unit))))) =>
 (bif (Dat.igt (Dat.ofN (Dat.len x5.2.2.2.1)) 100) then some true
 else Dat.bnd (Dat.wrap .i64 (Dat.add s1 1)) fun (x6 : Int) =>
 k2 x6)
 else none
 else some (Dat.igt (Dat.ofN (Dat.len d0.1)) d0.2))
 else some (Dat.igt (Dat.ofN (Dat.len d0.1)) d0.2))) 0
noncomputable def p_ref21_GreatUnits : PFn := { args := [(.list (.pair (.int .u8) (.pair (.int .i64) (.pair (.int .i64) (.pair (.list (.int .u8)) .unit))))), (.int .i64)], res := [.bool], fn := ref21_GreatUnits }
def sp14_14 : List LSpec × List Nat := ([{ id := 1400, known := true, toks := [], items := [.slot 5 (.val (.int .i64))], junk := [6, 7, 8, 9, 10, 11, 12, 13, 14, 17, 18, 19, 20, 21, 22, 23, 4, 15, 16], tails := [] }], [])
def spt14 : Tab (List LSpec × List Nat) := (.node .leaf none (.node .leaf none (.node .leaf none (.node .leaf (some sp14_14) .leaf))))
def spf14 (f : Nat) : List LSpec × List Nat := (spt14.get f).getD ([], [])
theorem pd_ref21_GreatUnits : PureD Try.prog cfg 14 p_ref21_GreatUnits := fnD spf14 (l := []) cfgOk cfgGlob .nil (fun d => by kernel_rfl)

/-- (thimblerig/conf.bound(int)).holds -/
noncomputable def conf_bound_int_holds (d0 : (Int) × ((Int) × ((Int) × (Unit)))) : Option (Bool) :=
 (bif (Dat.ile d0.2.1 d0.1) then some (Dat.pickB true (Dat.ile d0.1 d0.2.2.1) false)
 else some false)
noncomputable def p_conf_bound_int_holds : PFn := { args := [(.pair (.int .i64) (.pair (.int .i64) (.pair (.int .i64) .unit)))], res := [.bool], fn := conf_bound_int_holds }
theorem pd_conf_bound_int_holds : PureD Try.prog cfg 50 p_conf_bound_int_holds := fnD sp0 (l := []) cfgOk cfgGlob .nil (fun d => by kernel_rfl)

/-- thimblerig/geo.Check -/
noncomputable def geo_Check (d0 : Int) : Option (Int) :=
 (bif (Dat.ilt d0 1) then some 2
 else (bif (Dat.pickB false true (Dat.igt d0 6)) then some 2
 else some 0))
noncomputable def p_geo_Check : PFn := { args := [(.int .i64)], res := [(.int .i64)], fn := geo_Check }
theorem pd_geo_Check : PureD Try.prog cfg 60 p_geo_Check := fnD sp0 (l := []) cfgOk cfgGlob .nil (fun d => by kernel_rfl)

/-- thimblerig/geo.Leaves -/
noncomputable def geo_Leaves (d0 : Int) : Option ((Int) × (Int)) :=
 Dat.bind (geo_Check d0) fun (x1 : Int) =>
 (bif (Dat.ine x1 0) then some (0, x1)
 else if (Dat.Neg d0) then none
 else Dat.bnd (Dat.shl .i64 1 d0) fun (x4 : Int) =>
 some (x4, 0))
noncomputable def p_geo_Leaves : PFn := { args := [(.int .i64)], res := [(.int .i64), (.int .i64)], fn := geo_Leaves }
theorem pd_geo_Leaves : PureD Try.prog cfg 59 p_geo_Leaves := fnD sp0 (l := [(60, p_geo_Check)]) cfgOk cfgGlob (.cons pd_geo_Check .nil) (fun d => by kernel_rfl)

/-- thimblerig/conf.high -/
noncomputable def conf_high (d0 : Int) : Option (Int) :=
 Dat.loop (fun (s1 : Int) k2 =>
 Dat.bind (geo_Leaves s1) fun (x3 : (Int) × (Int)) =>
 (bif (Dat.ine x3.2 0) then some s1
 else (bif (Dat.pickB false true (Dat.ige x3.1 d0)) then some s1
 else Dat.bnd (Dat.wrap .i64 (Dat.add s1 1)) fun (x4 : Int) =>
 k2 x4))) 1
noncomputable def p_conf_high : PFn := { args := [(.int .i64)], res := [(.int .i64)], fn := conf_high }
def sp57_57 : List LSpec × List Nat := ([{ id := 5700, known := true, toks := [], items := [.slot 3 (.val (.int .i64))], junk := [9, 10, 8, 11, 12, 4, 5, 13, 14, 15, 16, 17, 18, 19, 20, 2, 6, 7], tails := [] }], [])
def spt57 : Tab (List LSpec × List Nat) := (.node (.node .leaf none (.node (.node .leaf none (.node .leaf none (.node .leaf (some sp57_57) .leaf))) none .leaf)) none .leaf)
def spf57 (f : Nat) : List LSpec × List Nat := (spt57.get f).getD ([], [])
theorem pd_conf_high : PureD Try.prog cfg 57 p_conf_high := fnD spf57 (l := [(59, p_geo_Leaves)]) cfgOk cfgGlob (.cons pd_geo_Leaves .nil) (fun d => by kernel_rfl)

/-- thimblerig/conf.level -/
noncomputable def conf_level (d0 : ((Int) × ((Int) × ((Int) × ((Int) × ((Int) × ((Int) × ((Int) × ((Int) × ((Int) × (Unit)))))))))) × ((Int) × (Int))) : Option ((Int) × ((Int) × ((Int) × ((Int) × (Unit))))) :=
 Dat.bnd (Dat.wrap .i64 (Dat.add 8 d0.2.2)) fun (x1 : Int) =>
 Dat.bnd (Dat.wrap .i64 (Dat.mul d0.1.2.2.2.1 x1)) fun (x2 : Int) =>
 Dat.bnd (Dat.wrap .i64 (Dat.add x2 64)) fun (x3 : Int) =>
 Dat.bind (conf_high d0.2.1) fun (x4 : Int) =>
 some (d0.2.1, (d0.2.2, (x4, (x3, ()))))
noncomputable def p_conf_level : PFn := { args := [(.pair (.int .i64) (.pair (.int .i64) (.pair (.int .i64) (.pair (.int .i64) (.pair (.int .i64) (.pair (.int .i64) (.pair (.int .i64) (.pair (.int .i64) (.pair (.int .i64) .unit))))))))), (.int .i64), (.int .i64)], res := [(.pair (.int .i64) (.pair (.int .i64) (.pair (.int .i64) (.pair (.int .i64) .unit))))], fn := conf_level }
theorem pd_conf_level : PureD Try.prog cfg 52 p_conf_level := fnD sp0 (l := [(57, p_conf_high)]) cfgOk cfgGlob (.cons pd_conf_high .nil) (fun d => by kernel_rfl)

/-- thimblerig/conf.isLast -/
noncomputable def conf_isLast (d0 : ((Int) × ((Int) × ((Int) × ((Int) × ((Int) × ((Int) × ((Int) × ((Int) × ((Int) × (Unit)))))))))) × ((Int) × ((Int) × ((Int) × ((Int) × (Unit)))))) : Option (Bool) :=
 some (Dat.ile d0.2.1 d0.1.2.2.2.2.2.2.2.2.1)
noncomputable def p_conf_isLast : PFn := { args := [(.pair (.int .i64) (.pair (.int .i64) (.pair (.int .i64) (.pair (.int .i64) (.pair (.int .i64) (.pair (.int .i64) (.pair (.int .i64) (.pair (.int .i64) (.pair (.int .i64) .unit))))))))), (.pair (.int .i64) (.pair (.int .i64) (.pair (.int .i64) (.pair (.int .i64) .unit))))], res := [.bool], fn := conf_isLast }
theorem pd_conf_isLast : PureD Try.prog cfg 53 p_conf_isLast := fnD sp0 (l := []) cfgOk cfgGlob .nil (fun d => by kernel_rfl)

/-- thimblerig/conf.Check -/
noncomputable def conf_Check (d0 : (Int) × ((Int) × ((Int) × ((Int) × ((Int) × ((Int) × ((Int) × ((Int) × ((Int) × (Unit)))))))))) : Option (Int) :=
 Dat.bind (conf_bounds (d0.1, (d0.2.1, (d0.2.2.1, (d0.2.2.2.1, (d0.2.2.2.2.1, (d0.2.2.2.2.2.1, (d0.2.2.2.2.2.2.1, (d0.2.2.2.2.2.2.2.1, (d0.2.2.2.2.2.2.2.2.1, ())))))))))) fun (x1 : List ((Int) × ((Int) × ((Int) × (Unit))))) =>
 Dat.loop (fun (s2 : Int) k3 =>
 (bif (Dat.ilt s2 9) then if (Dat.In s2 9) then Dat.bnd (Dat.get x1 (Dat.toN s2) (0, (0, (0, ())))) fun (x6 : (Int) × ((Int) × ((Int) × (Unit)))) =>
 Dat.bind (conf_bound_int_holds (x6.1, (x6.2.1, (x6.2.2.1, ())))) fun (x7 : Bool) =>
 (bif (Dat.bnot x7) then some 8
 else Dat.bnd (Dat.wrap .i64 (Dat.add s2 1)) fun (x8 : Int) =>
 k3 x8)
 else none
 else Dat.bind (conf_level ((d0.1, (d0.2.1, (d0.2.2.1, (d0.2.2.2.1, (d0.2.2.2.2.1, (d0.2.2.2.2.2.1, (d0.2.2.2.2.2.2.1, (d0.2.2.2.2.2.2.2.1, (d0.2.2.2.2.2.2.2.2.1, ()))))))))), (d0.1, d0.2.1))) fun (x9 : (Int) × ((Int) × ((Int) × ((Int) × (Unit))))) =>
 Dat.loop (fun (s10 : ((Int) × ((Int) × ((Int) × (Int)))) × (Int)) k11 =>
 Dat.bnd (Dat.wrap .i64 (Dat.add s10.2 1)) fun (x12 : Int) =>
 Dat.bind (conf_isLast ((d0.1, (d0.2.1, (d0.2.2.1, (d0.2.2.2.1, (d0.2.2.2.2.1, (d0.2.2.2.2.2.1, (d0.2.2.2.2.2.2.1, (d0.2.2.2.2.2.2.2.1, (d0.2.2.2.2.2.2.2.2.1, ()))))))))), (s10.1.1, (s10.1.2.1, (s10.1.2.2.1, (s10.1.2.2.2, ())))))) fun (x13 : Bool) =>
 (bif (Dat.pickB true (Dat.bnot x13) false) then Dat.bnd (Dat.wrap .i64 (Dat.add s10.1.1 d0.2.2.1)) fun (x14 : Int) =>
 Dat.bnd (Dat.wrap .i64 (Dat.sub x14 1)) fun (x15 : Int) =>
 if (Dat.IsZ d0.2.2.1) then none
 else Dat.bnd (Dat.wrap .i64 (Dat.tdiv x15 d0.2.2.1)) fun (x18 : Int) =>
 Dat.bnd (Dat.wrap .i64 (Dat.mul 4 d0.2.2.1)) fun (x19 : Int) =>
 Dat.bind (conf_level ((d0.1, (d0.2.1, (d0.2.2.1, (d0.2.2.2.1, (d0.2.2.2.2.1, (d0.2.2.2.2.2.1, (d0.2.2.2.2.2.2.1, (d0.2.2.2.2.2.2.2.1, (d0.2.2.2.2.2.2.2.2.1, ()))))))))), (x18, x19))) fun (x20 : (Int) × ((Int) × ((Int) × ((Int) × (Unit))))) =>
 k11 ((x20.1, (x20.2.1, (x20.2.2.1, x20.2.2.2.1))), x12)
 else (bif (Dat.igt x12 4) then some 8
 else some 0))) ((x9.1, (x9.2.1, (x9.2.2.1, x9.2.2.2.1))), 0))) 0
noncomputable def p_conf_Check : PFn := { args := [(.pair (.int .i64) (.pair (.int .i64) (.pair (.int .i64) (.pair (.int .i64) (.pair (.int .i64) (.pair (.int .i64) (.pair (.int .i64) (.pair (.int .i64) (.pair (.int .i64) .unit)))))))))], res := [(.int .i64)], fn := conf_Check }
def sp39_51 : List LSpec × List Nat := ([{ id := 5100, known := true, toks := [], items := [.cells 1000003 [.val (.int .i64), .val (.int .i64), .val (.int .i64), .val (.int .i64)], .cells 1 [.val (.int .i64)]], junk := [10, 11, 12, 13, 14, 15, 16, 17, 18, 19, 20, 21, 22, 23, 24, 25, 26, 27, 28, 29, 30, 31, 32], tails := [] }], [])
def sp39_39 : List LSpec × List Nat := ([{ id := 3900, known := true, toks := [], items := [.slot 8 (.val (.int .i64))], junk := [9, 10, 4, 11, 12, 13, 2, 14], tails := [] }], [])
def spt39 : Tab (List LSpec × List Nat) := (.node (.node (.node (.node .leaf none (.node (.node .leaf (some sp39_39) .leaf) none .leaf)) none (.node (.node .leaf none (.node .leaf (some sp39_51) .leaf)) none .leaf)) none .leaf) none .leaf)
def spf39 (f : Nat) : List LSpec × List Nat := (spt39.get f).getD ([], [])
theorem pd_conf_Check : PureD Try.prog cfg 39 p_conf_Check := fnD spf39 (l := [(49, p_conf_bounds), (50, p_conf_bound_int_holds), (52, p_conf_level), (53, p_conf_isLast)]) cfgOk cfgGlob (.cons pd_conf_bounds (.cons pd_conf_bound_int_holds (.cons pd_conf_level (.cons pd_conf_isLast .nil)))) (fun d => by kernel_rfl)

/-- thimblerig/conf.Levels -/
noncomputable def conf_Levels (d0 : (Int) × ((Int) × ((Int) × ((Int) × ((Int) × ((Int) × ((Int) × ((Int) × ((Int) × (Unit)))))))))) : Option ((List ((Int) × ((Int) × ((Int) × ((Int) × (Unit)))))) × (Int)) :=
 Dat.bind (conf_Check (d0.1, (d0.2.1, (d0.2.2.1, (d0.2.2.2.1, (d0.2.2.2.2.1, (d0.2.2.2.2.2.1, (d0.2.2.2.2.2.2.1, (d0.2.2.2.2.2.2.2.1, (d0.2.2.2.2.2.2.2.2.1, ())))))))))) fun (x1 : Int) =>
 (bif (Dat.ine x1 0) then some (([] : List ((Int) × ((Int) × ((Int) × ((Int) × (Unit)))))), x1)
 else if (Dat.MkOk 0 4 32) then Dat.bind (conf_level ((d0.1, (d0.2.1, (d0.2.2.1, (d0.2.2.2.1, (d0.2.2.2.2.1, (d0.2.2.2.2.2.1, (d0.2.2.2.2.2.2.1, (d0.2.2.2.2.2.2.2.1, (d0.2.2.2.2.2.2.2.2.1, ()))))))))), (d0.1, d0.2.1))) fun (x4 : (Int) × ((Int) × ((Int) × ((Int) × (Unit))))) =>
 if (Dat.EqN (Dat.toN 0) 0) then if (Dat.EqN 0 (Dat.len ([] : List ((Int) × ((Int) × ((Int) × ((Int) × (Unit)))))))) then Dat.loop (fun (s9 : ((Int) × ((Int) × ((Int) × (Int)))) × (List ((Int) × ((Int) × ((Int) × ((Int) × (Unit))))))) k10 =>
 if (Dat.Le (Dat.addN 0 1) (Dat.len ((s9.1.1, (s9.1.2.1, (s9.1.2.2.1, (s9.1.2.2.2, ())))) :: ([] : List ((Int) × ((Int) × ((Int) × ((Int) × (Unit))))))))) then if (Dat.Big (Dat.len s9.2) (Dat.len (Dat.seg ((s9.1.1, (s9.1.2.1, (s9.1.2.2.1, (s9.1.2.2.2, ())))) :: ([] : List ((Int) × ((Int) × ((Int) × ((Int) × (Unit))))))) 0 1)) 32) then none
 else if (Dat.EqN (Dat.len s9.2) (Dat.len s9.2)) then Dat.bnd (Dat.app s9.2 (Dat.seg ((s9.1.1, (s9.1.2.1, (s9.1.2.2.1, (s9.1.2.2.2, ())))) :: ([] : List ((Int) × ((Int) × ((Int) × ((Int) × (Unit))))))) 0 1)) fun (x17 : List ((Int) × ((Int) × ((Int) × ((Int) × (Unit)))))) =>
 Dat.bind (conf_isLast ((d0.1, (d0.2.1, (d0.2.2.1, (d0.2.2.2.1, (d0.2.2.2.2.1, (d0.2.2.2.2.2.1, (d0.2.2.2.2.2.2.1, (d0.2.2.2.2.2.2.2.1, (d0.2.2.2.2.2.2.2.2.1, ()))))))))), (s9.1.1, (s9.1.2.1, (s9.1.2.2.1, (s9.1.2.2.2, ())))))) fun (x18 : Bool) =>
 (bif (Dat.pickB true (Dat.bnot x18) false) then Dat.bnd (Dat.wrap .i64 (Dat.add s9.1.1 d0.2.2.1)) fun (x19 : Int) =>
 Dat.bnd (Dat.wrap .i64 (Dat.sub x19 1)) fun (x20 : Int) =>
 if (Dat.IsZ d0.2.2.1) then none
 else Dat.bnd (Dat.wrap .i64 (Dat.tdiv x20 d0.2.2.1)) fun (x23 : Int) =>
 Dat.bnd (Dat.wrap .i64 (Dat.mul 4 d0.2.2.1)) fun (x24 : Int) =>
 Dat.bind (conf_level ((d0.1, (d0.2.1, (d0.2.2.1, (d0.2.2.2.1, (d0.2.2.2.2.1, (d0.2.2.2.2.2.1, (d0.2.2.2.2.2.2.1, (d0.2.2.2.2.2.2.2.1, (d0.2.2.2.2.2.2.2.2.1, ()))))))))), (x23, x24))) fun (x25 : (Int) × ((Int) × ((Int) × ((Int) × (Unit))))) =>
 if (Dat.EqN (Dat.len x17) (Dat.len x17)) then k10 ((x25.1, (x25.2.1, (x25.2.2.1, x25.2.2.2.1))), x17)
 else none
 else some (x17, 0))
 else none
 else none) ((x4.1, (x4.2.1, (x4.2.2.1, x4.2.2.2.1))), ([] : List ((Int) × ((Int) × ((Int) × ((Int) × (Unit)))))))
 else none
 else none
 else none)
noncomputable def p_conf_Levels : PFn := { args := [(.pair (.int .i64) (.pair (.int .i64) (.pair (.int .i64) (.pair (.int .i64) (.pair (.int .i64) (.pair (.int .i64) (.pair (.int .i64) (.pair (.int .i64) (.pair (.int .i64) .unit)))))))))], res := [(.list (.pair (.int .i64) (.pair (.int .i64) (.pair (.int .i64) (.pair (.int .i64) .unit))))), (.int .i64)], fn := conf_Levels }
def sp22_51 : List LSpec × List Nat := ([{ id := 5100, known := true, toks := [(2002000, (.pair (.int .i64) (.pair (.int .i64) (.pair (.int .i64) (.pair (.int .i64) .unit)))))], items := [.cells 1000003 [.val (.int .i64), .val (.int .i64), .val (.int .i64), .val (.int .i64)], .cells 2 [.slt (.pair (.int .i64) (.pair (.int .i64) (.pair (.int .i64) (.pair (.int .i64) .unit)))) (some 2002000) false]], junk := [10, 11, 12, 13, 14, 15, 16, 17, 18, 19, 20, 21, 22, 23, 24, 25, 26, 27, 28, 29, 30, 31, 32], tails := [(2002000, 2002000)] }], [])
def spt22 : Tab (List LSpec × List Nat) := (.node (.node (.node .leaf none (.node (.node .leaf none (.node .leaf (some sp22_51) .leaf)) none .leaf)) none .leaf) none .leaf)
def spf22 (f : Nat) : List LSpec × List Nat := (spt22.get f).getD ([], [])
theorem pd_conf_Levels : PureD Try.prog cfg 22 p_conf_Levels := fnD spf22 (l := [(39, p_conf_Check), (52, p_conf_level), (53, p_conf_isLast)]) cfgOk cfgGlob (.cons pd_conf_Check (.cons pd_conf_level (.cons pd_conf_isLast .nil))) (fun d => by kernel_rfl)

/-- thimblerig/order.mayBe -/
noncomputable def order_mayBe (d0 : ((Int) × ((Int) × ((Int) × ((Int) × ((Int) × ((Int) × ((Int) × ((Int) × ((Int) × (Unit)))))))))) × ((Int) × ((Int) × ((Int) × ((List (Int)) × (Unit)))))) : Option (Bool) :=
 (bif (Dat.ieq d0.2.1 0) then (bif (Dat.ige d0.2.2.1 0) then (bif (Dat.pickB true (Dat.ilt d0.2.2.1 1) false) then some (Dat.pickB true (Dat.ieq (Dat.ofN (Dat.len d0.2.2.2.2.1)) 0) false)
 else some false)
 else some false)
 else (bif (Dat.ieq d0.2.1 1) then (bif (Dat.ige d0.2.2.1 0) then (bif (Dat.pickB true (Dat.ilt d0.2.2.1 d0.1.1) false) then some (Dat.pickB true (Dat.ieq (Dat.ofN (Dat.len d0.2.2.2.2.1)) 0) false)
 else some false)
 else some false)
 else (bif (Dat.ieq d0.2.1 2) then (bif (Dat.ige d0.2.2.1 0) then (bif (Dat.pickB true (Dat.ilt d0.2.2.1 d0.1.1) false) then some (Dat.pickB true (Dat.ieq (Dat.ofN (Dat.len d0.2.2.2.2.1)) d0.1.2.1) false)
 else some false)
 else some false)
 else some false)))
noncomputable def p_order_mayBe : PFn := { args := [(.pair (.int .i64) (.pair (.int .i64) (.pair (.int .i64) (.pair (.int .i64) (.pair (.int .i64) (.pair (.int .i64) (.pair (.int .i64) (.pair (.int .i64) (.pair (.int .i64) .unit))))))))), (.pair (.int .u8) (.pair (.int .i64) (.pair (.int .i64) (.pair (.list (.int .u8)) .unit))))], res := [.bool], fn := order_mayBe }
theorem pd_order_mayBe : PureD Try.prog cfg 41 p_order_mayBe := fnD sp0 (l := []) cfgOk cfgGlob .nil (fun d => by kernel_rfl)

/-- thimblerig/order.asked -/
noncomputable def order_asked (d0 : ((Int) × ((Int) × ((Int) × ((Int) × ((Int) × ((Int) × ((Int) × ((Int) × ((Int) × (Unit)))))))))) × (List ((Int) × ((Int) × ((Int) × ((List (Int)) × (Unit))))))) : Option ((Int) × (Int)) :=
 Dat.bind (conf_Levels (d0.1.1, (d0.1.2.1, (d0.1.2.2.1, (d0.1.2.2.2.1, (d0.1.2.2.2.2.1, (d0.1.2.2.2.2.2.1, (d0.1.2.2.2.2.2.2.1, (d0.1.2.2.2.2.2.2.2.1, (d0.1.2.2.2.2.2.2.2.2.1, ())))))))))) fun (x1 : (List ((Int) × ((Int) × ((Int) × ((Int) × (Unit)))))) × (Int)) =>
 (bif (Dat.ine x1.2 0) then some (0, x1.2)
 else (bif (Dat.igt (Dat.ofN (Dat.len d0.2)) 512) then some (0, 4)
 else Dat.loop (fun (s2 : Int) k3 =>
 (bif (Dat.ilt s2 (Dat.ofN (Dat.len d0.2))) then if (Dat.Ix s2 (Dat.len d0.2)) then Dat.bnd (Dat.get d0.2 (Dat.toN s2) (0, (0, (0, (([] : List (Int)), ()))))) fun (x6 : (Int) × ((Int) × ((Int) × ((List (Int)) × (Unit))))) =>
 Dat.bind (order_mayBe ((d0.1.1, (d0.1.2.1, (d0.1.2.2.1, (d0.1.2.2.2.1, (d0.1.2.2.2.2.1, (d0.1.2.2.2.2.2.1, (d0.1.2.2.2.2.2.2.1, (d0.1.2.2.2.2.2.2.2.1, (d0.1.2.2.2.2.2.2.2.2.1, ()))))))))), (x6.1, (x6.2.1, (x6.2.2.1, (x6.2.2.2.1, ())))))) fun (x7 : Bool) =>
 (bif (Dat.bnot x7) then some (0, 2)
 else Dat.bnd (Dat.wrap .i64 (Dat.add s2 1)) fun (x8 : Int) =>
 k3 x8)
 else none
 else some ((Dat.ofN (Dat.len x1.1)), 0))) 0))
noncomputable def p_order_asked : PFn := { args := [(.pair (.int .i64) (.pair (.int .i64) (.pair (.int .i64) (.pair (.int .i64) (.pair (.int .i64) (.pair (.int .i64) (.pair (.int .i64) (.pair (.int .i64) (.pair (.int .i64) .unit))))))))), (.list (.pair (.int .u8) (.pair (.int .i64) (.pair (.int .i64) (.pair (.list (.int .u8)) .unit)))))], res := [(.int .i64), (.int .i64)], fn := order_asked }
def sp23_23 : List LSpec × List Nat := ([{ id := 2300, known := true, toks := [], items := [.slot 23 (.val (.int .i64))], junk := [24, 25, 26, 9, 27, 28, 29, 30, 4, 5, 31], tails := [] }], [])
def spt23 : Tab (List LSpec × List Nat) := (.node (.node (.node (.node .leaf none (.node .leaf (some sp23_23) .leaf)) none .leaf) none .leaf) none .leaf)
def spf23 (f : Nat) : List LSpec × List Nat := (spt23.get f).getD ([], [])
theorem pd_order_asked : PureD Try.prog cfg 23 p_order_asked := fnD spf23 (l := [(22, p_conf_Levels), (41, p_order_mayBe)]) cfgOk cfgGlob (.cons pd_conf_Levels (.cons pd_order_mayBe .nil)) (fun d => by kernel_rfl)

/-- thimblerig/conf.Road -/
noncomputable def conf_Road (d0 : ((Int) × ((Int) × ((Int) × ((Int) × ((Int) × ((Int) × ((Int) × ((Int) × ((Int) × (Unit)))))))))) × (Int)) : Option ((List (Int)) × ((List (Int)) × (Int))) :=
 Dat.bind (conf_Check (d0.1.1, (d0.1.2.1, (d0.1.2.2.1, (d0.1.2.2.2.1, (d0.1.2.2.2.2.1, (d0.1.2.2.2.2.2.1, (d0.1.2.2.2.2.2.2.1, (d0.1.2.2.2.2.2.2.2.1, (d0.1.2.2.2.2.2.2.2.2.1, ())))))))))) fun (x1 : Int) =>
 (bif (Dat.ine x1 0) then some (([] : List (Int)), (([] : List (Int)), x1))
 else (bif (Dat.ilt d0.2 0) then some (([] : List (Int)), (([] : List (Int)), 261))
 else (bif (Dat.pickB false true (Dat.ige d0.2 d0.1.1)) then some (([] : List (Int)), (([] : List (Int)), 261))
 else Dat.bind (conf_level ((d0.1.1, (d0.1.2.1, (d0.1.2.2.1, (d0.1.2.2.2.1, (d0.1.2.2.2.2.1, (d0.1.2.2.2.2.2.1, (d0.1.2.2.2.2.2.2.1, (d0.1.2.2.2.2.2.2.2.1, (d0.1.2.2.2.2.2.2.2.2.1, ()))))))))), (d0.1.1, d0.1.2.1))) fun (x2 : (Int) × ((Int) × ((Int) × ((Int) × (Unit))))) =>
 if (Dat.EqN 0 (Dat.len ([] : List (Int)))) then if (Dat.EqN 0 (Dat.len ([] : List (Int)))) then Dat.loop (fun (s7 : ((Int) × ((Int) × ((Int) × (Int)))) × ((List (Int)) × ((List (Int)) × (Int)))) k8 =>
 if (Dat.Le (Dat.addN 0 1) (Dat.len (s7.2.2.2 :: ([] : List (Int))))) then if (Dat.Big (Dat.len s7.2.2.1) (Dat.len (Dat.seg (s7.2.2.2 :: ([] : List (Int))) 0 1)) 8) then none
 else if (Dat.EqN (Dat.len s7.2.2.1) (Dat.len s7.2.2.1)) then Dat.bnd (Dat.app s7.2.2.1 (Dat.seg (s7.2.2.2 :: ([] : List (Int))) 0 1)) fun (x15 : List (Int)) =>
 Dat.bind (conf_isLast ((d0.1.1, (d0.1.2.1, (d0.1.2.2.1, (d0.1.2.2.2.1, (d0.1.2.2.2.2.1, (d0.1.2.2.2.2.2.1, (d0.1.2.2.2.2.2.2.1, (d0.1.2.2.2.2.2.2.2.1, (d0.1.2.2.2.2.2.2.2.2.1, ()))))))))), (s7.1.1, (s7.1.2.1, (s7.1.2.2.1, (s7.1.2.2.2, ())))))) fun (x16 : Bool) =>
 (bif x16 then if (Dat.Le (Dat.addN 0 1) (Dat.len (s7.2.2.2 :: ([] : List (Int))))) then if (Dat.Big (Dat.len s7.2.1) (Dat.len (Dat.seg (s7.2.2.2 :: ([] : List (Int))) 0 1)) 8) then none
 else if (Dat.EqN (Dat.len s7.2.1) (Dat.len s7.2.1)) then Dat.bnd (Dat.app s7.2.1 (Dat.seg (s7.2.2.2 :: ([] : List (Int))) 0 1)) fun (x23 : List (Int)) =>
 Dat.bind (conf_isLast ((d0.1.1, (d0.1.2.1, (d0.1.2.2.1, (d0.1.2.2.2.1, (d0.1.2.2.2.2.1, (d0.1.2.2.2.2.2.1, (d0.1.2.2.2.2.2.2.1, (d0.1.2.2.2.2.2.2.2.1, (d0.1.2.2.2.2.2.2.2.2.1, ()))))))))), (s7.1.1, (s7.1.2.1, (s7.1.2.2.1, (s7.1.2.2.2, ())))))) fun (x24 : Bool) =>
 (bif (Dat.pickB true (Dat.bnot x24) false) then Dat.bnd (Dat.wrap .i64 (Dat.add s7.1.1 d0.1.2.2.1)) fun (x25 : Int) =>
 Dat.bnd (Dat.wrap .i64 (Dat.sub x25 1)) fun (x26 : Int) =>
 if (Dat.IsZ d0.1.2.2.1) then none
 else Dat.bnd (Dat.wrap .i64 (Dat.tdiv x26 d0.1.2.2.1)) fun (x29 : Int) =>
 Dat.bnd (Dat.wrap .i64 (Dat.mul 4 d0.1.2.2.1)) fun (x30 : Int) =>
 Dat.bind (conf_level ((d0.1.1, (d0.1.2.1, (d0.1.2.2.1, (d0.1.2.2.2.1, (d0.1.2.2.2.2.1, (d0.1.2.2.2.2.2.1, (d0.1.2.2.2.2.2.2.1, (d0.1.2.2.2.2.2.2.2.1, (d0.1.2.2.2.2.2.2.2.2.1, ()))))))))), (x29, x30))) fun (x31 : (Int) × ((Int) × ((Int) × ((Int) × (Unit))))) =>
 if (Dat.EqN (Dat.len x23) (Dat.len x23)) then if (Dat.EqN (Dat.len x15) (Dat.len x15)) then k8 ((x31.1, (x31.2.1, (x31.2.2.1, x31.2.2.2.1))), (x23, (x15, s7.2.2.2)))
 else none
 else none
 else some (x15, (x23, 0)))
 else none
 else none
 else if (Dat.IsZ d0.1.2.2.1) then none
 else Dat.bnd (Dat.tmod s7.2.2.2 d0.1.2.2.1) fun (x38 : Int) =>
 if (Dat.Le (Dat.addN 0 1) (Dat.len (x38 :: ([] : List (Int))))) then if (Dat.Big (Dat.len s7.2.1) (Dat.len (Dat.seg (x38 :: ([] : List (Int))) 0 1)) 8) then none
 else if (Dat.EqN (Dat.len s7.2.1) (Dat.len s7.2.1)) then Dat.bnd (Dat.app s7.2.1 (Dat.seg (x38 :: ([] : List (Int))) 0 1)) fun (x45 : List (Int)) =>
 if (Dat.IsZ d0.1.2.2.1) then none
 else Dat.bnd (Dat.wrap .i64 (Dat.tdiv s7.2.2.2 d0.1.2.2.1)) fun (x48 : Int) =>
 Dat.bind (conf_isLast ((d0.1.1, (d0.1.2.1, (d0.1.2.2.1, (d0.1.2.2.2.1, (d0.1.2.2.2.2.1, (d0.1.2.2.2.2.2.1, (d0.1.2.2.2.2.2.2.1, (d0.1.2.2.2.2.2.2.2.1, (d0.1.2.2.2.2.2.2.2.2.1, ()))))))))), (s7.1.1, (s7.1.2.1, (s7.1.2.2.1, (s7.1.2.2.2, ())))))) fun (x49 : Bool) =>
 (bif (Dat.pickB true (Dat.bnot x49) false) then Dat.bnd (Dat.wrap .i64 (Dat.add s7.1.1 d0.1.2.2.1)) fun (x50 : Int) =>
 Dat.bnd (Dat.wrap .i64 (Dat.sub x50 1)) fun (x51 : Int) =>
 if (Dat.IsZ d0.1.2.2.1) then none
 else Dat.bnd (Dat.wrap .i64 (Dat.tdiv x51 d0.1.2.2.1)) fun (x54 : Int) =>
 Dat.bnd (Dat.wrap .i64 (Dat.mul 4 d0.1.2.2.1)) fun (x55 : Int) =>
 Dat.bind (conf_level ((d0.1.1, (d0.1.2.1, (d0.1.2.2.1, (d0.1.2.2.2.1, (d0.1.2.2.2.2.1, (d0.1.2.2.2.2.2.1, (d0.1.2.2.2.2.2.2.1, (d0.1.2.2.2.2.2.2.2.1, (d0.1.2.2.2.2.2.2.2.2.1, ()))))))))), (x54, x55))) fun (x56 : (Int) × ((Int) × ((Int) × ((Int) × (Unit))))) =>
 if (Dat.EqN (Dat.len x45) (Dat.len x45)) then if (Dat.EqN (Dat.len x15) (Dat.len x15)) then k8 ((x56.1, (x56.2.1, (x56.2.2.1, x56.2.2.2.1))), (x45, (x15, x48)))
 else none
 else none
 else some (x15, (x45, 0)))
 else none
 else none)
 else none
 else none) ((x2.1, (x2.2.1, (x2.2.2.1, x2.2.2.2.1))), (([] : List (Int)), (([] : List (Int)), d0.2)))
 else none
 else none)))
noncomputable def p_conf_Road : PFn := { args := [(.pair (.int .i64) (.pair (.int .i64) (.pair (.int .i64) (.pair (.int .i64) (.pair (.int .i64) (.pair (.int .i64) (.pair (.int .i64) (.pair (.int .i64) (.pair (.int .i64) .unit))))))))), (.int .i64)], res := [(.list (.int .i64)), (.list (.int .i64)), (.int .i64)], fn := conf_Road }
def sp44_51 : List LSpec × List Nat := ([{ id := 5100, known := true, toks := [(2002000, (.int .i64)), (2001000, (.int .i64))], items := [.cells 1000003 [.val (.int .i64), .val (.int .i64), .val (.int .i64), .val (.int .i64)], .cells 2 [.slt (.int .i64) (some 2002000) false], .cells 1 [.slt (.int .i64) (some 2001000) false], .cells 3 [.val (.int .i64)]], junk := [10, 11, 12, 13, 14, 15, 16, 17, 18, 19, 20, 21, 22, 23, 24, 25, 26, 27, 28, 29, 30, 31, 32], tails := [(2002000, 2002000), (2001000, 2001000)] }], [])
def spt44 : Tab (List LSpec × List Nat) := (.node (.node (.node .leaf none (.node (.node .leaf none (.node .leaf (some sp44_51) .leaf)) none .leaf)) none .leaf) none .leaf)
def spf44 (f : Nat) : List LSpec × List Nat := (spt44.get f).getD ([], [])
theorem pd_conf_Road : PureD Try.prog cfg 44 p_conf_Road := fnD spf44 (l := [(39, p_conf_Check), (52, p_conf_level), (53, p_conf_isLast)]) cfgOk cfgGlob (.cons pd_conf_Check (.cons pd_conf_level (.cons pd_conf_isLast .nil))) (fun d => by kernel_rfl)

/-- thimblerig/order.told -/
noncomputable def order_told (d0 : ((Int) × ((Int) × ((Int) × ((Int) × ((Int) × ((Int) × ((Int) × ((Int) × ((Int) × (Unit)))))))))) × ((List ((Int) × ((Int) × ((Int) × ((List (Int)) × (Unit)))))) × (Int))) : Option (List (Int)) :=
 if (Dat.MkOk (Dat.ofN (Dat.len d0.2.1)) (Dat.ofN (Dat.len d0.2.1)) 8) then Dat.loop (fun (s3 : (Int) × ((List (Int)) × (List ((Int) × (Int))))) k4 =>
 (bif (Dat.ilt s3.1 (Dat.ofN (Dat.len d0.2.1))) then if (Dat.Ix s3.1 (Dat.len d0.2.1)) then Dat.bnd (Dat.get d0.2.1 (Dat.toN s3.1) (0, (0, (0, (([] : List (Int)), ()))))) fun (x7 : (Int) × ((Int) × ((Int) × ((List (Int)) × (Unit))))) =>
 Dat.bnd (Dat.wrap .i64 (Dat.mul 2 s3.1)) fun (x8 : Int) =>
 Dat.bnd (Dat.wrap .i64 (Dat.add x8 1)) fun (x9 : Int) =>
 if (Dat.In s3.1 (Dat.toN (Dat.ofN (Dat.len d0.2.1)))) then if (Dat.Lt (Dat.addN 0 (Dat.toN s3.1)) (Dat.len s3.2.1)) then Dat.bnd (Dat.set s3.2.1 (Dat.addN 0 (Dat.toN s3.1)) x9) fun (x14 : List (Int)) =>
 (bif (Dat.ieq x7.1 0) then Dat.bnd (Dat.wrap .i64 (Dat.add s3.1 1)) fun (x15 : Int) =>
 k4 (x15, (x14, s3.2.2))
 else Dat.bind (conf_Road ((d0.1.1, (d0.1.2.1, (d0.1.2.2.1, (d0.1.2.2.2.1, (d0.1.2.2.2.2.1, (d0.1.2.2.2.2.2.1, (d0.1.2.2.2.2.2.2.1, (d0.1.2.2.2.2.2.2.2.1, (d0.1.2.2.2.2.2.2.2.2.1, ()))))))))), x7.2.1)) fun (x16 : (List (Int)) × ((List (Int)) × (Int))) =>
 if (Dat.Ix d0.2.2 (Dat.len x16.1)) then Dat.bnd (Dat.get x16.1 (Dat.toN d0.2.2) 0) fun (x19 : Int) =>
 Dat.bnd (Dat.mget s3.2.2 x19) fun (x20 : Int) =>
 Dat.bnd (Dat.mhas s3.2.2 x19) fun (x21 : Bool) =>
 (bif x21 then Dat.bnd (Dat.wrap .i64 (Dat.mul 2 x20)) fun (x22 : Int) =>
 if (Dat.In s3.1 (Dat.toN (Dat.ofN (Dat.len d0.2.1)))) then if (Dat.Lt (Dat.addN 0 (Dat.toN s3.1)) (Dat.len x14)) then Dat.bnd (Dat.set x14 (Dat.addN 0 (Dat.toN s3.1)) x22) fun (x27 : List (Int)) =>
 if (Dat.Ix d0.2.2 (Dat.len x16.1)) then Dat.bnd (Dat.get x16.1 (Dat.toN d0.2.2) 0) fun (x30 : Int) =>
 Dat.bnd (Dat.mput s3.2.2 x30 s3.1) fun (x31 : List ((Int) × (Int))) =>
 Dat.bnd (Dat.wrap .i64 (Dat.add s3.1 1)) fun (x32 : Int) =>
 k4 (x32, (x27, x31))
 else none
 else none
 else none
 else if (Dat.Ix d0.2.2 (Dat.len x16.1)) then Dat.bnd (Dat.get x16.1 (Dat.toN d0.2.2) 0) fun (x35 : Int) =>
 Dat.bnd (Dat.mput s3.2.2 x35 s3.1) fun (x36 : List ((Int) × (Int))) =>
 Dat.bnd (Dat.wrap .i64 (Dat.add s3.1 1)) fun (x37 : Int) =>
 k4 (x37, (x14, x36))
 else none)
 else none)
 else none
 else none
 else none
 else if (Dat.Le (Dat.addN 0 (Dat.toN (Dat.ofN (Dat.len d0.2.1)))) (Dat.len s3.2.1)) then some (Dat.seg s3.2.1 0 (Dat.toN (Dat.ofN (Dat.len d0.2.1))))
 else none)) (0, ((Dat.rep (α := Int) (Dat.toN (Dat.ofN (Dat.len d0.2.1))) 0), ([] : List ((Int) × (Int)))))
 else none
noncomputable def p_order_told : PFn := { args := [(.pair (.int .i64) (.pair (.int .i64) (.pair (.int .i64) (.pair (.int .i64) (.pair (.int .i64) (.pair (.int .i64) (.pair (.int .i64) (.pair (.int .i64) (.pair (.int .i64) .unit))))))))), (.list (.pair (.int .u8) (.pair (.int .i64) (.pair (.int .i64) (.pair (.list (.int .u8)) .unit))))), (.int .i64)], res := [(.list (.int .i64))], fn := order_told }
def sp24_42 : List LSpec × List Nat := ([{ id := 4200, known := true, toks := [], items := [.slot 8 (.val (.int .i64)), .vec 2003000 (.int .i64), .map 2005000 .i64 .i64], junk := [9, 10, 11, 12, 5, 4, 13, 14, 15, 16, 17], tails := [] }], [])
def spt24 : Tab (List LSpec × List Nat) := (.node .leaf none (.node .leaf none (.node (.node .leaf none (.node (.node .leaf (some sp24_42) .leaf) none .leaf)) none .leaf)))
def spf24 (f : Nat) : List LSpec × List Nat := (spt24.get f).getD ([], [])
theorem pd_order_told : PureD Try.prog cfg 24 p_order_told := fnD spf24 (l := [(44, p_conf_Road)]) cfgOk cfgGlob (.cons pd_conf_Road .nil) (fun d => by kernel_rfl)

/-- thimblerig/order.Cells -/
noncomputable def order_Cells (d0 : ((Int) × ((Int) × ((Int) × ((Int) × ((Int) × ((Int) × ((Int) × ((Int) × ((Int) × (Unit)))))))))) × (List ((Int) × ((Int) × ((Int) × ((List (Int)) × (Unit))))))) : Option ((List (List (Int))) × (Int)) :=
 Dat.bind (order_asked ((d0.1.1, (d0.1.2.1, (d0.1.2.2.1, (d0.1.2.2.2.1, (d0.1.2.2.2.2.1, (d0.1.2.2.2.2.2.1, (d0.1.2.2.2.2.2.2.1, (d0.1.2.2.2.2.2.2.2.1, (d0.1.2.2.2.2.2.2.2.2.1, ()))))))))), d0.2)) fun (x1 : (Int) × (Int)) =>
 (bif (Dat.ine x1.2 0) then some (([] : List (List (Int))), x1.2)
 else if (Dat.MkOk x1.1 x1.1 24) then Dat.loop (fun (s4 : (Int) × (List (List (Int)))) k5 =>
 (bif (Dat.ilt s4.1 (Dat.ofN (Dat.toN x1.1))) then Dat.bind (order_told ((d0.1.1, (d0.1.2.1, (d0.1.2.2.1, (d0.1.2.2.2.1, (d0.1.2.2.2.2.1, (d0.1.2.2.2.2.2.1, (d0.1.2.2.2.2.2.2.1, (d0.1.2.2.2.2.2.2.2.1, (d0.1.2.2.2.2.2.2.2.2.1, ()))))))))), (d0.2, s4.1))) fun (x6 : List (Int)) =>
 if (Dat.In s4.1 (Dat.toN x1.1)) then if (Dat.Lt (Dat.addN 0 (Dat.toN s4.1)) (Dat.len s4.2)) then Dat.bnd (Dat.set s4.2 (Dat.addN 0 (Dat.toN s4.1)) x6) fun (x11 : List (List (Int))) =>
 Dat.bnd (Dat.wrap .i64 (Dat.add s4.1 1)) fun (x12 : Int) =>
 k5 (x12, x11)
 else none
 else none
 else if (Dat.Le (Dat.addN 0 (Dat.toN x1.1)) (Dat.len s4.2)) then some ((Dat.seg s4.2 0 (Dat.toN x1.1)), 0)
 else none)) (0, (Dat.rep (α := List (Int)) (Dat.toN x1.1) ([] : List (Int))))
 else none)
noncomputable def p_order_Cells : PFn := { args := [(.pair (.int .i64) (.pair (.int .i64) (.pair (.int .i64) (.pair (.int .i64) (.pair (.int .i64) (.pair (.int .i64) (.pair (.int .i64) (.pair (.int .i64) (.pair (.int .i64) .unit))))))))), (.list (.pair (.int .u8) (.pair (.int .i64) (.pair (.int .i64) (.pair (.list (.int .u8)) .unit)))))], res := [(.list (.list (.int .i64))), (.int .i64)], fn := order_Cells }
def sp8_8 : List LSpec × List Nat := ([{ id := 800, known := true, toks := [], items := [.slot 23 (.val (.int .i64)), .vec 1000008 (.list (.int .i64))], junk := [24, 25, 9, 26, 27, 28, 29, 30, 31, 32, 33], tails := [] }], [])
def spt8 : Tab (List LSpec × List Nat) := (.node .leaf none (.node (.node (.node .leaf (some sp8_8) .leaf) none .leaf) none .leaf))
def spf8 (f : Nat) : List LSpec × List Nat := (spt8.get f).getD ([], [])
theorem pd_order_Cells : PureD Try.prog cfg 8 p_order_Cells := fnD spf8 (l := [(23, p_order_asked), (24, p_order_told)]) cfgOk cfgGlob (.cons pd_order_asked (.cons pd_order_told .nil)) (fun d => by kernel_rfl)

/-- thimblerig/thimblerigref08.in -/
noncomputable def ref08_in (d0 : (Int) × ((Int) × (Int))) : Option (Bool) :=
 (bif (Dat.ige d0.1 d0.2.1) then some (Dat.pickB true (Dat.ile d0.1 d0.2.2) false)
 else some false)
noncomputable def p_ref08_in : PFn := { args := [(.int .i64), (.int .i64), (.int .i64)], res := [.bool], fn := ref08_in }
theorem pd_ref08_in : PureD Try.prog cfg 58 p_ref08_in := fnD sp0 (l := []) cfgOk cfgGlob .nil (fun d => by kernel_rfl)

/-- thimblerig/thimblerigref08.numbers -/
noncomputable def ref08_numbers (d0 : (Int) × ((Int) × ((Int) × ((Int) × ((Int) × ((Int) × ((Int) × ((Int) × ((Int) × (Unit)))))))))) : Option (Bool) :=
 Dat.bind (ref08_in (d0.1, (1, 64))) fun (x1 : Bool) =>
 (bif x1 then Dat.bind (ref08_in (d0.2.1, (1, 32))) fun (x2 : Bool) =>
 (bif (Dat.pickB true x2 false) then Dat.bind (ref08_in (d0.2.2.1, (2, 8))) fun (x3 : Bool) =>
 (bif (Dat.pickB true x3 false) then Dat.bind (ref08_in (d0.2.2.2.1, (1, 4))) fun (x4 : Bool) =>
 (bif (Dat.pickB true x4 false) then Dat.bind (ref08_in (d0.2.2.2.2.1, (1, 64))) fun (x5 : Bool) =>
 (bif (Dat.pickB true x5 false) then Dat.bind (ref08_in (d0.2.2.2.2.2.1, (1, 8))) fun (x6 : Bool) =>
 (bif (Dat.pickB true x6 false) then Dat.bind (ref08_in (d0.2.2.2.2.2.2.1, (1, 4))) fun (x7 : Bool) =>
 (bif (Dat.pickB true x7 false) then Dat.bind (ref08_in (d0.2.2.2.2.2.2.2.1, (1, 16))) fun (x8 : Bool) =>
 (bif (Dat.pickB true x8 false) then Dat.bind (ref08_in (d0.2.2.2.2.2.2.2.2.1, (1, 16))) fun (x9 : Bool) =>
 some (Dat.pickB true x9 false)
 else some false)
 else some false)
 else some false)
 else some false)
 else some false)
 else some false)
 else some false)
 else some false)
noncomputable def p_ref08_numbers : PFn := { args := [(.pair (.int .i64) (.pair (.int .i64) (.pair (.int .i64) (.pair (.int .i64) (.pair (.int .i64) (.pair (.int .i64) (.pair (.int .i64) (.pair (.int .i64) (.pair (.int .i64) .unit)))))))))], res := [.bool], fn := ref08_numbers }
theorem pd_ref08_numbers : PureD Try.prog cfg 54 p_ref08_numbers := fnD sp0 (l := [(58, p_ref08_in)]) cfgOk cfgGlob (.cons pd_ref08_in .nil) (fun d => by kernel_rfl)

/-- thimblerig/thimblerigref07.Many -/
noncomputable def ref07_Many (d0 : Int) : Option (Int) :=
 Dat.loop (fun (s1 : (Int) × (Int)) k2 =>
 (bif (Dat.ilt s1.2 d0) then Dat.bnd (Dat.wrap .i64 (Dat.mul 2 s1.1)) fun (x3 : Int) =>
 Dat.bnd (Dat.wrap .i64 (Dat.add s1.2 1)) fun (x4 : Int) =>
 k2 (x3, x4)
 else some s1.1)) (1, 0)
noncomputable def p_ref07_Many : PFn := { args := [(.int .i64)], res := [(.int .i64)], fn := ref07_Many }
def sp55_55 : List LSpec × List Nat := ([{ id := 5500, known := true, toks := [], items := [.slot 3 (.val (.int .i64)), .slot 4 (.val (.int .i64))], junk := [5, 6, 7, 10, 11, 8, 9], tails := [] }], [])
def spt55 : Tab (List LSpec × List Nat) := (.node (.node (.node (.node .leaf none (.node .leaf none (.node .leaf (some sp55_55) .leaf))) none .leaf) none .leaf) none .leaf)
def spf55 (f : Nat) : List LSpec × List Nat := (spt55.get f).getD ([], [])
theorem pd_ref07_Many : PureD Try.prog cfg 55 p_ref07_Many := fnD spf55 (l := []) cfgOk cfgGlob .nil (fun d => by kernel_rfl)

/-- thimblerig/thimblerigref08.high -/
noncomputable def ref08_high (d0 : Int) : Option (Int) :=
 Dat.loop (fun (s1 : Int) k2 =>
 Dat.bind (ref07_Many s1) fun (x3 : Int) =>
 (bif (Dat.ilt x3 d0) then Dat.bnd (Dat.wrap .i64 (Dat.add s1 1)) fun (x4 : Int) =>
 k2 x4
 else some s1)) 1
noncomputable def p_ref08_high : PFn := { args := [(.int .i64)], res := [(.int .i64)], fn := ref08_high }
def sp47_47 : List LSpec × List Nat := ([{ id := 4700, known := true, toks := [], items := [.slot 3 (.val (.int .i64))], junk := [4, 5, 6, 7, 8, 9], tails := [] }], [])
def spt47 : Tab (List LSpec × List Nat) := (.node (.node (.node (.node (.node .leaf none (.node .leaf (some sp47_47) .leaf)) none .leaf) none .leaf) none .leaf) none .leaf)
def spf47 (f : Nat) : List LSpec × List Nat := (spt47.get f).getD ([], [])
theorem pd_ref08_high : PureD Try.prog cfg 47 p_ref08_high := fnD spf47 (l := [(55, p_ref07_Many)]) cfgOk cfgGlob (.cons pd_ref07_Many .nil) (fun d => by kernel_rfl)

/-- thimblerig/thimblerigref08.All -/
noncomputable def ref08_All (d0 : (Int) × ((Int) × ((Int) × ((Int) × ((Int) × ((Int) × ((Int) × ((Int) × ((Int) × (Unit)))))))))) : Option (List ((Int) × ((Int) × ((Int) × ((Int) × (Unit)))))) :=
 if (Dat.EqN 0 (Dat.len ([] : List ((Int) × ((Int) × ((Int) × ((Int) × (Unit)))))))) then Dat.loop (fun (s3 : (List ((Int) × ((Int) × ((Int) × ((Int) × (Unit)))))) × ((Int) × (Int))) k4 =>
 Dat.bnd (Dat.wrap .i64 (Dat.add 8 s3.2.2)) fun (x5 : Int) =>
 Dat.bnd (Dat.wrap .i64 (Dat.mul d0.2.2.2.1 x5)) fun (x6 : Int) =>
 Dat.bnd (Dat.wrap .i64 (Dat.add x6 64)) fun (x7 : Int) =>
 Dat.bind (ref08_high s3.2.1) fun (x8 : Int) =>
 if (Dat.Le (Dat.addN 0 1) (Dat.len ((s3.2.1, (s3.2.2, (x8, (x7, ())))) :: ([] : List ((Int) × ((Int) × ((Int) × ((Int) × (Unit))))))))) then if (Dat.Big (Dat.len s3.1) (Dat.len (Dat.seg ((s3.2.1, (s3.2.2, (x8, (x7, ())))) :: ([] : List ((Int) × ((Int) × ((Int) × ((Int) × (Unit))))))) 0 1)) 32) then none
 else if (Dat.EqN (Dat.len s3.1) (Dat.len s3.1)) then Dat.bnd (Dat.app s3.1 (Dat.seg ((s3.2.1, (s3.2.2, (x8, (x7, ())))) :: ([] : List ((Int) × ((Int) × ((Int) × ((Int) × (Unit))))))) 0 1)) fun (x15 : List ((Int) × ((Int) × ((Int) × ((Int) × (Unit)))))) =>
 (bif (Dat.ile s3.2.1 d0.2.2.2.2.2.2.2.2.1) then some x15
 else Dat.bnd (Dat.wrap .i64 (Dat.add s3.2.1 d0.2.2.1)) fun (x16 : Int) =>
 Dat.bnd (Dat.wrap .i64 (Dat.sub x16 1)) fun (x17 : Int) =>
 if (Dat.IsZ d0.2.2.1) then none
 else Dat.bnd (Dat.wrap .i64 (Dat.tdiv x17 d0.2.2.1)) fun (x20 : Int) =>
 Dat.bnd (Dat.wrap .i64 (Dat.mul 4 d0.2.2.1)) fun (x21 : Int) =>
 if (Dat.EqN (Dat.len x15) (Dat.len x15)) then k4 (x15, (x20, x21))
 else none)
 else none
 else none) (([] : List ((Int) × ((Int) × ((Int) × ((Int) × (Unit)))))), (d0.1, d0.2.1))
 else none
noncomputable def p_ref08_All : PFn := { args := [(.pair (.int .i64) (.pair (.int .i64) (.pair (.int .i64) (.pair (.int .i64) (.pair (.int .i64) (.pair (.int .i64) (.pair (.int .i64) (.pair (.int .i64) (.pair (.int .i64) .unit)))))))))], res := [(.list (.pair (.int .i64) (.pair (.int .i64) (.pair (.int .i64) (.pair (.int .i64) .unit)))))], fn := ref08_All }
def sp35_35 : List LSpec × List Nat := ([{ id := 3500, known := true, toks := [(3, (.pair (.int .i64) (.pair (.int .i64) (.pair (.int .i64) (.pair (.int .i64) .unit)))))], items := [.slot 3 (.slt (.pair (.int .i64) (.pair (.int .i64) (.pair (.int .i64) (.pair (.int .i64) .unit)))) (some 1000003) false), .slot 4 (.val (.int .i64)), .slot 5 (.val (.int .i64))], junk := [10, 11, 12, 13, 14, 15, 16, 17, 18, 19, 20, 21, 22, 23, 24, 25, 26, 27, 28, 2, 29, 30, 31, 32, 33, 34, 35, 36, 37, 38, 39], tails := [(1000003, 3)] }], [])
def spt35 : Tab (List LSpec × List Nat) := (.node (.node (.node .leaf none (.node (.node (.node .leaf (some sp35_35) .leaf) none .leaf) none .leaf)) none .leaf) none .leaf)
def spf35 (f : Nat) : List LSpec × List Nat := (spt35.get f).getD ([], [])
theorem pd_ref08_All : PureD Try.prog cfg 35 p_ref08_All := fnD spf35 (l := [(47, p_ref08_high)]) cfgOk cfgGlob (.cons pd_ref08_high .nil) (fun d => by kernel_rfl)

/-- thimblerig/thimblerigref08.May -/
noncomputable def ref08_May (d0 : (Int) × ((Int) × ((Int) × ((Int) × ((Int) × ((Int) × ((Int) × ((Int) × ((Int) × (Unit)))))))))) : Option (Bool) :=
 Dat.bind (ref08_numbers (d0.1, (d0.2.1, (d0.2.2.1, (d0.2.2.2.1, (d0.2.2.2.2.1, (d0.2.2.2.2.2.1, (d0.2.2.2.2.2.2.1, (d0.2.2.2.2.2.2.2.1, (d0.2.2.2.2.2.2.2.2.1, ())))))))))) fun (x1 : Bool) =>
 (bif x1 then Dat.bind (ref08_All (d0.1, (d0.2.1, (d0.2.2.1, (d0.2.2.2.1, (d0.2.2.2.2.1, (d0.2.2.2.2.2.1, (d0.2.2.2.2.2.2.1, (d0.2.2.2.2.2.2.2.1, (d0.2.2.2.2.2.2.2.2.1, ())))))))))) fun (x2 : List ((Int) × ((Int) × ((Int) × ((Int) × (Unit)))))) =>
 some (Dat.pickB true (Dat.ile (Dat.ofN (Dat.len x2)) 4) false)
 else some false)
noncomputable def p_ref08_May : PFn := { args := [(.pair (.int .i64) (.pair (.int .i64) (.pair (.int .i64) (.pair (.int .i64) (.pair (.int .i64) (.pair (.int .i64) (.pair (.int .i64) (.pair (.int .i64) (.pair (.int .i64) .unit)))))))))], res := [.bool], fn := ref08_May }
theorem pd_ref08_May : PureD Try.prog cfg 45 p_ref08_May := fnD sp0 (l := [(54, p_ref08_numbers), (35, p_ref08_All)]) cfgOk cfgGlob (.cons pd_ref08_numbers (.cons pd_ref08_All .nil)) (fun d => by kernel_rfl)

/-- thimblerig/thimblerigref20.MayUnit -/
noncomputable def ref20_MayUnit (d0 : ((Int) × ((Int) × ((Int) × ((Int) × ((Int) × ((Int) × ((Int) × ((Int) × ((Int) × (Unit)))))))))) × ((Int) × ((Int) × ((Int) × ((List (Int)) × (Unit)))))) : Option (Bool) :=
 (bif (Dat.ieq d0.2.1 0) then (bif (Dat.ieq d0.2.2.1 0) then some (Dat.pickB true (Dat.ieq (Dat.ofN (Dat.len d0.2.2.2.2.1)) 0) false)
 else some false)
 else (bif (Dat.ieq d0.2.1 1) then (bif (Dat.ige d0.2.2.1 0) then (bif (Dat.pickB true (Dat.ilt d0.2.2.1 d0.1.1) false) then some (Dat.pickB true (Dat.ieq (Dat.ofN (Dat.len d0.2.2.2.2.1)) 0) false)
 else some false)
 else some false)
 else (bif (Dat.ieq d0.2.1 2) then (bif (Dat.ige d0.2.2.1 0) then (bif (Dat.pickB true (Dat.ilt d0.2.2.1 d0.1.1) false) then some (Dat.pickB true (Dat.ieq (Dat.ofN (Dat.len d0.2.2.2.2.1)) d0.1.2.1) false)
 else some false)
 else some false)
 else some false)))
noncomputable def p_ref20_MayUnit : PFn := { args := [(.pair (.int .i64) (.pair (.int .i64) (.pair (.int .i64) (.pair (.int .i64) (.pair (.int .i64) (.pair (.int .i64) (.pair (.int .i64) (.pair (.int .i64) (.pair (.int .i64) .unit))))))))), (.pair (.int .u8) (.pair (.int .i64) (.pair (.int .i64) (.pair (.list (.int .u8)) .unit))))], res := [.bool], fn := ref20_MayUnit }
theorem pd_ref20_MayUnit : PureD Try.prog cfg 46 p_ref20_MayUnit := fnD sp0 (l := []) cfgOk cfgGlob .nil (fun d => by kernel_rfl)

/-- thimblerig/thimblerigref21.asked -/
noncomputable def ref21_asked (d0 : ((Int) × ((Int) × ((Int) × ((Int) × ((Int) × ((Int) × ((Int) × ((Int) × ((Int) × (Unit)))))))))) × (List ((Int) × ((Int) × ((Int) × ((List (Int)) × (Unit))))))) : Option (Int) :=
 Dat.bind (ref08_May (d0.1.1, (d0.1.2.1, (d0.1.2.2.1, (d0.1.2.2.2.1, (d0.1.2.2.2.2.1, (d0.1.2.2.2.2.2.1, (d0.1.2.2.2.2.2.2.1, (d0.1.2.2.2.2.2.2.2.1, (d0.1.2.2.2.2.2.2.2.2.1, ())))))))))) fun (x1 : Bool) =>
 (bif (Dat.bnot x1) then some 8
 else (bif (Dat.igt (Dat.ofN (Dat.len d0.2)) 512) then some 4
 else Dat.loop (fun (s2 : Int) k3 =>
 (bif (Dat.ilt s2 (Dat.ofN (Dat.len d0.2))) then if (Dat.Ix s2 (Dat.len d0.2)) then Dat.bnd (Dat.get d0.2 (Dat.toN s2) (0, (0, (0, (([] : List (Int)), ()))))) fun (x6 : (Int) × ((Int) × ((Int) × ((List (Int)) × (Unit))))) =>
 Dat.bind (ref20_MayUnit ((d0.1.1, (d0.1.2.1, (d0.1.2.2.1, (d0.1.2.2.2.1, (d0.1.2.2.2.2.1, (d0.1.2.2.2.2.2.1, (d0.1.2.2.2.2.2.2.1, (d0.1.2.2.2.2.2.2.2.1, (d0.1.2.2.2.2.2.2.2.2.1, ()))))))))), (x6.1, (x6.2.1, (x6.2.2.1, (x6.2.2.2.1, ())))))) fun (x7 : Bool) =>
 (bif (Dat.bnot x7) then some 2
 else Dat.bnd (Dat.wrap .i64 (Dat.add s2 1)) fun (x8 : Int) =>
 k3 x8)
 else none
 else some 0)) 0))
noncomputable def p_ref21_asked : PFn := { args := [(.pair (.int .i64) (.pair (.int .i64) (.pair (.int .i64) (.pair (.int .i64) (.pair (.int .i64) (.pair (.int .i64) (.pair (.int .i64) (.pair (.int .i64) (.pair (.int .i64) .unit))))))))), (.list (.pair (.int .u8) (.pair (.int .i64) (.pair (.int .i64) (.pair (.list (.int .u8)) .unit)))))], res := [(.int .i64)], fn := ref21_asked }
def sp34_34 : List LSpec × List Nat := ([{ id := 3400, known := true, toks := [], items := [.slot 5 (.val (.int .i64))], junk := [12, 13, 14, 15, 18, 19, 20, 21, 22, 23, 24, 4, 16, 17], tails := [] }], [])
def spt34 : Tab (List LSpec × List Nat) := (.node .leaf none (.node .leaf none (.node (.node (.node (.node .leaf (some sp34_34) .leaf) none .leaf) none .leaf) none .leaf)))
def spf34 (f : Nat) : List LSpec × List Nat := (spt34.get f).getD ([], [])
theorem pd_ref21_asked : PureD Try.prog cfg 34 p_ref21_asked := fnD spf34 (l := [(45, p_ref08_May), (46, p_ref20_MayUnit)]) cfgOk cfgGlob (.cons pd_ref08_May (.cons pd_ref20_MayUnit .nil)) (fun d => by kernel_rfl)

/-- thimblerig/thimblerigref08.Way -/
noncomputable def ref08_Way (d0 : ((Int) × ((Int) × ((Int) × ((Int) × ((Int) × ((Int) × ((Int) × ((Int) × ((Int) × (Unit)))))))))) × (Int)) : Option ((List (Int)) × (List (Int))) :=
 Dat.bind (ref08_All (d0.1.1, (d0.1.2.1, (d0.1.2.2.1, (d0.1.2.2.2.1, (d0.1.2.2.2.2.1, (d0.1.2.2.2.2.2.1, (d0.1.2.2.2.2.2.2.1, (d0.1.2.2.2.2.2.2.2.1, (d0.1.2.2.2.2.2.2.2.2.1, ())))))))))) fun (x1 : List ((Int) × ((Int) × ((Int) × ((Int) × (Unit)))))) =>
 if (Dat.EqN 0 (Dat.len ([] : List (Int)))) then if (Dat.EqN 0 (Dat.len ([] : List (Int)))) then Dat.loop (fun (s6 : (List (Int)) × ((List (Int)) × ((Int) × (Int)))) k7 =>
 (bif (Dat.ilt s6.2.2.2 (Dat.ofN (Dat.len x1))) then if (Dat.Le (Dat.addN 0 1) (Dat.len (s6.2.2.1 :: ([] : List (Int))))) then if (Dat.Big (Dat.len s6.1) (Dat.len (Dat.seg (s6.2.2.1 :: ([] : List (Int))) 0 1)) 8) then none
 else if (Dat.EqN (Dat.len s6.1) (Dat.len s6.1)) then Dat.bnd (Dat.app s6.1 (Dat.seg (s6.2.2.1 :: ([] : List (Int))) 0 1)) fun (x14 : List (Int)) =>
 Dat.bnd (Dat.wrap .i64 (Dat.sub (Dat.ofN (Dat.len x1)) 1)) fun (x15 : Int) =>
 (bif (Dat.ieq s6.2.2.2 x15) then if (Dat.Le (Dat.addN 0 1) (Dat.len (s6.2.2.1 :: ([] : List (Int))))) then if (Dat.Big (Dat.len s6.2.1) (Dat.len (Dat.seg (s6.2.2.1 :: ([] : List (Int))) 0 1)) 8) then none
 else if (Dat.EqN (Dat.len s6.2.1) (Dat.len s6.2.1)) then Dat.bnd (Dat.app s6.2.1 (Dat.seg (s6.2.2.1 :: ([] : List (Int))) 0 1)) fun (x22 : List (Int)) =>
 if (Dat.IsZ d0.1.2.2.1) then none
 else Dat.bnd (Dat.wrap .i64 (Dat.tdiv s6.2.2.1 d0.1.2.2.1)) fun (x25 : Int) =>
 Dat.bnd (Dat.wrap .i64 (Dat.add s6.2.2.2 1)) fun (x26 : Int) =>
 if (Dat.EqN (Dat.len x14) (Dat.len x14)) then if (Dat.EqN (Dat.len x22) (Dat.len x22)) then k7 (x14, (x22, (x25, x26)))
 else none
 else none
 else none
 else none
 else if (Dat.IsZ d0.1.2.2.1) then none
 else Dat.bnd (Dat.tmod s6.2.2.1 d0.1.2.2.1) fun (x33 : Int) =>
 if (Dat.Le (Dat.addN 0 1) (Dat.len (x33 :: ([] : List (Int))))) then if (Dat.Big (Dat.len s6.2.1) (Dat.len (Dat.seg (x33 :: ([] : List (Int))) 0 1)) 8) then none
 else if (Dat.EqN (Dat.len s6.2.1) (Dat.len s6.2.1)) then Dat.bnd (Dat.app s6.2.1 (Dat.seg (x33 :: ([] : List (Int))) 0 1)) fun (x40 : List (Int)) =>
 if (Dat.IsZ d0.1.2.2.1) then none
 else Dat.bnd (Dat.wrap .i64 (Dat.tdiv s6.2.2.1 d0.1.2.2.1)) fun (x43 : Int) =>
 Dat.bnd (Dat.wrap .i64 (Dat.add s6.2.2.2 1)) fun (x44 : Int) =>
 if (Dat.EqN (Dat.len x14) (Dat.len x14)) then if (Dat.EqN (Dat.len x40) (Dat.len x40)) then k7 (x14, (x40, (x43, x44)))
 else none
 else none
 else none
 else none)
 else none
 else none
 else some (s6.1, s6.2.1))) (([] : List (Int)), (([] : List (Int)), (d0.2, 0)))
 else none
 else none
noncomputable def p_ref08_Way : PFn := { args := [(.pair (.int .i64) (.pair (.int .i64) (.pair (.int .i64) (.pair (.int .i64) (.pair (.int .i64) (.pair (.int .i64) (.pair (.int .i64) (.pair (.int .i64) (.pair (.int .i64) .unit))))))))), (.int .i64)], res := [(.list (.int .i64)), (.list (.int .i64))], fn := ref08_Way }
def sp56_56 : List LSpec × List Nat := ([{ id := 5600, known := true, toks := [(6, (.int .i64)), (7, (.int .i64))], items := [.slot 6 (.slt (.int .i64) (some 1000006) false), .slot 7 (.slt (.int .i64) (some 1000007) false), .slot 9 (.val (.int .i64)), .slot 10 (.val (.int .i64))], junk := [15, 16, 17, 20, 21, 22, 23, 24, 25, 26, 27, 28, 29, 30, 31, 32, 33, 34, 35, 36, 37, 38, 39, 40, 41, 42, 18, 19], tails := [(1000006, 6), (1000007, 7)] }], [])
def spt56 : Tab (List LSpec × List Nat) := (.node .leaf none (.node (.node (.node .leaf none (.node .leaf none (.node .leaf (some sp56_56) .leaf))) none .leaf) none .leaf))
def spf56 (f : Nat) : List LSpec × List Nat := (spt56.get f).getD ([], [])
theorem pd_ref08_Way : PureD Try.prog cfg 56 p_ref08_Way := fnD spf56 (l := [(35, p_ref08_All)]) cfgOk cfgGlob (.cons pd_ref08_All .nil) (fun d => by kernel_rfl)

/-- thimblerig/thimblerigref21.block -/
noncomputable def ref21_block (d0 : ((Int) × ((Int) × ((Int) × ((Int) × ((Int) × ((Int) × ((Int) × ((Int) × ((Int) × (Unit)))))))))) × (((Int) × ((Int) × ((Int) × ((List (Int)) × (Unit))))) × (Int))) : Option (Int) :=
 (bif (Dat.ieq d0.2.1.1 0) then some (-1)
 else Dat.bind (ref08_Way ((d0.1.1, (d0.1.2.1, (d0.1.2.2.1, (d0.1.2.2.2.1, (d0.1.2.2.2.2.1, (d0.1.2.2.2.2.2.1, (d0.1.2.2.2.2.2.2.1, (d0.1.2.2.2.2.2.2.2.1, (d0.1.2.2.2.2.2.2.2.2.1, ()))))))))), d0.2.1.2.1)) fun (x1 : (List (Int)) × (List (Int))) =>
 if (Dat.Ix d0.2.2 (Dat.len x1.1)) then Dat.bnd (Dat.get x1.1 (Dat.toN d0.2.2) 0) fun (x4 : Int) =>
 some x4
 else none)
noncomputable def p_ref21_block : PFn := { args := [(.pair (.int .i64) (.pair (.int .i64) (.pair (.int .i64) (.pair (.int .i64) (.pair (.int .i64) (.pair (.int .i64) (.pair (.int .i64) (.pair (.int .i64) (.pair (.int .i64) .unit))))))))), (.pair (.int .u8) (.pair (.int .i64) (.pair (.int .i64) (.pair (.list (.int .u8)) .unit)))), (.int .i64)], res := [(.int .i64)], fn := ref21_block }
theorem pd_ref21_block : PureD Try.prog cfg 48 p_ref21_block := fnD sp0 (l := [(56, p_ref08_Way)]) cfgOk cfgGlob (.cons pd_ref08_Way .nil) (fun d => by kernel_rfl)

/-- thimblerig/thimblerigref21.Told -/
noncomputable def ref21_Told (d0 : ((Int) × ((Int) × ((Int) × ((Int) × ((Int) × ((Int) × ((Int) × ((Int) × ((Int) × (Unit)))))))))) × ((List ((Int) × ((Int) × ((Int) × ((List (Int)) × (Unit)))))) × ((Int) × (Int)))) : Option (Int) :=
 if (Dat.Ix d0.2.2.2 (Dat.len d0.2.1)) then Dat.bnd (Dat.get d0.2.1 (Dat.toN d0.2.2.2) (0, (0, (0, (([] : List (Int)), ()))))) fun (x3 : (Int) × ((Int) × ((Int) × ((List (Int)) × (Unit))))) =>
 Dat.bind (ref21_block ((d0.1.1, (d0.1.2.1, (d0.1.2.2.1, (d0.1.2.2.2.1, (d0.1.2.2.2.2.1, (d0.1.2.2.2.2.2.1, (d0.1.2.2.2.2.2.2.1, (d0.1.2.2.2.2.2.2.2.1, (d0.1.2.2.2.2.2.2.2.2.1, ()))))))))), ((x3.1, (x3.2.1, (x3.2.2.1, (x3.2.2.2.1, ())))), d0.2.2.1))) fun (x4 : Int) =>
 Dat.bnd (Dat.wrap .i64 (Dat.sub d0.2.2.2 1)) fun (x5 : Int) =>
 Dat.loop (fun (s6 : Int) k7 =>
 (bif (Dat.ige s6 0) then (bif (Dat.pickB true (Dat.ige x4 0) false) then if (Dat.Ix s6 (Dat.len d0.2.1)) then Dat.bnd (Dat.get d0.2.1 (Dat.toN s6) (0, (0, (0, (([] : List (Int)), ()))))) fun (x10 : (Int) × ((Int) × ((Int) × ((List (Int)) × (Unit))))) =>
 Dat.bind (ref21_block ((d0.1.1, (d0.1.2.1, (d0.1.2.2.1, (d0.1.2.2.2.1, (d0.1.2.2.2.2.1, (d0.1.2.2.2.2.2.1, (d0.1.2.2.2.2.2.2.1, (d0.1.2.2.2.2.2.2.2.1, (d0.1.2.2.2.2.2.2.2.2.1, ()))))))))), ((x10.1, (x10.2.1, (x10.2.2.1, (x10.2.2.2.1, ())))), d0.2.2.1))) fun (x11 : Int) =>
 (bif (Dat.ieq x11 x4) then Dat.bnd (Dat.wrap .i64 (Dat.mul 2 s6)) fun (x12 : Int) =>
 some x12
 else Dat.bnd (Dat.wrap .i64 (Dat.sub s6 1)) fun (x13 : Int) =>
 k7 x13)
 else none
 else Dat.bnd (Dat.wrap .i64 (Dat.mul 2 d0.2.2.2)) fun (x14 : Int) =>
 Dat.bnd (Dat.wrap .i64 (Dat.add x14 1)) fun (x15 : Int) =>
 some x15)
 else Dat.bnd (Dat.wrap .i64 (Dat.mul 2 d0.2.2.2)) fun (x16 : Int) =>
 Dat.bnd (Dat.wrap .i64 (Dat.add x16 1)) fun (x17 : Int) =>
 some x17)) x5
 else none
noncomputable def p_ref21_Told : PFn := { args := [(.pair (.int .i64) (.pair (.int .i64) (.pair (.int .i64) (.pair (.int .i64) (.pair (.int .i64) (.pair (.int .i64) (.pair (.int .i64) (.pair (.int .i64) (.pair (.int .i64) .unit))))))))), (.list (.pair (.int .u8) (.pair (.int .i64) (.pair (.int .i64) (.pair (.list (.int .u8)) .unit))))), (.int .i64), (.int .i64)], res := [(.int .i64)], fn := ref21_Told }
def sp36_36 : List LSpec × List Nat := ([{ id := 3600, known := true, toks := [], items := [.slot 10 (.val (.int .i64))], junk := [20, 21, 22, 23, 24, 25, 28, 29, 30, 31, 32, 33, 34, 35, 36, 37, 38, 8, 26, 27], tails := [] }], [])
def spt36 : Tab (List LSpec × List Nat) := (.node .leaf none (.node (.node .leaf none (.node (.node (.node .leaf (some sp36_36) .leaf) none .leaf) none .leaf)) none .leaf))
def spf36 (f : Nat) : List LSpec × List Nat := (spt36.get f).getD ([], [])
theorem pd_ref21_Told : PureD Try.prog cfg 36 p_ref21_Told := fnD spf36 (l := [(48, p_ref21_block)]) cfgOk cfgGlob (.cons pd_ref21_block .nil) (fun d => by kernel_rfl)

/-- thimblerig/thimblerigref21.Cells -/
noncomputable def ref21_Cells (d0 : ((Int) × ((Int) × ((Int) × ((Int) × ((Int) × ((Int) × ((Int) × ((Int) × ((Int) × (Unit)))))))))) × (List ((Int) × ((Int) × ((Int) × ((List (Int)) × (Unit))))))) : Option ((List (List (Int))) × (Int)) :=
 Dat.bind (ref21_asked ((d0.1.1, (d0.1.2.1, (d0.1.2.2.1, (d0.1.2.2.2.1, (d0.1.2.2.2.2.1, (d0.1.2.2.2.2.2.1, (d0.1.2.2.2.2.2.2.1, (d0.1.2.2.2.2.2.2.2.1, (d0.1.2.2.2.2.2.2.2.2.1, ()))))))))), d0.2)) fun (x1 : Int) =>
 (bif (Dat.ine x1 0) then some (([] : List (List (Int))), x1)
 else if (Dat.EqN 0 (Dat.len ([] : List (List (Int))))) then Dat.loop (fun (s4 : (List (List (Int))) × (Int)) k5 =>
 Dat.bind (ref08_All (d0.1.1, (d0.1.2.1, (d0.1.2.2.1, (d0.1.2.2.2.1, (d0.1.2.2.2.2.1, (d0.1.2.2.2.2.2.1, (d0.1.2.2.2.2.2.2.1, (d0.1.2.2.2.2.2.2.2.1, (d0.1.2.2.2.2.2.2.2.2.1, ())))))))))) fun (x6 : List ((Int) × ((Int) × ((Int) × ((Int) × (Unit)))))) =>
 (bif (Dat.ilt s4.2 (Dat.ofN (Dat.len x6))) then if (Dat.EqN 0 (Dat.len ([] : List (Int)))) then Dat.loop (fun (s9 : (List (Int)) × (Int)) k10 =>
 (bif (Dat.ilt s9.2 (Dat.ofN (Dat.len d0.2))) then Dat.bind (ref21_Told ((d0.1.1, (d0.1.2.1, (d0.1.2.2.1, (d0.1.2.2.2.1, (d0.1.2.2.2.2.1, (d0.1.2.2.2.2.2.1, (d0.1.2.2.2.2.2.2.1, (d0.1.2.2.2.2.2.2.2.1, (d0.1.2.2.2.2.2.2.2.2.1, ()))))))))), (d0.2, (s4.2, s9.2)))) fun (x11 : Int) =>
 if (Dat.Le (Dat.addN 0 1) (Dat.len (x11 :: ([] : List (Int))))) then if (Dat.Big (Dat.len s9.1) (Dat.len (Dat.seg (x11 :: ([] : List (Int))) 0 1)) 8) then none
 else if (Dat.EqN (Dat.len s9.1) (Dat.len s9.1)) then Dat.bnd (Dat.app s9.1 (Dat.seg (x11 :: ([] : List (Int))) 0 1)) fun (x18 : List (Int)) =>
 Dat.bnd (Dat.wrap .i64 (Dat.add s9.2 1)) fun (x19 : Int) =>
 if (Dat.EqN (Dat.len x18) (Dat.len x18)) then k10 (x18, x19)
 else none
 else none
 else none
 else if (Dat.Le (Dat.addN 0 1) (Dat.len (s9.1 :: ([] : List (List (Int)))))) then if (Dat.Big (Dat.len s4.1) (Dat.len (Dat.seg (s9.1 :: ([] : List (List (Int)))) 0 1)) 24) then none
 else if (Dat.EqN (Dat.len s4.1) (Dat.len s4.1)) then Dat.bnd (Dat.app s4.1 (Dat.seg (s9.1 :: ([] : List (List (Int)))) 0 1)) fun (x28 : List (List (Int))) =>
 Dat.bnd (Dat.wrap .i64 (Dat.add s4.2 1)) fun (x29 : Int) =>
 if (Dat.EqN (Dat.len x28) (Dat.len x28)) then k5 (x28, x29)
 else none
 else none
 else none)) (([] : List (Int)), 0)
 else none
 else some (s4.1, 0))) (([] : List (List (Int))), 0)
 else none)
noncomputable def p_ref21_Cells : PFn := { args := [(.pair (.int .i64) (.pair (.int .i64) (.pair (.int .i64) (.pair (.int .i64) (.pair (.int .i64) (.pair (.int .i64) (.pair (.int .i64) (.pair (.int .i64) (.pair (.int .i64) .unit))))))))), (.list (.pair (.int .u8) (.pair (.int .i64) (.pair (.int .i64) (.pair (.list (.int .u8)) .unit)))))], res := [(.list (.list (.int .i64))), (.int .i64)], fn := ref21_Cells }
def sp15_15 : List LSpec × List Nat := ([{ id := 1500, known := true, toks := [(7, (.list (.int .i64)))], items := [.slot 7 (.slt (.list (.int .i64)) (some 1000007) false), .slot 8 (.val (.int .i64))], junk := [17, 18, 19, 20, 21, 9, 10, 24, 25, 26, 27, 30, 31, 32, 33, 34, 35, 36, 37, 28, 29, 38, 39, 40, 41, 22, 23], tails := [(1000007, 7)] }, { id := 1501, known := true, toks := [(9, (.int .i64))], items := [.slot 9 (.slt (.int .i64) (some 1000009) false), .slot 10 (.val (.int .i64))], junk := [24, 25, 26, 27, 30, 31, 32, 33, 34, 35, 36, 37, 28, 29], tails := [(1000009, 9)] }], [])
def spt15 : Tab (List LSpec × List Nat) := (.node (.node (.node (.node (.node .leaf (some sp15_15) .leaf) none .leaf) none .leaf) none .leaf) none .leaf)
def spf15 (f : Nat) : List LSpec × List Nat := (spt15.get f).getD ([], [])
theorem pd_ref21_Cells : PureD Try.prog cfg 15 p_ref21_Cells := fnD spf15 (l := [(34, p_ref21_asked), (35, p_ref08_All), (36, p_ref21_Told)]) cfgOk cfgGlob (.cons pd_ref21_asked (.cons pd_ref08_All (.cons pd_ref21_Told .nil))) (fun d => by kernel_rfl)

/-- thimblerig/order.Perm$1 -/
noncomputable def order_Perm_1 (d0 : List (Int)) : Option (List (Int)) :=
 Dat.bnd (Dat.wrap .i64 (Dat.mul 2 (Dat.ofN (Dat.len d0)))) fun (x1 : Int) =>
 if (Dat.MkOk x1 x1 1) then Dat.bnd (Dat.wrap .i64 (Dat.mul 2 (Dat.ofN (Dat.len d0)))) fun (x4 : Int) =>
 if (Dat.MkOk x4 x4 8) then Dat.loop (fun (s7 : (Int) × ((List (Bool)) × (List (Int)))) k8 =>
 (bif (Dat.ilt s7.1 (Dat.ofN (Dat.len d0))) then if (Dat.Ix s7.1 (Dat.len d0)) then Dat.bnd (Dat.get d0 (Dat.toN s7.1) 0) fun (x11 : Int) =>
 Dat.bnd (Dat.wrap .i64 (Dat.mul 2 s7.1)) fun (x12 : Int) =>
 if (Dat.In x12 (Dat.toN x4)) then if (Dat.Lt (Dat.addN 0 (Dat.toN x12)) (Dat.len s7.2.2)) then Dat.bnd (Dat.set s7.2.2 (Dat.addN 0 (Dat.toN x12)) x11) fun (x17 : List (Int)) =>
 if (Dat.In x11 (Dat.toN x1)) then if (Dat.Lt (Dat.addN 0 (Dat.toN x11)) (Dat.len s7.2.1)) then Dat.bnd (Dat.set s7.2.1 (Dat.addN 0 (Dat.toN x11)) true) fun (x22 : List (Bool)) =>
 Dat.bnd (Dat.wrap .i64 (Dat.add s7.1 1)) fun (x23 : Int) =>
 k8 (x23, (x22, x17))
 else none
 else none
 else none
 else none
 else none
 else Dat.loop (fun (s24 : (Int) × ((Int) × (List (Int)))) k25 =>
 (bif (Dat.ilt s24.1 (Dat.ofN (Dat.toN x1))) then if (Dat.In s24.1 (Dat.toN x1)) then if (Dat.Lt (Dat.addN 0 (Dat.toN s24.1)) (Dat.len s7.2.1)) then Dat.bnd (Dat.get s7.2.1 (Dat.addN 0 (Dat.toN s24.1)) false) fun (x30 : Bool) =>
 (bif (Dat.bnot x30) then Dat.bnd (Dat.wrap .i64 (Dat.mul 2 s24.2.1)) fun (x31 : Int) =>
 Dat.bnd (Dat.wrap .i64 (Dat.add x31 1)) fun (x32 : Int) =>
 if (Dat.In x32 (Dat.toN x4)) then if (Dat.Lt (Dat.addN 0 (Dat.toN x32)) (Dat.len s24.2.2)) then Dat.bnd (Dat.set s24.2.2 (Dat.addN 0 (Dat.toN x32)) s24.1) fun (x37 : List (Int)) =>
 Dat.bnd (Dat.wrap .i64 (Dat.add s24.2.1 1)) fun (x38 : Int) =>
 Dat.bnd (Dat.wrap .i64 (Dat.add s24.1 1)) fun (x39 : Int) =>
 k25 (x39, (x38, x37))
 else none
 else none
 else Dat.bnd (Dat.wrap .i64 (Dat.add s24.1 1)) fun (x40 : Int) =>
 k25 (x40, (s24.2.1, s24.2.2)))
 else none
 else none
 else if (Dat.Le (Dat.addN 0 (Dat.toN x4)) (Dat.len s24.2.2)) then some (Dat.seg s24.2.2 0 (Dat.toN x4))
 else none)) (0, (0, s7.2.2)))) (0, ((Dat.rep (α := Bool) (Dat.toN x1) false), (Dat.rep (α := Int) (Dat.toN x4) 0)))
 else none
 else none
noncomputable def p_order_Perm_1 : PFn := { args := [(.list (.int .i64))], res := [(.list (.int .i64))], fn := order_Perm_1 }
def sp25_26 : List LSpec × List Nat := ([{ id := 2600, known := true, toks := [], items := [.slot 8 (.val (.int .i64)), .vec 2001000 .bool, .vec 2003000 (.int .i64)], junk := [9, 10, 11, 12, 4, 5, 13, 14, 15, 16, 17], tails := [] }], [])
def sp25_28 : List LSpec × List Nat := ([{ id := 2800, known := true, toks := [], items := [.slot 8 (.val (.int .i64)), .cells 4 [.val (.int .i64)], .vec 2003000 (.int .i64)], junk := [9, 10, 11, 12, 4, 5, 13, 14, 15, 16, 17], tails := [] }], [])
def spt25 : Tab (List LSpec × List Nat) := (.node .leaf none (.node (.node .leaf none (.node .leaf none (.node .leaf (some sp25_28) .leaf))) none (.node (.node .leaf none (.node .leaf (some sp25_26) .leaf)) none .leaf)))
def spf25 (f : Nat) : List LSpec × List Nat := (spt25.get f).getD ([], [])
theorem pd_order_Perm_1 : PureD Try.prog cfg 25 p_order_Perm_1 := fnD spf25 (l := []) cfgOk cfgGlob .nil (fun d => by kernel_rfl)

/-- thimblerig/order.Perm -/
noncomputable def order_Perm (d0 : ((Int) × ((Int) × ((Int) × ((Int) × ((Int) × ((Int) × ((Int) × ((Int) × ((Int) × (Unit)))))))))) × (List ((Int) × ((Int) × ((Int) × ((List (Int)) × (Unit))))))) : Option ((List (List (Int))) × (Int)) :=
 Dat.bind (order_Cells ((d0.1.1, (d0.1.2.1, (d0.1.2.2.1, (d0.1.2.2.2.1, (d0.1.2.2.2.2.1, (d0.1.2.2.2.2.2.1, (d0.1.2.2.2.2.2.2.1, (d0.1.2.2.2.2.2.2.2.1, (d0.1.2.2.2.2.2.2.2.2.1, ()))))))))), d0.2)) fun (x1 : (List (List (Int))) × (Int)) =>
 (bif (Dat.ine x1.2 0) then some (([] : List (List (Int))), x1.2)
 else if (Dat.MkOk (Dat.ofN (Dat.len x1.1)) (Dat.ofN (Dat.len x1.1)) 24) then Dat.loop (fun (s4 : (Int) × (List (List (Int)))) k5 =>
 (bif (Dat.ilt s4.1 (Dat.ofN (Dat.toN (Dat.ofN (Dat.len x1.1))))) then if (Dat.Ix s4.1 (Dat.len x1.1)) then Dat.bnd (Dat.get x1.1 (Dat.toN s4.1) ([] : List (Int))) fun (x8 : List (Int)) =>
 Dat.bind (order_Perm_1 x8) fun (x9 : List (Int)) =>
 if (Dat.In s4.1 (Dat.toN (Dat.ofN (Dat.len x1.1)))) then if (Dat.Lt (Dat.addN 0 (Dat.toN s4.1)) (Dat.len s4.2)) then Dat.bnd (Dat.set s4.2 (Dat.addN 0 (Dat.toN s4.1)) x9) fun (x14 : List (List (Int))) =>
 Dat.bnd (Dat.wrap .i64 (Dat.add s4.1 1)) fun (x15 : Int) =>
 k5 (x15, x14)
 else none
 else none
 else none
 else if (Dat.Le (Dat.addN 0 (Dat.toN (Dat.ofN (Dat.len x1.1)))) (Dat.len s4.2)) then some ((Dat.seg s4.2 0 (Dat.toN (Dat.ofN (Dat.len x1.1)))), 0)
 else none)) (0, (Dat.rep (α := List (Int)) (Dat.toN (Dat.ofN (Dat.len x1.1))) ([] : List (Int))))
 else none)
noncomputable def p_order_Perm : PFn := { args := [(.pair (.int .i64) (.pair (.int .i64) (.pair (.int .i64) (.pair (.int .i64) (.pair (.int .i64) (.pair (.int .i64) (.pair (.int .i64) (.pair (.int .i64) (.pair (.int .i64) .unit))))))))), (.list (.pair (.int .u8) (.pair (.int .i64) (.pair (.int .i64) (.pair (.list (.int .u8)) .unit)))))], res := [(.list (.list (.int .i64))), (.int .i64)], fn := order_Perm }
def sp10_10 : List LSpec × List Nat := ([{ id := 1000, known := true, toks := [], items := [.slot 25 (.val (.int .i64)), .vec 1000009 (.list (.int .i64))], junk := [26, 27, 10, 28, 29, 30, 31, 32, 33, 34, 35, 36, 37], tails := [] }], [])
def spt10 : Tab (List LSpec × List Nat) := (.node .leaf none (.node .leaf none (.node (.node .leaf (some sp10_10) .leaf) none .leaf)))
def spf10 (f : Nat) : List LSpec × List Nat := (spt10.get f).getD ([], [])
theorem pd_order_Perm : PureD Try.prog cfg 10 p_order_Perm := fnD spf10 (l := [(8, p_order_Cells), (25, p_order_Perm_1)]) cfgOk cfgGlob (.cons pd_order_Cells (.cons pd_order_Perm_1 .nil)) (fun d => by kernel_rfl)

/-- thimblerig/thimblerigref21.among -/
noncomputable def ref21_among (d0 : (List (Int)) × (Int)) : Option (Bool) :=
 Dat.loop (fun (s1 : Int) k2 =>
 (bif (Dat.ilt s1 (Dat.ofN (Dat.len d0.1))) then if (Dat.Ix s1 (Dat.len d0.1)) then Dat.bnd (Dat.get d0.1 (Dat.toN s1) 0) fun (x5 : Int) =>
 (bif (Dat.ieq x5 d0.2) then some true
 else Dat.bnd (Dat.wrap .i64 (Dat.add s1 1)) fun (x6 : Int) =>
 k2 x6)
 else none
 else some false)) 0
noncomputable def p_ref21_among : PFn := { args := [(.list (.int .i64)), (.int .i64)], res := [.bool], fn := ref21_among }
def sp37_37 : List LSpec × List Nat := ([{ id := 3700, known := true, toks := [], items := [.slot 5 (.val (.int .i64))], junk := [6, 7, 8, 9, 12, 13, 14, 15, 16, 17, 4, 10, 11], tails := [] }], [])
def spt37 : Tab (List LSpec × List Nat) := (.node (.node .leaf none (.node .leaf none (.node (.node (.node .leaf (some sp37_37) .leaf) none .leaf) none .leaf))) none .leaf)
def spf37 (f : Nat) : List LSpec × List Nat := (spt37.get f).getD ([], [])
theorem pd_ref21_among : PureD Try.prog cfg 37 p_ref21_among := fnD spf37 (l := []) cfgOk cfgGlob .nil (fun d => by kernel_rfl)

/-- thimblerig/thimblerigref21.Perm -/
noncomputable def ref21_Perm (d0 : ((Int) × ((Int) × ((Int) × ((Int) × ((Int) × ((Int) × ((Int) × ((Int) × ((Int) × (Unit)))))))))) × (List ((Int) × ((Int) × ((Int) × ((List (Int)) × (Unit))))))) : Option ((List (List (Int))) × (Int)) :=
 Dat.bind (ref21_Cells ((d0.1.1, (d0.1.2.1, (d0.1.2.2.1, (d0.1.2.2.2.1, (d0.1.2.2.2.2.1, (d0.1.2.2.2.2.2.1, (d0.1.2.2.2.2.2.2.1, (d0.1.2.2.2.2.2.2.2.1, (d0.1.2.2.2.2.2.2.2.2.1, ()))))))))), d0.2)) fun (x1 : (List (List (Int))) × (Int)) =>
 (bif (Dat.ine x1.2 0) then some (([] : List (List (Int))), x1.2)
 else if (Dat.EqN 0 (Dat.len ([] : List (List (Int))))) then Dat.loop (fun (s4 : (List (List (Int))) × (Int)) k5 =>
 (bif (Dat.ilt s4.2 (Dat.ofN (Dat.len x1.1))) then if (Dat.EqN 0 (Dat.len ([] : List (Int)))) then Dat.loop (fun (s8 : (List (Int)) × (Int)) k9 =>
 Dat.bnd (Dat.wrap .i64 (Dat.mul 2 (Dat.ofN (Dat.len d0.2)))) fun (x10 : Int) =>
 (bif (Dat.ilt s8.2 x10) then if (Dat.Ix s4.2 (Dat.len x1.1)) then Dat.bnd (Dat.get x1.1 (Dat.toN s4.2) ([] : List (Int))) fun (x13 : List (Int)) =>
 Dat.bind (ref21_among (x13, s8.2)) fun (x14 : Bool) =>
 (bif (Dat.bnot x14) then if (Dat.Le (Dat.addN 0 1) (Dat.len (s8.2 :: ([] : List (Int))))) then if (Dat.Big (Dat.len s8.1) (Dat.len (Dat.seg (s8.2 :: ([] : List (Int))) 0 1)) 8) then none
 else if (Dat.EqN (Dat.len s8.1) (Dat.len s8.1)) then Dat.bnd (Dat.app s8.1 (Dat.seg (s8.2 :: ([] : List (Int))) 0 1)) fun (x21 : List (Int)) =>
 Dat.bnd (Dat.wrap .i64 (Dat.add s8.2 1)) fun (x22 : Int) =>
 if (Dat.EqN (Dat.len x21) (Dat.len x21)) then k9 (x21, x22)
 else none
 else none
 else none
 else Dat.bnd (Dat.wrap .i64 (Dat.add s8.2 1)) fun (x25 : Int) =>
 if (Dat.EqN (Dat.len s8.1) (Dat.len s8.1)) then k9 (s8.1, x25)
 else none)
 else none
 else if (Dat.EqN 0 (Dat.len ([] : List (Int)))) then Dat.loop (fun (s30 : (List (Int)) × (Int)) k31 =>
 (bif (Dat.ilt s30.2 (Dat.ofN (Dat.len d0.2))) then if (Dat.Ix s4.2 (Dat.len x1.1)) then Dat.bnd (Dat.get x1.1 (Dat.toN s4.2) ([] : List (Int))) fun (x34 : List (Int)) =>
 if (Dat.Ix s30.2 (Dat.len x34)) then Dat.bnd (Dat.get x34 (Dat.toN s30.2) 0) fun (x37 : Int) =>
 if (Dat.Ix s30.2 (Dat.len s8.1)) then Dat.bnd (Dat.get s8.1 (Dat.toN s30.2) 0) fun (x40 : Int) =>
 if (Dat.Le (Dat.addN 0 2) (Dat.len (x37 :: (x40 :: ([] : List (Int)))))) then if (Dat.Big (Dat.len s30.1) (Dat.len (Dat.seg (x37 :: (x40 :: ([] : List (Int)))) 0 2)) 8) then none
 else if (Dat.EqN (Dat.len s30.1) (Dat.len s30.1)) then Dat.bnd (Dat.app s30.1 (Dat.seg (x37 :: (x40 :: ([] : List (Int)))) 0 2)) fun (x47 : List (Int)) =>
 Dat.bnd (Dat.wrap .i64 (Dat.add s30.2 1)) fun (x48 : Int) =>
 if (Dat.EqN (Dat.len x47) (Dat.len x47)) then k31 (x47, x48)
 else none
 else none
 else none
 else none
 else none
 else none
 else if (Dat.Le (Dat.addN 0 1) (Dat.len (s30.1 :: ([] : List (List (Int)))))) then if (Dat.Big (Dat.len s4.1) (Dat.len (Dat.seg (s30.1 :: ([] : List (List (Int)))) 0 1)) 24) then none
 else if (Dat.EqN (Dat.len s4.1) (Dat.len s4.1)) then Dat.bnd (Dat.app s4.1 (Dat.seg (s30.1 :: ([] : List (List (Int)))) 0 1)) fun (x57 : List (List (Int))) =>
 Dat.bnd (Dat.wrap .i64 (Dat.add s4.2 1)) fun (x58 : Int) =>
 if (Dat.EqN (Dat.len x57) (Dat.len x57)) then k5 (x57, x58)
 else none
 else none
 else none)) (([] : List (Int)), 0)
 else none)) (([] : List (Int)), 0)
 else none
 else some (s4.1, 0))) (([] : List (List (Int))), 0)
 else none)
noncomputable def p_ref21_Perm : PFn := { args := [(.pair (.int .i64) (.pair (.int .i64) (.pair (.int .i64) (.pair (.int .i64) (.pair (.int .i64) (.pair (.int .i64) (.pair (.int .i64) (.pair (.int .i64) (.pair (.int .i64) .unit))))))))), (.list (.pair (.int .u8) (.pair (.int .i64) (.pair (.int .i64) (.pair (.list (.int .u8)) .unit)))))], res := [(.list (.list (.int .i64))), (.int .i64)], fn := ref21_Perm }
def sp16_16 : List LSpec × List Nat := ([{ id := 1600, known := true, toks := [(8, (.list (.int .i64)))], items := [.slot 8 (.slt (.list (.int .i64)) (some 1000008) false), .slot 9 (.val (.int .i64))], junk := [23, 24, 25, 26, 10, 11, 29, 30, 31, 32, 33, 36, 37, 38, 39, 40, 41, 42, 43, 44, 45, 46, 34, 35, 12, 13, 47, 48, 49, 50, 53, 54, 55, 56, 57, 58, 59, 60, 61, 62, 63, 64, 65, 66, 51, 52, 67, 68, 69, 70, 27, 28], tails := [(1000008, 8)] }, { id := 1601, known := true, toks := [(10, (.int .i64))], items := [.slot 10 (.slt (.int .i64) (some 1000010) false), .slot 11 (.val (.int .i64))], junk := [29, 30, 31, 32, 33, 36, 37, 38, 39, 40, 41, 42, 43, 44, 45, 46, 34, 35], tails := [(1000010, 10)] }, { id := 1602, known := true, toks := [(12, (.int .i64))], items := [.slot 12 (.slt (.int .i64) (some 1000012) false), .slot 13 (.val (.int .i64))], junk := [47, 48, 49, 50, 53, 54, 55, 56, 57, 58, 59, 60, 61, 62, 63, 64, 65, 66, 51, 52], tails := [(1000012, 12)] }], [])
def spt16 : Tab (List LSpec × List Nat) := (.node .leaf none (.node (.node (.node (.node .leaf (some sp16_16) .leaf) none .leaf) none .leaf) none .leaf))
def spf16 (f : Nat) : List LSpec × List Nat := (spt16.get f).getD ([], [])
theorem pd_ref21_Perm : PureD Try.prog cfg 16 p_ref21_Perm := fnD spf16 (l := [(15, p_ref21_Cells), (37, p_ref21_among)]) cfgOk cfgGlob (.cons pd_ref21_Cells (.cons pd_ref21_among .nil)) (fun d => by kernel_rfl)

/-- thimblerig/thimblerigref01.SameInts -/
noncomputable def ref01_SameInts (d0 : (List (Int)) × (List (Int))) : Option (Bool) :=
 (bif (Dat.ine (Dat.ofN (Dat.len d0.1)) (Dat.ofN (Dat.len d0.2))) then some false
 else Dat.loop (fun (s1 : Int) k2 =>
 (bif (Dat.ilt s1 (Dat.ofN (Dat.len d0.1))) then if (Dat.Ix s1 (Dat.len d0.1)) then Dat.bnd (Dat.get d0.1 (Dat.toN s1) 0) fun (x5 : Int) =>
 if (Dat.Ix s1 (Dat.len d0.2)) then Dat.bnd (Dat.get d0.2 (Dat.toN s1) 0) fun (x8 : Int) =>
 (bif (Dat.ine x5 x8) then some false
 else Dat.bnd (Dat.wrap .i64 (Dat.add s1 1)) fun (x9 : Int) =>
 k2 x9)
 else none
 else none
 else some true)) 0)
noncomputable def p_ref01_SameInts : PFn := { args := [(.list (.int .i64)), (.list (.int .i64))], res := [.bool], fn := ref01_SameInts }
def sp21_21 : List LSpec × List Nat := ([{ id := 2100, known := true, toks := [], items := [.slot 5 (.val (.int .i64))], junk := [11, 12, 13, 14, 17, 18, 19, 20, 21, 22, 23, 24, 25, 4, 15, 16], tails := [] }], [])
def spt21 : Tab (List LSpec × List Nat) := (.node (.node .leaf none (.node .leaf none (.node (.node .leaf (some sp21_21) .leaf) none .leaf))) none .leaf)
def spf21 (f : Nat) : List LSpec × List Nat := (spt21.get f).getD ([], [])
theorem pd_ref01_SameInts : PureD Try.prog cfg 21 p_ref01_SameInts := fnD spf21 (l := []) cfgOk cfgGlob .nil (fun d => by kernel_rfl)

/-- thimblerig/thimbleriglaw21.sameAll -/
noncomputable def law21_sameAll (d0 : (List (List (Int))) × (List (List (Int)))) : Option (Bool) :=
 (bif (Dat.ine (Dat.ofN (Dat.len d0.1)) (Dat.ofN (Dat.len d0.2))) then some false
 else Dat.loop (fun (s1 : Int) k2 =>
 (bif (Dat.ilt s1 (Dat.ofN (Dat.len d0.1))) then if (Dat.Ix s1 (Dat.len d0.1)) then Dat.bnd (Dat.get d0.1 (Dat.toN s1) ([] : List (Int))) fun (x5 : List (Int)) =>
 if (Dat.Ix s1 (Dat.len d0.2)) then Dat.bnd (Dat.get d0.2 (Dat.toN s1) ([] : List (Int))) fun (x8 : List (Int)) =>
 Dat.bind (ref01_SameInts (x5, x8)) fun (x9 : Bool) =>
 (bif (Dat.bnot x9) then some false
 else Dat.bnd (Dat.wrap .i64 (Dat.add s1 1)) fun (x10 : Int) =>
 k2 x10)
 else none
 else none
 else some true)) 0)
noncomputable def p_law21_sameAll : PFn := { args := [(.list (.list (.int .i64))), (.list (.list (.int .i64)))], res := [.bool], fn := law21_sameAll }
def sp17_17 : List LSpec × List Nat := ([{ id := 1700, known := true, toks := [], items := [.slot 5 (.val (.int .i64))], junk := [11, 12, 13, 14, 17, 18, 19, 20, 21, 22, 23, 24, 25, 26, 4, 15, 16], tails := [] }], [])
def spt17 : Tab (List LSpec × List Nat) := (.node (.node .leaf none (.node (.node (.node .leaf (some sp17_17) .leaf) none .leaf) none .leaf)) none .leaf)
def spf17 (f : Nat) : List LSpec × List Nat := (spt17.get f).getD ([], [])
theorem pd_law21_sameAll : PureD Try.prog cfg 17 p_law21_sameAll := fnD spf17 (l := [(21, p_ref01_SameInts)]) cfgOk cfgGlob (.cons pd_ref01_SameInts .nil) (fun d => by kernel_rfl)

/-- thimblerig/thimbleriglaw21.OrderTells -/
noncomputable def law21_OrderTells (d0 : ((Int) × ((Int) × ((Int) × ((Int) × ((Int) × ((Int) × ((Int) × ((Int) × ((Int) × (Unit)))))))))) × (List ((Int) × ((Int) × ((Int) × ((List (Int)) × (Unit))))))) : Option (Bool) :=
 Dat.join (σ := Bool) (fun k1 =>
 Dat.bind (ref21_GreatUnits (d0.2, 40)) fun (x2 : Bool) =>
 (bif x2 then (bif (Dat.ilt (Dat.ofN (Dat.len d0.2)) 513) then k1 (Dat.pickB true true false)
 else Dat.bind (ref21_GreatUnits (d0.2, 520)) fun (x3 : Bool) =>
 k1 (Dat.pickB true (Dat.pickB false true x3) false))
 else k1 false)) fun (j4 : Bool) =>
 (bif j4 then some true
 else Dat.bind (order_Cells ((d0.1.1, (d0.1.2.1, (d0.1.2.2.1, (d0.1.2.2.2.1, (d0.1.2.2.2.2.1, (d0.1.2.2.2.2.2.1, (d0.1.2.2.2.2.2.2.1, (d0.1.2.2.2.2.2.2.2.1, (d0.1.2.2.2.2.2.2.2.2.1, ()))))))))), d0.2)) fun (x5 : (List (List (Int))) × (Int)) =>
 Dat.bind (ref21_Cells ((d0.1.1, (d0.1.2.1, (d0.1.2.2.1, (d0.1.2.2.2.1, (d0.1.2.2.2.2.1, (d0.1.2.2.2.2.2.1, (d0.1.2.2.2.2.2.2.1, (d0.1.2.2.2.2.2.2.2.1, (d0.1.2.2.2.2.2.2.2.2.1, ()))))))))), d0.2)) fun (x6 : (List (List (Int))) × (Int)) =>
 Dat.bind (order_Perm ((d0.1.1, (d0.1.2.1, (d0.1.2.2.1, (d0.1.2.2.2.1, (d0.1.2.2.2.2.1, (d0.1.2.2.2.2.2.1, (d0.1.2.2.2.2.2.2.1, (d0.1.2.2.2.2.2.2.2.1, (d0.1.2.2.2.2.2.2.2.2.1, ()))))))))), d0.2)) fun (x7 : (List (List (Int))) × (Int)) =>
 Dat.bind (ref21_Perm ((d0.1.1, (d0.1.2.1, (d0.1.2.2.1, (d0.1.2.2.2.1, (d0.1.2.2.2.2.1, (d0.1.2.2.2.2.2.1, (d0.1.2.2.2.2.2.2.1, (d0.1.2.2.2.2.2.2.2.1, (d0.1.2.2.2.2.2.2.2.2.1, ()))))))))), d0.2)) fun (x8 : (List (List (Int))) × (Int)) =>
 Dat.join (σ := Bool) (fun k9 =>
 Dat.bind (law21_sameAll (x5.1, x6.1)) fun (x10 : Bool) =>
 (bif x10 then (bif (Dat.pickB true (Dat.ieq x5.2 x6.2) false) then Dat.bind (law21_sameAll (x7.1, x8.1)) fun (x11 : Bool) =>
 (bif (Dat.pickB true x11 false) then k9 (Dat.pickB true (Dat.ieq x7.2 x8.2) false)
 else k9 false)
 else k9 false)
 else k9 false)) fun (j12 : Bool) =>
 some j12)
noncomputable def p_law21_OrderTells : PFn := { args := [(.pair (.int .i64) (.pair (.int .i64) (.pair (.int .i64) (.pair (.int .i64) (.pair (.int .i64) (.pair (.int .i64) (.pair (.int .i64) (.pair (.int .i64) (.pair (.int .i64) .unit))))))))), (.list (.pair (.int .u8) (.pair (.int .i64) (.pair (.int .i64) (.pair (.list (.int .u8)) .unit)))))], res := [.bool], fn := law21_OrderTells }
def sp4_14 : List LSpec × List Nat := ([{ id := 5014000, known := false, toks := [], items := [], junk := [4], tails := [] }, { id := 5014001, known := false, toks := [], items := [.slot 5 (.val (.int .i64))], junk := [], tails := [] }, { id := 1400, known := false, toks := [], items := [], junk := [], tails := [] }, { id := 5014002, known := true, toks := [], items := [.slot 14 (.val .bool)], junk := [6, 7, 8, 9, 10, 11, 12, 13], tails := [] }, { id := 5014003, known := false, toks := [], items := [], junk := [], tails := [] }, { id := 5014004, known := false, toks := [], items := [.slot 23 (.val .bool)], junk := [17, 18, 19, 20, 21, 22], tails := [] }, { id := 5014005, known := false, toks := [], items := [], junk := [4], tails := [] }, { id := 5014006, known := false, toks := [], items := [.slot 4 (.val .bool)], junk := [], tails := [] }, { id := 5014007, known := false, toks := [], items := [.slot 5 (.val (.int .i64))], junk := [15, 16], tails := [] }, { id := 5014008, known := false, toks := [], items := [.slot 4 (.val .bool)], junk := [24, 25, 26, 27], tails := [] }], [])
def sp4_50 : List LSpec × List Nat := ([{ id := 5050000, known := false, toks := [], items := [], junk := [2], tails := [] }, { id := 5050001, known := true, toks := [], items := [.slot 2 (.val .bool)], junk := [3, 4, 5, 6, 7, 8, 9, 10, 11, 12, 13, 14], tails := [] }], [])
def sp4_60 : List LSpec × List Nat := ([{ id := 5060000, known := false, toks := [], items := [], junk := [2], tails := [] }, { id := 5060001, known := true, toks := [], items := [.slot 8 (.val .bool)], junk := [3, 4, 5, 6, 7], tails := [] }, { id := 5060002, known := false, toks := [], items := [], junk := [2], tails := [] }, { id := 5060003, known := false, toks := [], items := [.slot 2 (.val (.int .i64))], junk := [], tails := [] }, { id := 5060004, known := false, toks := [], items := [.slot 2 (.val (.int .i64))], junk := [], tails := [] }], [])
def sp4_57 : List LSpec × List Nat := ([{ id := 5057000, known := false, toks := [], items := [], junk := [2], tails := [] }, { id := 5057001, known := false, toks := [], items := [.slot 3 (.val (.int .i64))], junk := [], tails := [] }, { id := 5700, known := false, toks := [], items := [], junk := [], tails := [] }, { id := 5057002, known := false, toks := [], items := [.slot 4 (.val (.int .i64)), .slot 5 (.val (.int .i64))], junk := [9, 10, 8, 11, 12], tails := [] }, { id := 5057003, known := true, toks := [], items := [.slot 19 (.val .bool)], junk := [13, 14, 15, 16, 17, 18], tails := [] }, { id := 5057004, known := false, toks := [], items := [], junk := [20, 2], tails := [] }, { id := 5057005, known := false, toks := [], items := [.slot 2 (.val (.int .i64))], junk := [20], tails := [] }, { id := 5057006, known := false, toks := [], items := [.slot 3 (.val (.int .i64))], junk := [6, 7], tails := [] }], [])
def sp4_51 : List LSpec × List Nat := ([{ id := 5051000, known := false, toks := [], items := [], junk := [4, 5, 6, 7, 8, 9], tails := [] }, { id := 5100, known := false, toks := [], items := [], junk := [], tails := [] }, { id := 5051001, known := true, toks := [], items := [.slot 18 (.val .bool)], junk := [10, 11, 12, 13, 14, 15, 16, 17], tails := [] }, { id := 5051002, known := false, toks := [], items := [], junk := [], tails := [] }, { id := 5051003, known := false, toks := [], items := [], junk := [19, 20, 21, 22, 23, 24, 25, 26, 27, 28, 29, 30, 31, 32], tails := [] }], [])
def sp4_41 : List LSpec × List Nat := ([{ id := 5041000, known := false, toks := [], items := [], junk := [4], tails := [] }, { id := 5041001, known := false, toks := [], items := [.slot 5 (.val (.int .i64)), .slot 6 (.val (.int .i64))], junk := [7, 8], tails := [] }, { id := 5041002, known := false, toks := [], items := [.slot 10 (.val (.int .u8))], junk := [9], tails := [] }, { id := 5041003, known := false, toks := [], items := [.slot 11 (.val .bool)], junk := [12], tails := [] }, { id := 5041004, known := false, toks := [], items := [.slot 6 (.val (.int .i64)), .slot 5 (.val (.int .i64))], junk := [14, 13, 16, 15, 17, 18, 4], tails := [] }, { id := 5041005, known := false, toks := [], items := [.slot 6 (.val (.int .i64))], junk := [], tails := [] }, { id := 5041006, known := false, toks := [], items := [.slot 13 (.val .bool)], junk := [14], tails := [] }, { id := 5041007, known := false, toks := [], items := [.slot 5 (.val (.int .i64))], junk := [16, 15, 17, 18, 4], tails := [] }, { id := 5041008, known := false, toks := [], items := [.slot 15 (.val .bool)], junk := [16], tails := [] }, { id := 5041009, known := false, toks := [], items := [.slot 5 (.val (.int .i64))], junk := [17, 18, 4], tails := [] }, { id := 5041010, known := false, toks := [], items := [.slot 5 (.val (.int .i64))], junk := [17, 18], tails := [] }, { id := 5041011, known := false, toks := [], items := [.slot 4 (.val .bool)], junk := [], tails := [] }, { id := 5041012, known := true, toks := [], items := [.slot 4 (.val .bool)], junk := [19, 20, 21, 22, 23, 24, 25, 26, 27, 28, 29, 30, 31, 32, 33, 34], tails := [] }], [])
def sp4_44 : List LSpec × List Nat := ([{ id := 5044000, known := false, toks := [], items := [], junk := [6], tails := [] }, { id := 5044001, known := false, toks := [], items := [.slot 7 (.val (.int .i64))], junk := [10, 11], tails := [] }, { id := 5044002, known := false, toks := [], items := [.slot 13 (.val .bool)], junk := [12], tails := [] }, { id := 5044003, known := false, toks := [], items := [], junk := [14, 6], tails := [] }, { id := 5044004, known := false, toks := [], items := [.slot 6 (.val (.int .i64))], junk := [14], tails := [] }, { id := 5044005, known := true, toks := [], items := [.slot 22 (.val .bool)], junk := [15, 16, 17, 18, 19, 20, 21], tails := [] }, { id := 5044006, known := false, toks := [], items := [], junk := [6], tails := [] }, { id := 5044007, known := false, toks := [], items := [.slot 6 (.val (.int .i64))], junk := [], tails := [] }, { id := 5044008, known := false, toks := [], items := [], junk := [23], tails := [] }, { id := 5044009, known := false, toks := [], items := [], junk := [24], tails := [] }, { id := 5044010, known := false, toks := [], items := [], junk := [], tails := [] }, { id := 5044011, known := false, toks := [], items := [], junk := [27, 28, 29, 30], tails := [] }, { id := 5044012, known := false, toks := [], items := [.slot 33 (.val .bool)], junk := [31, 32], tails := [] }, { id := 5044013, known := true, toks := [], items := [], junk := [34, 35, 36, 37, 38, 39, 40, 41, 42, 43, 44, 45, 46, 47, 48], tails := [] }, { id := 5044014, known := false, toks := [], items := [], junk := [34, 35, 36, 37], tails := [] }, { id := 5044015, known := false, toks := [], items := [], junk := [38, 39, 40, 41, 42, 43, 44], tails := [] }, { id := 5044016, known := false, toks := [], items := [], junk := [45, 46, 47, 48], tails := [] }, { id := 5044017, known := false, toks := [], items := [.slot 6 (.val (.int .i64))], junk := [49, 50], tails := [] }], [])
def sp4_43 : List LSpec × List Nat := ([{ id := 5043000, known := false, toks := [], items := [], junk := [], tails := [] }, { id := 5043001, known := false, toks := [], items := [], junk := [13, 14, 15, 16, 17, 18], tails := [] }, { id := 5043002, known := false, toks := [], items := [.slot 21 (.val .bool)], junk := [19, 20], tails := [] }, { id := 5043003, known := false, toks := [], items := [], junk := [], tails := [] }, { id := 5043004, known := false, toks := [], items := [], junk := [23, 24, 25, 26, 22, 27, 28, 29, 9, 10], tails := [] }, { id := 5043005, known := false, toks := [], items := [.slot 11 (.val (.int .i64)), .slot 12 (.val .bool)], junk := [31, 32, 33, 34, 35, 36, 30, 37, 38], tails := [] }, { id := 5043006, known := false, toks := [], items := [.slot 39 (.val .bool)], junk := [], tails := [] }, { id := 5043007, known := true, toks := [], items := [], junk := [40, 41, 42, 43, 44], tails := [] }, { id := 5043008, known := false, toks := [], items := [], junk := [40, 41, 42, 43, 44], tails := [] }, { id := 5043009, known := false, toks := [], items := [], junk := [45, 46, 47, 48, 49, 50], tails := [] }], [])
def sp4_58 : List LSpec × List Nat := ([{ id := 5058000, known := false, toks := [], items := [], junk := [6], tails := [] }, { id := 5058001, known := true, toks := [], items := [.slot 6 (.val .bool)], junk := [7, 8, 9, 10, 11, 12, 13, 14], tails := [] }], [])
def sp4_54 : List LSpec × List Nat := ([{ id := 5054000, known := false, toks := [], items := [], junk := [2], tails := [] }, { id := 5054001, known := true, toks := [], items := [.slot 2 (.val .bool)], junk := [3, 4, 5, 6, 7, 8, 9, 10, 11, 12, 13, 14, 15, 16, 17, 18, 19, 20, 21, 22, 23, 24, 25, 26, 27, 28, 29, 30, 31, 32, 33, 34, 35, 36, 37, 38, 39, 40, 41, 42, 43, 44, 45], tails := [] }], [])
def sp4_45 : List LSpec × List Nat := ([{ id := 5045000, known := false, toks := [], items := [], junk := [2], tails := [] }, { id := 5045001, known := true, toks := [], items := [.slot 2 (.val .bool)], junk := [3, 4, 5, 6, 7, 8, 9, 10], tails := [] }], [])
def sp4_46 : List LSpec × List Nat := ([{ id := 5046000, known := false, toks := [], items := [], junk := [4], tails := [] }, { id := 5046001, known := false, toks := [], items := [.slot 6 (.val (.int .u8))], junk := [5], tails := [] }, { id := 5046002, known := false, toks := [], items := [.slot 7 (.val .bool)], junk := [8], tails := [] }, { id := 5046003, known := false, toks := [], items := [], junk := [9, 10, 11, 12, 13, 14, 15, 16, 17, 4, 19, 18, 20, 21, 22, 23, 24, 25, 26, 27, 28, 29, 30, 31, 32, 33, 34, 35, 37, 36, 38, 39, 40, 41, 42, 43, 44, 45, 46, 47, 48, 49, 50, 51, 52, 53, 54, 55], tails := [] }, { id := 5046004, known := true, toks := [], items := [.slot 4 (.val .bool)], junk := [9, 10, 11, 12, 13, 14, 15, 16, 17], tails := [] }, { id := 5046005, known := false, toks := [], items := [.slot 18 (.val .bool)], junk := [19], tails := [] }, { id := 5046006, known := false, toks := [], items := [], junk := [20, 21, 22, 23, 24, 25, 26, 27, 28, 29, 30, 31, 32, 33, 34, 35, 4, 37, 36, 38, 39, 40, 41, 42, 43, 44, 45, 46, 47, 48, 49, 50, 51, 52, 53, 54, 55], tails := [] }, { id := 5046007, known := true, toks := [], items := [.slot 4 (.val .bool)], junk := [20, 21, 22, 23, 24, 25, 26, 27, 28, 29, 30, 31, 32, 33, 34, 35], tails := [] }, { id := 5046008, known := false, toks := [], items := [.slot 36 (.val .bool)], junk := [37], tails := [] }, { id := 5046009, known := false, toks := [], items := [], junk := [38, 39, 40, 41, 42, 43, 44, 45, 46, 47, 48, 49, 50, 51, 52, 53, 54, 55, 4], tails := [] }, { id := 5046010, known := true, toks := [], items := [.slot 4 (.val .bool)], junk := [38, 39, 40, 41, 42, 43, 44, 45, 46, 47, 48, 49, 50, 51, 52, 53, 54, 55], tails := [] }, { id := 5046011, known := false, toks := [], items := [.slot 4 (.val .bool)], junk := [], tails := [] }], [])
def sp4_36 : List LSpec × List Nat := ([{ id := 5036000, known := false, toks := [], items := [], junk := [8], tails := [] }, { id := 5036001, known := false, toks := [], items := [.slot 9 (.val (.int .i64))], junk := [11, 12, 13, 14, 15, 16, 17], tails := [] }, { id := 5036002, known := false, toks := [], items := [.slot 10 (.val (.int .i64))], junk := [18, 19], tails := [] }, { id := 3600, known := false, toks := [], items := [], junk := [], tails := [] }, { id := 5036003, known := true, toks := [], items := [.slot 25 (.val .bool)], junk := [20, 21, 22, 23, 24], tails := [] }, { id := 5036004, known := false, toks := [], items := [], junk := [], tails := [] }, { id := 5036005, known := false, toks := [], items := [.slot 36 (.val .bool)], junk := [28, 29, 30, 31, 32, 33, 34, 35], tails := [] }, { id := 5036006, known := false, toks := [], items := [], junk := [37, 38, 8], tails := [] }, { id := 5036007, known := false, toks := [], items := [.slot 8 (.val (.int .i64))], junk := [37, 38], tails := [] }, { id := 5036008, known := false, toks := [], items := [.slot 10 (.val (.int .i64))], junk := [26, 27], tails := [] }, { id := 5036009, known := false, toks := [], items := [.slot 8 (.val (.int .i64))], junk := [39, 40, 41], tails := [] }], [])
def sp4_29 : List LSpec × List Nat := ([{ id := 5029000, known := false, toks := [], items := [.slot 7 (.val .bool)], junk := [6], tails := [] }, { id := 5029001, known := true, toks := [], items := [], junk := [8, 9, 10, 11, 12, 13, 14, 15], tails := [] }, { id := 5029002, known := false, toks := [], items := [], junk := [8, 9, 10, 11, 12, 13], tails := [] }, { id := 5029003, known := false, toks := [], items := [], junk := [14, 15], tails := [] }], [])
def sp4_4 : List LSpec × List Nat := ([{ id := 5004000, known := false, toks := [], items := [], junk := [4], tails := [] }, { id := 5004001, known := true, toks := [], items := [.slot 23 (.val .bool)], junk := [13, 14, 15, 16, 17, 18, 19, 20, 21, 22], tails := [] }, { id := 5004002, known := false, toks := [], items := [], junk := [4], tails := [] }, { id := 5004003, known := false, toks := [], items := [.slot 4 (.val .bool)], junk := [], tails := [] }, { id := 5004004, known := false, toks := [], items := [.slot 6 (.val (.int .i64))], junk := [25, 26, 27, 24, 28, 29], tails := [] }, { id := 5004005, known := false, toks := [], items := [.slot 8 (.val (.int .i64))], junk := [31, 32, 33, 30, 34, 35], tails := [] }, { id := 5004006, known := false, toks := [], items := [.slot 10 (.val (.int .i64))], junk := [37, 38, 39, 36, 40, 41], tails := [] }, { id := 5004007, known := false, toks := [], items := [.slot 12 (.val (.int .i64))], junk := [43, 44, 45, 42, 46, 47], tails := [] }, { id := 5004008, known := true, toks := [], items := [.slot 4 (.val .bool)], junk := [48, 49, 50, 51, 52, 53, 54, 55, 56, 57, 58, 59, 60, 61, 62, 63, 64, 65], tails := [] }], [])
def sp4_30 : List LSpec × List Nat := ([{ id := 5030000, known := false, toks := [], items := [], junk := [4], tails := [] }, { id := 5030001, known := false, toks := [], items := [.slot 10 (.val .bool)], junk := [8, 9], tails := [] }, { id := 5030002, known := false, toks := [], items := [], junk := [4], tails := [] }, { id := 5030003, known := false, toks := [], items := [.slot 4 (.val (.int .i64))], junk := [], tails := [] }, { id := 5030004, known := false, toks := [], items := [], junk := [11, 12, 13], tails := [] }, { id := 5030005, known := false, toks := [], items := [.slot 15 (.val (.int .i64)), .slot 16 (.val (.int .i64))], junk := [], tails := [] }, { id := 3000, known := false, toks := [], items := [], junk := [], tails := [] }, { id := 5030006, known := false, toks := [], items := [], junk := [], tails := [] }, { id := 5030007, known := false, toks := [], items := [], junk := [], tails := [] }, { id := 5030008, known := false, toks := [], items := [.slot 7 (.val (.int .i64))], junk := [18, 19], tails := [] }, { id := 5030009, known := true, toks := [], items := [.slot 33 (.val .bool)], junk := [20, 21, 22, 23, 24, 25, 26, 27, 28, 29, 30, 31, 32], tails := [] }, { id := 5030010, known := false, toks := [], items := [], junk := [4], tails := [] }, { id := 5030011, known := false, toks := [], items := [.slot 4 (.val (.int .i64))], junk := [], tails := [] }, { id := 5030012, known := false, toks := [], items := [], junk := [34, 35, 36], tails := [] }, { id := 5030013, known := false, toks := [], items := [.slot 16 (.val (.int .i64))], junk := [37], tails := [] }, { id := 5030014, known := false, toks := [], items := [.slot 42 (.val .bool)], junk := [38, 39, 40, 41], tails := [] }, { id := 5030015, known := false, toks := [], items := [], junk := [4], tails := [] }, { id := 5030016, known := false, toks := [], items := [.slot 4 (.val (.int .i64))], junk := [], tails := [] }, { id := 5030017, known := false, toks := [], items := [.slot 4 (.val (.int .i64))], junk := [], tails := [] }], [])
def sp4_13 : List LSpec × List Nat := ([{ id := 5013000, known := false, toks := [], items := [], junk := [0], tails := [] }, { id := 5013001, known := false, toks := [], items := [.slot 2 (.val (.int .i64))], junk := [8, 9, 10, 7, 11, 12], tails := [] }, { id := 5013002, known := false, toks := [], items := [.slot 4 (.val (.int .i64))], junk := [14, 15, 16, 13, 17, 18], tails := [] }, { id := 5013003, known := true, toks := [], items := [.slot 34 (.val .bool)], junk := [19, 20, 21, 22, 23, 24, 25, 26, 27, 28, 29, 30, 31, 32, 33], tails := [] }, { id := 5013004, known := false, toks := [], items := [], junk := [0], tails := [] }, { id := 5013005, known := false, toks := [], items := [.slot 0 (.val .bool)], junk := [], tails := [] }, { id := 5013006, known := false, toks := [], items := [.slot 6 (.val (.int .i64))], junk := [36, 37, 38, 39, 40, 35, 41, 42], tails := [] }, { id := 5013007, known := true, toks := [], items := [.slot 0 (.val .bool)], junk := [43, 44, 45, 46, 47, 48, 49, 50, 51, 52, 53, 54, 55, 56, 57, 58, 59, 60, 61, 62, 63], tails := [] }], [])
def sp4_6 : List LSpec × List Nat := ([{ id := 5006000, known := false, toks := [], items := [], junk := [4], tails := [] }, { id := 5006001, known := false, toks := [], items := [.slot 5 (.val .bool)], junk := [17], tails := [] }, { id := 5006002, known := true, toks := [], items := [.slot 23 (.val .bool)], junk := [18, 19, 20, 21, 22], tails := [] }, { id := 5006003, known := false, toks := [], items := [], junk := [24, 4], tails := [] }, { id := 5006004, known := false, toks := [], items := [.slot 4 (.val .bool)], junk := [24], tails := [] }, { id := 5006005, known := false, toks := [], items := [.slot 7 (.val (.int .i64))], junk := [26, 27, 28, 25, 29, 30], tails := [] }, { id := 5006006, known := false, toks := [], items := [.slot 9 (.val (.int .i64))], junk := [32, 33, 34, 31, 35, 36], tails := [] }, { id := 5006007, known := false, toks := [], items := [.slot 11 (.val (.int .i64))], junk := [38, 39, 37, 40, 41], tails := [] }, { id := 5006008, known := true, toks := [], items := [.slot 47 (.val .bool)], junk := [42, 43, 44, 45, 46], tails := [] }, { id := 5006009, known := false, toks := [], items := [], junk := [48, 49, 50, 51, 52, 53, 54, 55, 56, 57, 58, 59, 60, 61, 62, 63, 4], tails := [] }, { id := 5006010, known := true, toks := [], items := [.slot 4 (.val .bool)], junk := [48, 49, 50, 51, 52, 53, 54, 55, 56, 57, 58, 59, 60, 61, 62, 63], tails := [] }, { id := 5006011, known := true, toks := [], items := [.slot 79 (.val .bool)], junk := [64, 65, 66, 67, 68, 69, 70, 71, 72, 73, 74, 75, 76, 77, 78], tails := [] }, { id := 5006012, known := false, toks := [], items := [], junk := [4], tails := [] }, { id := 5006013, known := false, toks := [], items := [.slot 4 (.val .bool)], junk := [], tails := [] }, { id := 5006014, known := false, toks := [], items := [.slot 12 (.val (.int .i64))], junk := [], tails := [] }, { id := 600, known := false, toks := [], items := [], junk := [], tails := [] }, { id := 5006015, known := false, toks := [], items := [.slot 83 (.val .bool)], junk := [80, 81, 82], tails := [] }, { id := 5006016, known := false, toks := [], items := [], junk := [], tails := [] }, { id := 5006017, known := true, toks := [], items := [.slot 104 (.val .bool)], junk := [86, 87, 88, 89, 90, 91, 92, 93, 94, 95, 96, 97, 98, 99, 100, 101, 102, 103], tails := [] }, { id := 5006018, known := false, toks := [], items := [], junk := [4], tails := [] }, { id := 5006019, known := false, toks := [], items := [.slot 4 (.val .bool)], junk := [], tails := [] }, { id := 5006020, known := false, toks := [], items := [], junk := [105], tails := [] }, { id := 5006021, known := false, toks := [], items := [.slot 14 (.val (.int .i64))], junk := [], tails := [] }, { id := 5006022, known := false, toks := [], items := [.slot 15 (.val (.int .i64))], junk := [], tails := [] }, { id := 601, known := false, toks := [], items := [], junk := [], tails := [] }, { id := 5006023, known := false, toks := [], items := [.slot 112 (.val .bool)], junk := [106, 107, 108, 109, 110, 111], tails := [] }, { id := 5006024, known := false, toks := [], items := [], junk := [], tails := [] }, { id := 5006025, known := false, toks := [], items := [.slot 16 (.val (.int .i64))], junk := [115, 116, 117, 118, 119, 120, 121], tails := [] }, { id := 5006026, known := true, toks := [], items := [.slot 164 (.val .bool)], junk := [122, 123, 124, 125, 126, 127, 128, 129, 130, 131, 132, 133, 134, 135, 136, 137, 138, 139, 140, 141, 142, 143, 144, 145, 146, 147, 148, 149, 150, 151, 152, 153, 154, 155, 156, 157, 158, 159, 160, 161, 162, 163], tails := [] }, { id := 5006027, known := false, toks := [], items := [], junk := [4], tails := [] }, { id := 5006028, known := false, toks := [], items := [.slot 4 (.val .bool)], junk := [], tails := [] }, { id := 5006029, known := false, toks := [], items := [], junk := [165, 166, 167, 168, 169, 170], tails := [] }, { id := 5006030, known := false, toks := [], items := [.slot 173 (.val .bool)], junk := [171, 172], tails := [] }, { id := 5006031, known := true, toks := [], items := [.slot 14 (.val (.int .i64))], junk := [174], tails := [] }, { id := 5006032, known := false, toks := [], items := [.slot 14 (.val (.int .i64))], junk := [174], tails := [] }, { id := 5006033, known := false, toks := [], items := [.slot 15 (.val (.int .i64))], junk := [113, 114], tails := [] }, { id := 5006034, known := false, toks := [], items := [.slot 12 (.val (.int .i64))], junk := [84, 85], tails := [] }, { id := 5006035, known := false, toks := [], items := [.slot 4 (.val .bool)], junk := [175], tails := [] }], [])
def sp4_7 : List LSpec × List Nat := ([{ id := 5007000, known := false, toks := [], items := [], junk := [6], tails := [] }, { id := 5007001, known := false, toks := [], items := [.slot 7 (.val .bool)], junk := [19], tails := [] }, { id := 5007002, known := true, toks := [], items := [.slot 30 (.val .bool)], junk := [20, 21, 22, 23, 24, 25, 26, 27, 28, 29], tails := [] }, { id := 5007003, known := false, toks := [], items := [], junk := [31, 6], tails := [] }, { id := 5007004, known := false, toks := [], items := [.slot 6 (.val .bool)], junk := [31], tails := [] }, { id := 5007005, known := false, toks := [], items := [.slot 9 (.val (.int .i64))], junk := [33, 34, 35, 32, 36, 37], tails := [] }, { id := 5007006, known := false, toks := [], items := [.slot 39 (.val .bool)], junk := [38], tails := [] }, { id := 5007007, known := false, toks := [], items := [], junk := [40, 6], tails := [] }, { id := 5007008, known := false, toks := [], items := [.slot 6 (.val .bool)], junk := [40], tails := [] }, { id := 5007009, known := false, toks := [], items := [.slot 10 (.val (.int .i64))], junk := [], tails := [] }, { id := 700, known := false, toks := [], items := [], junk := [], tails := [] }, { id := 5007010, known := false, toks := [], items := [.slot 44 (.val .bool)], junk := [41, 42, 43], tails := [] }, { id := 5007011, known := false, toks := [], items := [], junk := [], tails := [] }, { id := 5007012, known := false, toks := [], items := [.slot 12 (.val (.int .i64))], junk := [48, 49, 50, 51, 52, 53, 47, 54, 55], tails := [] }, { id := 5007013, known := false, toks := [], items := [.slot 14 (.val (.int .i64))], junk := [57, 58, 59, 60, 61, 62, 56, 63, 64], tails := [] }, { id := 5007014, known := false, toks := [], items := [.slot 16 (.val (.int .i64))], junk := [66, 67, 68, 69, 70, 71, 65, 72, 73], tails := [] }, { id := 5007015, known := false, toks := [], items := [.slot 18 (.val (.int .i64))], junk := [75, 76, 77, 78, 79, 80, 74, 81, 82], tails := [] }, { id := 5007016, known := false, toks := [], items := [.slot 88 (.val .bool)], junk := [83, 84, 85, 86, 87], tails := [] }, { id := 5007017, known := false, toks := [], items := [], junk := [89, 90, 91, 92, 93, 94, 6], tails := [] }, { id := 5007018, known := true, toks := [], items := [.slot 94 (.val .bool)], junk := [89, 90, 91, 92, 93], tails := [] }, { id := 5007019, known := false, toks := [], items := [], junk := [6], tails := [] }, { id := 5007020, known := false, toks := [], items := [.slot 6 (.val .bool)], junk := [], tails := [] }, { id := 5007021, known := true, toks := [], items := [.slot 120 (.val .bool)], junk := [95, 96, 97, 98, 99, 100, 101, 102, 103, 104, 105, 106, 107, 108, 109, 110, 111, 112, 113, 114, 115, 116, 117, 118, 119], tails := [] }, { id := 5007022, known := false, toks := [], items := [], junk := [6], tails := [] }, { id := 5007023, known := false, toks := [], items := [.slot 6 (.val .bool)], junk := [], tails := [] }, { id := 5007024, known := false, toks := [], items := [.slot 10 (.val (.int .i64))], junk := [45, 46], tails := [] }, { id := 5007025, known := false, toks := [], items := [.slot 6 (.val .bool)], junk := [121], tails := [] }], [])
def spt4 : Tab (List LSpec × List Nat) := (.node (.node (.node (.node .leaf (some sp4_7) .leaf) none (.node (.node .leaf none (.node .leaf (some sp4_51) .leaf)) none (.node (.node .leaf (some sp4_43) .leaf) none .leaf))) none (.node (.node .leaf none (.node (.node .leaf (some sp4_41) .leaf) none (.node .leaf (some sp4_57) .leaf))) none (.node .leaf (some sp4_13) (.node (.node .leaf (some sp4_45) .leaf) (some sp4_29) .leaf)))) none (.node (.node .leaf (some sp4_4) (.node (.node (.node .leaf (some sp4_36) .leaf) none .leaf) none (.node (.node .leaf (some sp4_44) .leaf) none (.node .leaf (some sp4_60) .leaf)))) none (.node (.node (.node .leaf none (.node .leaf (some sp4_50) .leaf)) none (.node .leaf none (.node .leaf (some sp4_58) .leaf))) (some sp4_6) (.node (.node .leaf none (.node .leaf (some sp4_54) .leaf)) (some sp4_14) (.node (.node .leaf (some sp4_46) .leaf) (some sp4_30) .leaf)))))
def spf4 (f : Nat) : List LSpec × List Nat := (spt4.get f).getD ([], [])
theorem pd_law21_OrderTells : PureD Try.prog cfg 4 p_law21_OrderTells := fnD spf4 (l := [(14, p_ref21_GreatUnits), (8, p_order_Cells), (15, p_ref21_Cells), (10, p_order_Perm), (16, p_ref21_Perm), (17, p_law21_sameAll)]) cfgOk cfgGlob (.cons pd_ref21_GreatUnits (.cons pd_order_Cells (.cons pd_ref21_Cells (.cons pd_order_Perm (.cons pd_ref21_Perm (.cons pd_law21_sameAll .nil)))))) (fun d => by kernel_rfl)

/-- thimblerig/thimbleriglaw21.one -/
noncomputable def law21_one (d0 : Unit) : Option ((Int) × ((Int) × ((Int) × ((Int) × ((Int) × ((Int) × ((Int) × ((Int) × ((Int) × (Unit)))))))))) :=
 some (2, (1, (2, (1, (2, (1, (1, (1, (2, ())))))))))
noncomputable def p_law21_one : PFn := { args := [], res := [(.pair (.int .i64) (.pair (.int .i64) (.pair (.int .i64) (.pair (.int .i64) (.pair (.int .i64) (.pair (.int .i64) (.pair (.int .i64) (.pair (.int .i64) (.pair (.int .i64) .unit)))))))))], fn := law21_one }
theorem pd_law21_one : PureD Try.prog cfg 9 p_law21_one := fnD sp0 (l := []) cfgOk cfgGlob .nil (fun d => by kernel_rfl)

/-- thimblerig/thimbleriglaw21.three -/
noncomputable def law21_three (d0 : Unit) : Option (List ((Int) × ((Int) × ((Int) × ((List (Int)) × (Unit)))))) :=
 none
noncomputable def p_law21_three : PFn := { args := [], res := [(.list (.pair (.int .u8) (.pair (.int .i64) (.pair (.int .i64) (.pair (.list (.int .u8)) .unit)))))], fn := law21_three }
theorem pd_law21_three : PureD Try.prog cfg 33 p_law21_three := fnD sp0 (l := []) cfgOk cfgGlob .nil (fun d => by kernel_rfl)

/-- thimblerig/order.ordered -/
noncomputable def order_ordered (d0 : (List (Int)) × (List (Int))) : Option (Int) :=
 (bif (Dat.igt (Dat.ofN (Dat.len d0.1)) 1024) then some 4
 else if (Dat.MkOk (Dat.ofN (Dat.len d0.1)) (Dat.ofN (Dat.len d0.1)) 1) then Dat.loop (fun (s3 : (Int) × (List (Bool))) k4 =>
 (bif (Dat.ilt s3.1 (Dat.ofN (Dat.len d0.1))) then if (Dat.Ix s3.1 (Dat.len d0.1)) then Dat.bnd (Dat.get d0.1 (Dat.toN s3.1) 0) fun (x7 : Int) =>
 (bif (Dat.ilt x7 0) then some 2
 else (bif (Dat.pickB false true (Dat.ige x7 (Dat.ofN (Dat.len d0.1)))) then some 2
 else if (Dat.In x7 (Dat.toN (Dat.ofN (Dat.len d0.1)))) then if (Dat.Lt (Dat.addN 0 (Dat.toN x7)) (Dat.len s3.2)) then Dat.bnd (Dat.get s3.2 (Dat.addN 0 (Dat.toN x7)) false) fun (x12 : Bool) =>
 (bif (Dat.pickB false true x12) then some 2
 else if (Dat.In x7 (Dat.toN (Dat.ofN (Dat.len d0.1)))) then if (Dat.Lt (Dat.addN 0 (Dat.toN x7)) (Dat.len s3.2)) then Dat.bnd (Dat.set s3.2 (Dat.addN 0 (Dat.toN x7)) true) fun (x17 : List (Bool)) =>
 Dat.bnd (Dat.wrap .i64 (Dat.add s3.1 1)) fun (x18 : Int) =>
 k4 (x18, x17)
 else none
 else none)
 else none
 else none))
 else none
 else (bif (Dat.ine (Dat.ofN (Dat.len d0.2)) (Dat.ofN (Dat.len d0.1))) then some 2
 else some 0))) (0, (Dat.rep (α := Bool) (Dat.toN (Dat.ofN (Dat.len d0.1))) false))
 else none)
noncomputable def p_order_ordered : PFn := { args := [(.list (.int .i64)), (.list (.int .u32))], res := [(.int .i64)], fn := order_ordered }
def sp30_30 : List LSpec × List Nat := ([{ id := 3000, known := true, toks := [], items := [.slot 16 (.val (.int .i64)), .vec 1000005 .bool], junk := [17, 18, 19, 7, 20, 21, 22, 23, 24, 25, 26, 27, 28, 29, 30, 31, 32, 33, 4, 34, 35, 36, 37], tails := [] }], [])
def spt30 : Tab (List LSpec × List Nat) := (.node .leaf none (.node .leaf none (.node .leaf none (.node .leaf none (.node .leaf (some sp30_30) .leaf)))))
def spf30 (f : Nat) : List LSpec × List Nat := (spt30.get f).getD ([], [])
theorem pd_order_ordered : PureD Try.prog cfg 30 p_order_ordered := fnD spf30 (l := []) cfgOk cfgGlob .nil (fun d => by kernel_rfl)

/-- thimblerig/order.Apply -/
noncomputable def order_Apply (d0 : (List (Int)) × (List (Int))) : Option ((List (Int)) × (Int)) :=
 Dat.bind (order_ordered (d0.1, d0.2)) fun (x1 : Int) =>
 (bif (Dat.ine x1 0) then some (([] : List (Int)), x1)
 else if (Dat.MkOk (Dat.ofN (Dat.len d0.2)) (Dat.ofN (Dat.len d0.2)) 4) then Dat.loop (fun (s4 : (Int) × (List (Int))) k5 =>
 (bif (Dat.ilt s4.1 (Dat.ofN (Dat.len d0.1))) then if (Dat.Ix s4.1 (Dat.len d0.1)) then Dat.bnd (Dat.get d0.1 (Dat.toN s4.1) 0) fun (x8 : Int) =>
 if (Dat.Ix x8 (Dat.len d0.2)) then Dat.bnd (Dat.get d0.2 (Dat.toN x8) 0) fun (x11 : Int) =>
 if (Dat.In s4.1 (Dat.toN (Dat.ofN (Dat.len d0.2)))) then if (Dat.Lt (Dat.addN 0 (Dat.toN s4.1)) (Dat.len s4.2)) then Dat.bnd (Dat.set s4.2 (Dat.addN 0 (Dat.toN s4.1)) x11) fun (x16 : List (Int)) =>
 Dat.bnd (Dat.wrap .i64 (Dat.add s4.1 1)) fun (x17 : Int) =>
 k5 (x17, x16)
 else none
 else none
 else none
 else none
 else if (Dat.Le (Dat.addN 0 (Dat.toN (Dat.ofN (Dat.len d0.2)))) (Dat.len s4.2)) then some ((Dat.seg s4.2 0 (Dat.toN (Dat.ofN (Dat.len d0.2)))), 0)
 else none)) (0, (Dat.rep (α := Int) (Dat.toN (Dat.ofN (Dat.len d0.2))) 0))
 else none)
noncomputable def p_order_Apply : PFn := { args := [(.list (.int .i64)), (.list (.int .u32))], res := [(.list (.int .u32)), (.int .i64)], fn := order_Apply }
def sp11_26 : List LSpec × List Nat := ([{ id := 2600, known := true, toks := [], items := [.slot 8 (.val (.int .i64)), .vec 2002000 (.int .u32)], junk := [9, 10, 11, 12, 4, 5, 13, 14, 15, 16, 17], tails := [] }], [])
def spt11 : Tab (List LSpec × List Nat) := (.node .leaf none (.node .leaf none (.node (.node .leaf none (.node .leaf (some sp11_26) .leaf)) none .leaf)))
def spf11 (f : Nat) : List LSpec × List Nat := (spt11.get f).getD ([], [])
theorem pd_order_Apply : PureD Try.prog cfg 11 p_order_Apply := fnD spf11 (l := [(30, p_order_ordered)]) cfgOk cfgGlob (.cons pd_order_ordered .nil) (fun d => by kernel_rfl)

/-- thimblerig/thimblerigref21.SameCells -/
noncomputable def ref21_SameCells (d0 : (List (Int)) × (List (Int))) : Option (Bool) :=
 (bif (Dat.ine (Dat.ofN (Dat.len d0.1)) (Dat.ofN (Dat.len d0.2))) then some false
 else Dat.loop (fun (s1 : Int) k2 =>
 (bif (Dat.ilt s1 (Dat.ofN (Dat.len d0.1))) then if (Dat.Ix s1 (Dat.len d0.1)) then Dat.bnd (Dat.get d0.1 (Dat.toN s1) 0) fun (x5 : Int) =>
 if (Dat.Ix s1 (Dat.len d0.2)) then Dat.bnd (Dat.get d0.2 (Dat.toN s1) 0) fun (x8 : Int) =>
 (bif (Dat.ine x5 x8) then some false
 else Dat.bnd (Dat.wrap .i64 (Dat.add s1 1)) fun (x9 : Int) =>
 k2 x9)
 else none
 else none
 else some true)) 0)
noncomputable def p_ref21_SameCells : PFn := { args := [(.list (.int .u32)), (.list (.int .u32))], res := [.bool], fn := ref21_SameCells }
def sp20_20 : List LSpec × List Nat := ([{ id := 2000, known := true, toks := [], items := [.slot 5 (.val (.int .i64))], junk := [11, 12, 13, 14, 17, 18, 19, 20, 21, 22, 23, 24, 25, 4, 15, 16], tails := [] }], [])
def spt20 : Tab (List LSpec × List Nat) := (.node .leaf none (.node (.node .leaf none (.node (.node .leaf (some sp20_20) .leaf) none .leaf)) none .leaf))
def spf20 (f : Nat) : List LSpec × List Nat := (spt20.get f).getD ([], [])
theorem pd_ref21_SameCells : PureD Try.prog cfg 20 p_ref21_SameCells := fnD spf20 (l := []) cfgOk cfgGlob .nil (fun d => by kernel_rfl)

/-- thimblerig/thimbleriglaw21.alive -/
noncomputable def law21_alive (d0 : Unit) : Option (Bool) := some true
noncomputable def p_law21_alive : PFn := { args := [], res := [.bool], fn := law21_alive }
def m13_mem0 : Memo := (9, [], .agg [.int .i64 (2), .int .i64 (1), .int .i64 (2), .int .i64 (1), .int .i64 (2), .int .i64 (1), .int .i64 (1), .int .i64 (1), .int .i64 (2)])
theorem m13_memo0 : MemoFact Try.prog cfg m13_mem0 := memo_fact cfgOk (n := 4000) (ts := [27]) .nil (by kernel_rfl)
def m13_mem1 : Memo := (33, [], .slice 4 [.agg [.int .u8 (1), .int .i64 (1), .int .i64 (0), .slice 1 [] none false], .agg [.int .u8 (0), .int .i64 (0), .int .i64 (0), .slice 1 [] none false], .agg [.int .u8 (2), .int .i64 (1), .int .i64 (0), .slice 1 [.int .u8 (1)] none false]] none false)
theorem m13_memo1 : MemoFact Try.prog cfg m13_mem1 := memo_fact cfgOk (n := 4000) (ts := [29]) .nil (by kernel_rfl)
def m13_mem2 : Memo := (39, [.agg [.int .i64 (2), .int .i64 (1), .int .i64 (2), .int .i64 (1), .int .i64 (2), .int .i64 (1), .int .i64 (1), .int .i64 (1), .int .i64 (2)]], .int .i64 (0))
theorem m13_memo2 : MemoFact Try.prog cfg m13_mem2 := memo_fact cfgOk (n := 4000) (ts := [23]) .nil (by kernel_rfl)
def m13_mem3 : Memo := (22, [.agg [.int .i64 (2), .int .i64 (1), .int .i64 (2), .int .i64 (1), .int .i64 (2), .int .i64 (1), .int .i64 (1), .int .i64 (1), .int .i64 (2)]], .tuple [.slice 4 [.agg [.int .i64 (2), .int .i64 (1), .int .i64 (1), .int .i64 (73)]] none false, .int .i64 (0)])
theorem m13_memo3 : MemoFact Try.prog cfg m13_mem3 := memo_fact cfgOk (n := 4000) (ts := [49, 23]) (.cons m13_memo2 .nil) (by kernel_rfl)
def m13_mem4 : Memo := (44, [.agg [.int .i64 (2), .int .i64 (1), .int .i64 (2), .int .i64 (1), .int .i64 (2), .int .i64 (1), .int .i64 (1), .int .i64 (1), .int .i64 (2)], .int .i64 (1)], .tuple [.slice 1 [.int .i64 (1)] none false, .slice 1 [.int .i64 (1)] none false, .int .i64 (0)])
theorem m13_memo4 : MemoFact Try.prog cfg m13_mem4 := memo_fact cfgOk (n := 4000) (ts := [36, 36, 23]) (.cons m13_memo2 .nil) (by kernel_rfl)
def m13_memT : Memo := (13, [], .bool true)
theorem m13_memoT : MemoFact Try.prog cfg m13_memT := memo_fact cfgOk (n := 4000) (ts := [4]) (.cons m13_memo0 (.cons m13_memo1 (.cons m13_memo3 (.cons m13_memo4 .nil)))) (by kernel_rfl)
theorem pd_law21_alive : PureD Try.prog cfg 13 p_law21_alive := by
  intro d r hr
  have h : some true = some r := hr
  obtain rfl := Option.some.inj h
  exact m13_memoT.1

/-- thimblerig/thimbleriglaw21.OrderOnce -/
noncomputable def law21_OrderOnce (d0 : ((Int) × ((Int) × ((Int) × ((Int) × ((Int) × ((Int) × ((Int) × ((Int) × ((Int) × (Unit)))))))))) × (List ((Int) × ((Int) × ((Int) × ((List (Int)) × (Unit))))))) : Option (Bool) :=
 Dat.bind (law21_alive ()) fun (x1 : Bool) =>
 Dat.join (σ := Bool) (fun k2 =>
 Dat.bind (ref21_GreatUnits (d0.2, 40)) fun (x3 : Bool) =>
 (bif x3 then k2 true
 else k2 (Dat.pickB false true (Dat.bnot x1)))) fun (j4 : Bool) =>
 (bif j4 then some x1
 else Dat.bind (order_Cells ((d0.1.1, (d0.1.2.1, (d0.1.2.2.1, (d0.1.2.2.2.1, (d0.1.2.2.2.2.1, (d0.1.2.2.2.2.2.1, (d0.1.2.2.2.2.2.2.1, (d0.1.2.2.2.2.2.2.2.1, (d0.1.2.2.2.2.2.2.2.2.1, ()))))))))), d0.2)) fun (x5 : (List (List (Int))) × (Int)) =>
 Dat.bind (order_Perm ((d0.1.1, (d0.1.2.1, (d0.1.2.2.1, (d0.1.2.2.2.1, (d0.1.2.2.2.2.1, (d0.1.2.2.2.2.2.1, (d0.1.2.2.2.2.2.2.1, (d0.1.2.2.2.2.2.2.2.1, (d0.1.2.2.2.2.2.2.2.2.1, ()))))))))), d0.2)) fun (x6 : (List (List (Int))) × (Int)) =>
 Dat.bind (conf_Levels (d0.1.1, (d0.1.2.1, (d0.1.2.2.1, (d0.1.2.2.2.1, (d0.1.2.2.2.2.1, (d0.1.2.2.2.2.2.1, (d0.1.2.2.2.2.2.2.1, (d0.1.2.2.2.2.2.2.2.1, (d0.1.2.2.2.2.2.2.2.2.1, ())))))))))) fun (x7 : (List ((Int) × ((Int) × ((Int) × ((Int) × (Unit)))))) × (Int)) =>
 Dat.join (σ := Bool) (fun k8 =>
 (bif (Dat.ine x5.2 0) then k8 true
 else k8 (Dat.pickB false true (Dat.ine x6.2 0)))) fun (j9 : Bool) =>
 (bif j9 then Dat.join (σ := Bool) (fun k10 =>
 (bif x1 then (bif (Dat.pickB true (Dat.ieq x5.2 x6.2) false) then (bif (Dat.pickB true (Dat.ieq (Dat.ofN (Dat.len x5.1)) 0) false) then k10 (Dat.pickB true (Dat.ieq (Dat.ofN (Dat.len x6.1)) 0) false)
 else k10 false)
 else k10 false)
 else k10 false)) fun (j11 : Bool) =>
 some j11
 else Dat.join (σ := Bool) (fun k12 =>
 (bif (Dat.ine x7.2 0) then k12 true
 else (bif (Dat.pickB false true (Dat.ine (Dat.ofN (Dat.len x5.1)) (Dat.ofN (Dat.len x7.1)))) then k12 true
 else k12 (Dat.pickB false true (Dat.ine (Dat.ofN (Dat.len x6.1)) (Dat.ofN (Dat.len x7.1))))))) fun (j13 : Bool) =>
 (bif j13 then some false
 else Dat.loop (fun (s14 : Int) k15 =>
 (bif (Dat.ilt s14 (Dat.ofN (Dat.len x6.1))) then Dat.join (σ := Bool) (fun k16 =>
 if (Dat.Ix s14 (Dat.len x5.1)) then Dat.bnd (Dat.get x5.1 (Dat.toN s14) ([] : List (Int))) fun (x19 : List (Int)) =>
 (bif (Dat.ine (Dat.ofN (Dat.len x19)) (Dat.ofN (Dat.len d0.2))) then k16 true
 else if (Dat.Ix s14 (Dat.len x6.1)) then Dat.bnd (Dat.get x6.1 (Dat.toN s14) ([] : List (Int))) fun (x22 : List (Int)) =>
 Dat.bnd (Dat.wrap .i64 (Dat.mul 2 (Dat.ofN (Dat.len d0.2)))) fun (x23 : Int) =>
 k16 (Dat.pickB false true (Dat.ine (Dat.ofN (Dat.len x22)) x23))
 else none)
 else none) fun (j24 : Bool) =>
 (bif j24 then some false
 else if (Dat.MkOk 80 80 8) then Dat.loop (fun (s27 : (Int) × ((Int) × (List (Int)))) k28 =>
 if (Dat.Ix s14 (Dat.len x6.1)) then Dat.bnd (Dat.get x6.1 (Dat.toN s14) ([] : List (Int))) fun (x31 : List (Int)) =>
 (bif (Dat.ilt s27.2.1 (Dat.ofN (Dat.len x31))) then if (Dat.Ix s14 (Dat.len x6.1)) then Dat.bnd (Dat.get x6.1 (Dat.toN s14) ([] : List (Int))) fun (x34 : List (Int)) =>
 if (Dat.Ix s27.2.1 (Dat.len x34)) then Dat.bnd (Dat.get x34 (Dat.toN s27.2.1) 0) fun (x37 : Int) =>
 Dat.join (σ := Bool) (fun k38 =>
 (bif (Dat.ilt x37 0) then k38 true
 else Dat.bnd (Dat.wrap .i64 (Dat.mul 2 (Dat.ofN (Dat.len d0.2)))) fun (x39 : Int) =>
 (bif (Dat.pickB false true (Dat.ige x37 x39)) then k38 true
 else if (Dat.In x37 (Dat.toN 80)) then if (Dat.Lt (Dat.addN 0 (Dat.toN x37)) (Dat.len s27.2.2)) then Dat.bnd (Dat.get s27.2.2 (Dat.addN 0 (Dat.toN x37)) 0) fun (x44 : Int) =>
 (bif (Dat.pickB false true (Dat.igt x44 0)) then k38 true
 else if (Dat.IsZ 2) then none
 else Dat.bnd (Dat.tmod s27.2.1 2) fun (x47 : Int) =>
 (bif (Dat.ieq x47 0) then if (Dat.Ix s14 (Dat.len x5.1)) then Dat.bnd (Dat.get x5.1 (Dat.toN s14) ([] : List (Int))) fun (x50 : List (Int)) =>
 if (Dat.IsZ 2) then none
 else Dat.bnd (Dat.wrap .i64 (Dat.tdiv s27.2.1 2)) fun (x53 : Int) =>
 if (Dat.Ix x53 (Dat.len x50)) then Dat.bnd (Dat.get x50 (Dat.toN x53) 0) fun (x56 : Int) =>
 (bif (Dat.pickB false true (Dat.pickB true (Dat.ine x37 x56) false)) then k38 true
 else if (Dat.IsZ 2) then none
 else Dat.bnd (Dat.tmod s27.2.1 2) fun (x59 : Int) =>
 (bif (Dat.ieq x59 1) then k38 (Dat.pickB false true (Dat.pickB true (Dat.ile x37 s27.1) false))
 else k38 (Dat.pickB false true false)))
 else none
 else none
 else if (Dat.IsZ 2) then none
 else Dat.bnd (Dat.tmod s27.2.1 2) fun (x62 : Int) =>
 (bif (Dat.ieq x62 1) then k38 (Dat.pickB false true (Dat.pickB true (Dat.ile x37 s27.1) false))
 else k38 (Dat.pickB false true false))))
 else none
 else none))) fun (j63 : Bool) =>
 (bif j63 then some false
 else if (Dat.In x37 (Dat.toN 80)) then if (Dat.Lt (Dat.addN 0 (Dat.toN x37)) (Dat.len s27.2.2)) then Dat.bnd (Dat.get s27.2.2 (Dat.addN 0 (Dat.toN x37)) 0) fun (x68 : Int) =>
 Dat.bnd (Dat.wrap .i64 (Dat.add x68 1)) fun (x69 : Int) =>
 if (Dat.In x37 (Dat.toN 80)) then if (Dat.Lt (Dat.addN 0 (Dat.toN x37)) (Dat.len s27.2.2)) then Dat.bnd (Dat.set s27.2.2 (Dat.addN 0 (Dat.toN x37)) x69) fun (x74 : List (Int)) =>
 if (Dat.IsZ 2) then none
 else Dat.bnd (Dat.tmod s27.2.1 2) fun (x77 : Int) =>
 Dat.join (σ := Int) (fun k78 =>
 (bif (Dat.ieq x77 1) then k78 x37
 else k78 s27.1)) fun (j79 : Int) =>
 Dat.bnd (Dat.wrap .i64 (Dat.add s27.2.1 1)) fun (x80 : Int) =>
 k28 (j79, (x80, x74))
 else none
 else none
 else none
 else none)
 else none
 else none
 else Dat.bnd (Dat.wrap .i64 (Dat.add s14 1)) fun (x81 : Int) =>
 k15 x81)
 else none) ((-1), (0, (Dat.rep (α := Int) (Dat.toN 80) 0)))
 else none)
 else some x1)) 0)))
noncomputable def p_law21_OrderOnce : PFn := { args := [(.pair (.int .i64) (.pair (.int .i64) (.pair (.int .i64) (.pair (.int .i64) (.pair (.int .i64) (.pair (.int .i64) (.pair (.int .i64) (.pair (.int .i64) (.pair (.int .i64) .unit))))))))), (.list (.pair (.int .u8) (.pair (.int .i64) (.pair (.int .i64) (.pair (.list (.int .u8)) .unit)))))], res := [.bool], fn := law21_OrderOnce }
def sp6_14 : List LSpec × List Nat := ([{ id := 5014000, known := false, toks := [], items := [], junk := [4], tails := [] }, { id := 5014001, known := false, toks := [], items := [.slot 5 (.val (.int .i64))], junk := [], tails := [] }, { id := 1400, known := false, toks := [], items := [], junk := [], tails := [] }, { id := 5014002, known := true, toks := [], items := [.slot 14 (.val .bool)], junk := [6, 7, 8, 9, 10, 11, 12, 13], tails := [] }, { id := 5014003, known := false, toks := [], items := [], junk := [], tails := [] }, { id := 5014004, known := false, toks := [], items := [.slot 23 (.val .bool)], junk := [17, 18, 19, 20, 21, 22], tails := [] }, { id := 5014005, known := false, toks := [], items := [], junk := [4], tails := [] }, { id := 5014006, known := false, toks := [], items := [.slot 4 (.val .bool)], junk := [], tails := [] }, { id := 5014007, known := false, toks := [], items := [.slot 5 (.val (.int .i64))], junk := [15, 16], tails := [] }, { id := 5014008, known := false, toks := [], items := [.slot 4 (.val .bool)], junk := [24, 25, 26, 27], tails := [] }], [])
def sp6_50 : List LSpec × List Nat := ([{ id := 5050000, known := false, toks := [], items := [], junk := [2], tails := [] }, { id := 5050001, known := true, toks := [], items := [.slot 2 (.val .bool)], junk := [3, 4, 5, 6, 7, 8, 9, 10, 11, 12, 13, 14], tails := [] }], [])
def sp6_60 : List LSpec × List Nat := ([{ id := 5060000, known := false, toks := [], items := [], junk := [2], tails := [] }, { id := 5060001, known := true, toks := [], items := [.slot 8 (.val .bool)], junk := [3, 4, 5, 6, 7], tails := [] }, { id := 5060002, known := false, toks := [], items := [], junk := [2], tails := [] }, { id := 5060003, known := false, toks := [], items := [.slot 2 (.val (.int .i64))], junk := [], tails := [] }, { id := 5060004, known := false, toks := [], items := [.slot 2 (.val (.int .i64))], junk := [], tails := [] }], [])
def sp6_57 : List LSpec × List Nat := ([{ id := 5057000, known := false, toks := [], items := [], junk := [2], tails := [] }, { id := 5057001, known := false, toks := [], items := [.slot 3 (.val (.int .i64))], junk := [], tails := [] }, { id := 5700, known := false, toks := [], items := [], junk := [], tails := [] }, { id := 5057002, known := false, toks := [], items := [.slot 4 (.val (.int .i64)), .slot 5 (.val (.int .i64))], junk := [9, 10, 8, 11, 12], tails := [] }, { id := 5057003, known := true, toks := [], items := [.slot 19 (.val .bool)], junk := [13, 14, 15, 16, 17, 18], tails := [] }, { id := 5057004, known := false, toks := [], items := [], junk := [20, 2], tails := [] }, { id := 5057005, known := false, toks := [], items := [.slot 2 (.val (.int .i64))], junk := [20], tails := [] }, { id := 5057006, known := false, toks := [], items := [.slot 3 (.val (.int .i64))], junk := [6, 7], tails := [] }], [])
def sp6_51 : List LSpec × List Nat := ([{ id := 5051000, known := false, toks := [], items := [], junk := [4, 5, 6, 7, 8, 9], tails := [] }, { id := 5100, known := false, toks := [], items := [], junk := [], tails := [] }, { id := 5051001, known := true, toks := [], items := [.slot 18 (.val .bool)], junk := [10, 11, 12, 13, 14, 15, 16, 17], tails := [] }, { id := 5051002, known := false, toks := [], items := [], junk := [], tails := [] }, { id := 5051003, known := false, toks := [], items := [], junk := [19, 20, 21, 22, 23, 24, 25, 26, 27, 28, 29, 30, 31, 32], tails := [] }], [])
def sp6_41 : List LSpec × List Nat := ([{ id := 5041000, known := false, toks := [], items := [], junk := [4], tails := [] }, { id := 5041001, known := false, toks := [], items := [.slot 5 (.val (.int .i64)), .slot 6 (.val (.int .i64))], junk := [7, 8], tails := [] }, { id := 5041002, known := false, toks := [], items := [.slot 10 (.val (.int .u8))], junk := [9], tails := [] }, { id := 5041003, known := false, toks := [], items := [.slot 11 (.val .bool)], junk := [12], tails := [] }, { id := 5041004, known := false, toks := [], items := [.slot 6 (.val (.int .i64)), .slot 5 (.val (.int .i64))], junk := [14, 13, 16, 15, 17, 18, 4], tails := [] }, { id := 5041005, known := false, toks := [], items := [.slot 6 (.val (.int .i64))], junk := [], tails := [] }, { id := 5041006, known := false, toks := [], items := [.slot 13 (.val .bool)], junk := [14], tails := [] }, { id := 5041007, known := false, toks := [], items := [.slot 5 (.val (.int .i64))], junk := [16, 15, 17, 18, 4], tails := [] }, { id := 5041008, known := false, toks := [], items := [.slot 15 (.val .bool)], junk := [16], tails := [] }, { id := 5041009, known := false, toks := [], items := [.slot 5 (.val (.int .i64))], junk := [17, 18, 4], tails := [] }, { id := 5041010, known := false, toks := [], items := [.slot 5 (.val (.int .i64))], junk := [17, 18], tails := [] }, { id := 5041011, known := false, toks := [], items := [.slot 4 (.val .bool)], junk := [], tails := [] }, { id := 5041012, known := true, toks := [], items := [.slot 4 (.val .bool)], junk := [19, 20, 21, 22, 23, 24, 25, 26, 27, 28, 29, 30, 31, 32, 33, 34], tails := [] }], [])
def sp6_44 : List LSpec × List Nat := ([{ id := 5044000, known := false, toks := [], items := [], junk := [6], tails := [] }, { id := 5044001, known := false, toks := [], items := [.slot 7 (.val (.int .i64))], junk := [10, 11], tails := [] }, { id := 5044002, known := false, toks := [], items := [.slot 13 (.val .bool)], junk := [12], tails := [] }, { id := 5044003, known := false, toks := [], items := [], junk := [14, 6], tails := [] }, { id := 5044004, known := false, toks := [], items := [.slot 6 (.val (.int .i64))], junk := [14], tails := [] }, { id := 5044005, known := true, toks := [], items := [.slot 22 (.val .bool)], junk := [15, 16, 17, 18, 19, 20, 21], tails := [] }, { id := 5044006, known := false, toks := [], items := [], junk := [6], tails := [] }, { id := 5044007, known := false, toks := [], items := [.slot 6 (.val (.int .i64))], junk := [], tails := [] }, { id := 5044008, known := false, toks := [], items := [], junk := [23], tails := [] }, { id := 5044009, known := false, toks := [], items := [], junk := [24], tails := [] }, { id := 5044010, known := false, toks := [], items := [], junk := [], tails := [] }, { id := 5044011, known := false, toks := [], items := [], junk := [27, 28, 29, 30], tails := [] }, { id := 5044012, known := false, toks := [], items := [.slot 33 (.val .bool)], junk := [31, 32], tails := [] }, { id := 5044013, known := true, toks := [], items := [], junk := [34, 35, 36, 37, 38, 39, 40, 41, 42, 43, 44, 45, 46, 47, 48], tails := [] }, { id := 5044014, known := false, toks := [], items := [], junk := [34, 35, 36, 37], tails := [] }, { id := 5044015, known := false, toks := [], items := [], junk := [38, 39, 40, 41, 42, 43, 44], tails := [] }, { id := 5044016, known := false, toks := [], items := [], junk := [45, 46, 47, 48], tails := [] }, { id := 5044017, known := false, toks := [], items := [.slot 6 (.val (.int .i64))], junk := [49, 50], tails := [] }], [])
def sp6_43 : List LSpec × List Nat := ([{ id := 5043000, known := false, toks := [], items := [], junk := [], tails := [] }, { id := 5043001, known := false, toks := [], items := [], junk := [13, 14, 15, 16, 17, 18], tails := [] }, { id := 5043002, known := false, toks := [], items := [.slot 21 (.val .bool)], junk := [19, 20], tails := [] }, { id := 5043003, known := false, toks := [], items := [], junk := [], tails := [] }, { id := 5043004, known := false, toks := [], items := [], junk := [23, 24, 25, 26, 22, 27, 28, 29, 9, 10], tails := [] }, { id := 5043005, known := false, toks := [], items := [.slot 11 (.val (.int .i64)), .slot 12 (.val .bool)], junk := [31, 32, 33, 34, 35, 36, 30, 37, 38], tails := [] }, { id := 5043006, known := false, toks := [], items := [.slot 39 (.val .bool)], junk := [], tails := [] }, { id := 5043007, known := true, toks := [], items := [], junk := [40, 41, 42, 43, 44], tails := [] }, { id := 5043008, known := false, toks := [], items := [], junk := [40, 41, 42, 43, 44], tails := [] }, { id := 5043009, known := false, toks := [], items := [], junk := [45, 46, 47, 48, 49, 50], tails := [] }], [])
def sp6_58 : List LSpec × List Nat := ([{ id := 5058000, known := false, toks := [], items := [], junk := [6], tails := [] }, { id := 5058001, known := true, toks := [], items := [.slot 6 (.val .bool)], junk := [7, 8, 9, 10, 11, 12, 13, 14], tails := [] }], [])
def sp6_54 : List LSpec × List Nat := ([{ id := 5054000, known := false, toks := [], items := [], junk := [2], tails := [] }, { id := 5054001, known := true, toks := [], items := [.slot 2 (.val .bool)], junk := [3, 4, 5, 6, 7, 8, 9, 10, 11, 12, 13, 14, 15, 16, 17, 18, 19, 20, 21, 22, 23, 24, 25, 26, 27, 28, 29, 30, 31, 32, 33, 34, 35, 36, 37, 38, 39, 40, 41, 42, 43, 44, 45], tails := [] }], [])
def sp6_45 : List LSpec × List Nat := ([{ id := 5045000, known := false, toks := [], items := [], junk := [2], tails := [] }, { id := 5045001, known := true, toks := [], items := [.slot 2 (.val .bool)], junk := [3, 4, 5, 6, 7, 8, 9, 10], tails := [] }], [])
def sp6_46 : List LSpec × List Nat := ([{ id := 5046000, known := false, toks := [], items := [], junk := [4], tails := [] }, { id := 5046001, known := false, toks := [], items := [.slot 6 (.val (.int .u8))], junk := [5], tails := [] }, { id := 5046002, known := false, toks := [], items := [.slot 7 (.val .bool)], junk := [8], tails := [] }, { id := 5046003, known := false, toks := [], items := [], junk := [9, 10, 11, 12, 13, 14, 15, 16, 17, 4, 19, 18, 20, 21, 22, 23, 24, 25, 26, 27, 28, 29, 30, 31, 32, 33, 34, 35, 37, 36, 38, 39, 40, 41, 42, 43, 44, 45, 46, 47, 48, 49, 50, 51, 52, 53, 54, 55], tails := [] }, { id := 5046004, known := true, toks := [], items := [.slot 4 (.val .bool)], junk := [9, 10, 11, 12, 13, 14, 15, 16, 17], tails := [] }, { id := 5046005, known := false, toks := [], items := [.slot 18 (.val .bool)], junk := [19], tails := [] }, { id := 5046006, known := false, toks := [], items := [], junk := [20, 21, 22, 23, 24, 25, 26, 27, 28, 29, 30, 31, 32, 33, 34, 35, 4, 37, 36, 38, 39, 40, 41, 42, 43, 44, 45, 46, 47, 48, 49, 50, 51, 52, 53, 54, 55], tails := [] }, { id := 5046007, known := true, toks := [], items := [.slot 4 (.val .bool)], junk := [20, 21, 22, 23, 24, 25, 26, 27, 28, 29, 30, 31, 32, 33, 34, 35], tails := [] }, { id := 5046008, known := false, toks := [], items := [.slot 36 (.val .bool)], junk := [37], tails := [] }, { id := 5046009, known := false, toks := [], items := [], junk := [38, 39, 40, 41, 42, 43, 44, 45, 46, 47, 48, 49, 50, 51, 52, 53, 54, 55, 4], tails := [] }, { id := 5046010, known := true, toks := [], items := [.slot 4 (.val .bool)], junk := [38, 39, 40, 41, 42, 43, 44, 45, 46, 47, 48, 49, 50, 51, 52, 53, 54, 55], tails := [] }, { id := 5046011, known := false, toks := [], items := [.slot 4 (.val .bool)], junk := [], tails := [] }], [])
def sp6_36 : List LSpec × List Nat := ([{ id := 5036000, known := false, toks := [], items := [], junk := [8], tails := [] }, { id := 5036001, known := false, toks := [], items := [.slot 9 (.val (.int .i64))], junk := [11, 12, 13, 14, 15, 16, 17], tails := [] }, { id := 5036002, known := false, toks := [], items := [.slot 10 (.val (.int .i64))], junk := [18, 19], tails := [] }, { id := 3600, known := false, toks := [], items := [], junk := [], tails := [] }, { id := 5036003, known := true, toks := [], items := [.slot 25 (.val .bool)], junk := [20, 21, 22, 23, 24], tails := [] }, { id := 5036004, known := false, toks := [], items := [], junk := [], tails := [] }, { id := 5036005, known := false, toks := [], items := [.slot 36 (.val .bool)], junk := [28, 29, 30, 31, 32, 33, 34, 35], tails := [] }, { id := 5036006, known := false, toks := [], items := [], junk := [37, 38, 8], tails := [] }, { id := 5036007, known := false, toks := [], items := [.slot 8 (.val (.int .i64))], junk := [37, 38], tails := [] }, { id := 5036008, known := false, toks := [], items := [.slot 10 (.val (.int .i64))], junk := [26, 27], tails := [] }, { id := 5036009, known := false, toks := [], items := [.slot 8 (.val (.int .i64))], junk := [39, 40, 41], tails := [] }], [])
def sp6_29 : List LSpec × List Nat := ([{ id := 5029000, known := false, toks := [], items := [.slot 7 (.val .bool)], junk := [6], tails := [] }, { id := 5029001, known := true, toks := [], items := [], junk := [8, 9, 10, 11, 12, 13, 14, 15], tails := [] }, { id := 5029002, known := false, toks := [], items := [], junk := [8, 9, 10, 11, 12, 13], tails := [] }, { id := 5029003, known := false, toks := [], items := [], junk := [14, 15], tails := [] }], [])
def sp6_4 : List LSpec × List Nat := ([{ id := 5004000, known := false, toks := [], items := [], junk := [4], tails := [] }, { id := 5004001, known := true, toks := [], items := [.slot 23 (.val .bool)], junk := [13, 14, 15, 16, 17, 18, 19, 20, 21, 22], tails := [] }, { id := 5004002, known := false, toks := [], items := [], junk := [4], tails := [] }, { id := 5004003, known := false, toks := [], items := [.slot 4 (.val .bool)], junk := [], tails := [] }, { id := 5004004, known := false, toks := [], items := [.slot 6 (.val (.int .i64))], junk := [25, 26, 27, 24, 28, 29], tails := [] }, { id := 5004005, known := false, toks := [], items := [.slot 8 (.val (.int .i64))], junk := [31, 32, 33, 30, 34, 35], tails := [] }, { id := 5004006, known := false, toks := [], items := [.slot 10 (.val (.int .i64))], junk := [37, 38, 39, 36, 40, 41], tails := [] }, { id := 5004007, known := false, toks := [], items := [.slot 12 (.val (.int .i64))], junk := [43, 44, 45, 42, 46, 47], tails := [] }, { id := 5004008, known := true, toks := [], items := [.slot 4 (.val .bool)], junk := [48, 49, 50, 51, 52, 53, 54, 55, 56, 57, 58, 59, 60, 61, 62, 63, 64, 65], tails := [] }], [])
def sp6_30 : List LSpec × List Nat := ([{ id := 5030000, known := false, toks := [], items := [], junk := [4], tails := [] }, { id := 5030001, known := false, toks := [], items := [.slot 10 (.val .bool)], junk := [8, 9], tails := [] }, { id := 5030002, known := false, toks := [], items := [], junk := [4], tails := [] }, { id := 5030003, known := false, toks := [], items := [.slot 4 (.val (.int .i64))], junk := [], tails := [] }, { id := 5030004, known := false, toks := [], items := [], junk := [11, 12, 13], tails := [] }, { id := 5030005, known := false, toks := [], items := [.slot 15 (.val (.int .i64)), .slot 16 (.val (.int .i64))], junk := [], tails := [] }, { id := 3000, known := false, toks := [], items := [], junk := [], tails := [] }, { id := 5030006, known := false, toks := [], items := [], junk := [], tails := [] }, { id := 5030007, known := false, toks := [], items := [], junk := [], tails := [] }, { id := 5030008, known := false, toks := [], items := [.slot 7 (.val (.int .i64))], junk := [18, 19], tails := [] }, { id := 5030009, known := true, toks := [], items := [.slot 33 (.val .bool)], junk := [20, 21, 22, 23, 24, 25, 26, 27, 28, 29, 30, 31, 32], tails := [] }, { id := 5030010, known := false, toks := [], items := [], junk := [4], tails := [] }, { id := 5030011, known := false, toks := [], items := [.slot 4 (.val (.int .i64))], junk := [], tails := [] }, { id := 5030012, known := false, toks := [], items := [], junk := [34, 35, 36], tails := [] }, { id := 5030013, known := false, toks := [], items := [.slot 16 (.val (.int .i64))], junk := [37], tails := [] }, { id := 5030014, known := false, toks := [], items := [.slot 42 (.val .bool)], junk := [38, 39, 40, 41], tails := [] }, { id := 5030015, known := false, toks := [], items := [], junk := [4], tails := [] }, { id := 5030016, known := false, toks := [], items := [.slot 4 (.val (.int .i64))], junk := [], tails := [] }, { id := 5030017, known := false, toks := [], items := [.slot 4 (.val (.int .i64))], junk := [], tails := [] }], [])
def sp6_13 : List LSpec × List Nat := ([{ id := 5013000, known := false, toks := [], items := [], junk := [0], tails := [] }, { id := 5013001, known := false, toks := [], items := [.slot 2 (.val (.int .i64))], junk := [8, 9, 10, 7, 11, 12], tails := [] }, { id := 5013002, known := false, toks := [], items := [.slot 4 (.val (.int .i64))], junk := [14, 15, 16, 13, 17, 18], tails := [] }, { id := 5013003, known := true, toks := [], items := [.slot 34 (.val .bool)], junk := [19, 20, 21, 22, 23, 24, 25, 26, 27, 28, 29, 30, 31, 32, 33], tails := [] }, { id := 5013004, known := false, toks := [], items := [], junk := [0], tails := [] }, { id := 5013005, known := false, toks := [], items := [.slot 0 (.val .bool)], junk := [], tails := [] }, { id := 5013006, known := false, toks := [], items := [.slot 6 (.val (.int .i64))], junk := [36, 37, 38, 39, 40, 35, 41, 42], tails := [] }, { id := 5013007, known := true, toks := [], items := [.slot 0 (.val .bool)], junk := [43, 44, 45, 46, 47, 48, 49, 50, 51, 52, 53, 54, 55, 56, 57, 58, 59, 60, 61, 62, 63], tails := [] }], [])
def sp6_6 : List LSpec × List Nat := ([{ id := 5006000, known := false, toks := [], items := [], junk := [4], tails := [] }, { id := 5006001, known := false, toks := [], items := [.slot 5 (.val .bool)], junk := [17], tails := [] }, { id := 5006002, known := true, toks := [], items := [.slot 23 (.val .bool)], junk := [18, 19, 20, 21, 22], tails := [] }, { id := 5006003, known := false, toks := [], items := [], junk := [24, 4], tails := [] }, { id := 5006004, known := false, toks := [], items := [.slot 4 (.val .bool)], junk := [24], tails := [] }, { id := 5006005, known := false, toks := [], items := [.slot 7 (.val (.int .i64))], junk := [26, 27, 28, 25, 29, 30], tails := [] }, { id := 5006006, known := false, toks := [], items := [.slot 9 (.val (.int .i64))], junk := [32, 33, 34, 31, 35, 36], tails := [] }, { id := 5006007, known := false, toks := [], items := [.slot 11 (.val (.int .i64))], junk := [38, 39, 37, 40, 41], tails := [] }, { id := 5006008, known := true, toks := [], items := [.slot 47 (.val .bool)], junk := [42, 43, 44, 45, 46], tails := [] }, { id := 5006009, known := false, toks := [], items := [], junk := [48, 49, 50, 51, 52, 53, 54, 55, 56, 57, 58, 59, 60, 61, 62, 63, 4], tails := [] }, { id := 5006010, known := true, toks := [], items := [.slot 4 (.val .bool)], junk := [48, 49, 50, 51, 52, 53, 54, 55, 56, 57, 58, 59, 60, 61, 62, 63], tails := [] }, { id := 5006011, known := true, toks := [], items := [.slot 79 (.val .bool)], junk := [64, 65, 66, 67, 68, 69, 70, 71, 72, 73, 74, 75, 76, 77, 78], tails := [] }, { id := 5006012, known := false, toks := [], items := [], junk := [4], tails := [] }, { id := 5006013, known := false, toks := [], items := [.slot 4 (.val .bool)], junk := [], tails := [] }, { id := 5006014, known := false, toks := [], items := [.slot 12 (.val (.int .i64))], junk := [], tails := [] }, { id := 600, known := true, toks := [], items := [.slot 12 (.val (.int .i64))], junk := [80, 81, 82, 83, 86, 87, 88, 89, 90, 91, 92, 93, 94, 95, 96, 97, 98, 99, 100, 101, 102, 103, 104, 4, 105, 13, 14, 15, 106, 107, 108, 109, 110, 111, 112, 115, 116, 117, 118, 119, 120, 121, 16, 122, 123, 124, 125, 126, 127, 128, 129, 130, 131, 132, 133, 134, 135, 136, 137, 138, 139, 140, 141, 142, 143, 144, 145, 146, 147, 148, 149, 150, 151, 152, 153, 154, 155, 156, 157, 158, 159, 160, 161, 162, 163, 164, 165, 166, 167, 168, 169, 170, 171, 172, 173, 174, 113, 114, 84, 85], tails := [] }, { id := 5006015, known := false, toks := [], items := [.slot 83 (.val .bool)], junk := [80, 81, 82], tails := [] }, { id := 5006016, known := false, toks := [], items := [], junk := [], tails := [] }, { id := 5006017, known := true, toks := [], items := [.slot 104 (.val .bool)], junk := [86, 87, 88, 89, 90, 91, 92, 93, 94, 95, 96, 97, 98, 99, 100, 101, 102, 103], tails := [] }, { id := 5006018, known := false, toks := [], items := [], junk := [4], tails := [] }, { id := 5006019, known := false, toks := [], items := [.slot 4 (.val .bool)], junk := [], tails := [] }, { id := 5006020, known := false, toks := [], items := [], junk := [105], tails := [] }, { id := 5006021, known := false, toks := [], items := [.slot 14 (.val (.int .i64))], junk := [], tails := [] }, { id := 5006022, known := false, toks := [], items := [.slot 15 (.val (.int .i64))], junk := [], tails := [] }, { id := 601, known := true, toks := [], items := [.slot 14 (.val (.int .i64)), .slot 15 (.val (.int .i64)), .vec 1000013 (.int .i64)], junk := [106, 107, 108, 109, 110, 111, 112, 115, 116, 117, 118, 119, 120, 121, 16, 122, 123, 124, 125, 126, 127, 128, 129, 130, 131, 132, 133, 134, 135, 136, 137, 138, 139, 140, 141, 142, 143, 144, 145, 146, 147, 148, 149, 150, 151, 152, 153, 154, 155, 156, 157, 158, 159, 160, 161, 162, 163, 164, 4, 165, 166, 167, 168, 169, 170, 171, 172, 173, 174, 113, 114], tails := [] }, { id := 5006023, known := false, toks := [], items := [.slot 112 (.val .bool)], junk := [106, 107, 108, 109, 110, 111], tails := [] }, { id := 5006024, known := false, toks := [], items := [], junk := [], tails := [] }, { id := 5006025, known := false, toks := [], items := [.slot 16 (.val (.int .i64))], junk := [115, 116, 117, 118, 119, 120, 121], tails := [] }, { id := 5006026, known := true, toks := [], items := [.slot 164 (.val .bool)], junk := [122, 123, 124, 125, 126, 127, 128, 129, 130, 131, 132, 133, 134, 135, 136, 137, 138, 139, 140, 141, 142, 143, 144, 145, 146, 147, 148, 149, 150, 151, 152, 153, 154, 155, 156, 157, 158, 159, 160, 161, 162, 163], tails := [] }, { id := 5006027, known := false, toks := [], items := [], junk := [4], tails := [] }, { id := 5006028, known := false, toks := [], items := [.slot 4 (.val .bool)], junk := [], tails := [] }, { id := 5006029, known := false, toks := [], items := [], junk := [165, 166, 167, 168, 169, 170], tails := [] }, { id := 5006030, known := false, toks := [], items := [.slot 173 (.val .bool)], junk := [171, 172], tails := [] }, { id := 5006031, known := true, toks := [], items := [.slot 14 (.val (.int .i64))], junk := [174], tails := [] }, { id := 5006032, known := false, toks := [], items := [.slot 14 (.val (.int .i64))], junk := [174], tails := [] }, { id := 5006033, known := false, toks := [], items := [.slot 15 (.val (.int .i64))], junk := [113, 114], tails := [] }, { id := 5006034, known := false, toks := [], items := [.slot 12 (.val (.int .i64))], junk := [84, 85], tails := [] }, { id := 5006035, known := false, toks := [], items := [.slot 4 (.val .bool)], junk := [175], tails := [] }], [])
def sp6_7 : List LSpec × List Nat := ([{ id := 5007000, known := false, toks := [], items := [], junk := [6], tails := [] }, { id := 5007001, known := false, toks := [], items := [.slot 7 (.val .bool)], junk := [19], tails := [] }, { id := 5007002, known := true, toks := [], items := [.slot 30 (.val .bool)], junk := [20, 21, 22, 23, 24, 25, 26, 27, 28, 29], tails := [] }, { id := 5007003, known := false, toks := [], items := [], junk := [31, 6], tails := [] }, { id := 5007004, known := false, toks := [], items := [.slot 6 (.val .bool)], junk := [31], tails := [] }, { id := 5007005, known := false, toks := [], items := [.slot 9 (.val (.int .i64))], junk := [33, 34, 35, 32, 36, 37], tails := [] }, { id := 5007006, known := false, toks := [], items := [.slot 39 (.val .bool)], junk := [38], tails := [] }, { id := 5007007, known := false, toks := [], items := [], junk := [40, 6], tails := [] }, { id := 5007008, known := false, toks := [], items := [.slot 6 (.val .bool)], junk := [40], tails := [] }, { id := 5007009, known := false, toks := [], items := [.slot 10 (.val (.int .i64))], junk := [], tails := [] }, { id := 700, known := false, toks := [], items := [], junk := [], tails := [] }, { id := 5007010, known := false, toks := [], items := [.slot 44 (.val .bool)], junk := [41, 42, 43], tails := [] }, { id := 5007011, known := false, toks := [], items := [], junk := [], tails := [] }, { id := 5007012, known := false, toks := [], items := [.slot 12 (.val (.int .i64))], junk := [48, 49, 50, 51, 52, 53, 47, 54, 55], tails := [] }, { id := 5007013, known := false, toks := [], items := [.slot 14 (.val (.int .i64))], junk := [57, 58, 59, 60, 61, 62, 56, 63, 64], tails := [] }, { id := 5007014, known := false, toks := [], items := [.slot 16 (.val (.int .i64))], junk := [66, 67, 68, 69, 70, 71, 65, 72, 73], tails := [] }, { id := 5007015, known := false, toks := [], items := [.slot 18 (.val (.int .i64))], junk := [75, 76, 77, 78, 79, 80, 74, 81, 82], tails := [] }, { id := 5007016, known := false, toks := [], items := [.slot 88 (.val .bool)], junk := [83, 84, 85, 86, 87], tails := [] }, { id := 5007017, known := false, toks := [], items := [], junk := [89, 90, 91, 92, 93, 94, 6], tails := [] }, { id := 5007018, known := true, toks := [], items := [.slot 94 (.val .bool)], junk := [89, 90, 91, 92, 93], tails := [] }, { id := 5007019, known := false, toks := [], items := [], junk := [6], tails := [] }, { id := 5007020, known := false, toks := [], items := [.slot 6 (.val .bool)], junk := [], tails := [] }, { id := 5007021, known := true, toks := [], items := [.slot 120 (.val .bool)], junk := [95, 96, 97, 98, 99, 100, 101, 102, 103, 104, 105, 106, 107, 108, 109, 110, 111, 112, 113, 114, 115, 116, 117, 118, 119], tails := [] }, { id := 5007022, known := false, toks := [], items := [], junk := [6], tails := [] }, { id := 5007023, known := false, toks := [], items := [.slot 6 (.val .bool)], junk := [], tails := [] }, { id := 5007024, known := false, toks := [], items := [.slot 10 (.val (.int .i64))], junk := [45, 46], tails := [] }, { id := 5007025, known := false, toks := [], items := [.slot 6 (.val .bool)], junk := [121], tails := [] }], [])
def spt6 : Tab (List LSpec × List Nat) := (.node (.node (.node (.node .leaf (some sp6_7) .leaf) none (.node (.node .leaf none (.node .leaf (some sp6_51) .leaf)) none (.node (.node .leaf (some sp6_43) .leaf) none .leaf))) none (.node (.node .leaf none (.node (.node .leaf (some sp6_41) .leaf) none (.node .leaf (some sp6_57) .leaf))) none (.node .leaf (some sp6_13) (.node (.node .leaf (some sp6_45) .leaf) (some sp6_29) .leaf)))) none (.node (.node .leaf (some sp6_4) (.node (.node (.node .leaf (some sp6_36) .leaf) none .leaf) none (.node (.node .leaf (some sp6_44) .leaf) none (.node .leaf (some sp6_60) .leaf)))) none (.node (.node (.node .leaf none (.node .leaf (some sp6_50) .leaf)) none (.node .leaf none (.node .leaf (some sp6_58) .leaf))) (some sp6_6) (.node (.node .leaf none (.node .leaf (some sp6_54) .leaf)) (some sp6_14) (.node (.node .leaf (some sp6_46) .leaf) (some sp6_30) .leaf)))))
def spf6 (f : Nat) : List LSpec × List Nat := (spt6.get f).getD ([], [])
theorem pd_law21_OrderOnce : PureD Try.prog cfg 6 p_law21_OrderOnce := fnD spf6 (l := [(13, p_law21_alive), (14, p_ref21_GreatUnits), (8, p_order_Cells), (10, p_order_Perm), (22, p_conf_Levels)]) cfgOk cfgGlob (.cons pd_law21_alive (.cons pd_ref21_GreatUnits (.cons pd_order_Cells (.cons pd_order_Perm (.cons pd_conf_Levels .nil))))) (fun d => by kernel_rfl)

/-- thimblerig/order.Undo -/
noncomputable def order_Undo (d0 : (List (Int)) × (List (Int))) : Option ((List (Int)) × (Int)) :=
 Dat.bind (order_ordered (d0.1, d0.2)) fun (x1 : Int) =>
 (bif (Dat.ine x1 0) then some (([] : List (Int)), x1)
 else if (Dat.MkOk (Dat.ofN (Dat.len d0.2)) (Dat.ofN (Dat.len d0.2)) 4) then Dat.loop (fun (s4 : (Int) × (List (Int))) k5 =>
 (bif (Dat.ilt s4.1 (Dat.ofN (Dat.len d0.1))) then if (Dat.Ix s4.1 (Dat.len d0.1)) then Dat.bnd (Dat.get d0.1 (Dat.toN s4.1) 0) fun (x8 : Int) =>
 if (Dat.Ix s4.1 (Dat.len d0.2)) then Dat.bnd (Dat.get d0.2 (Dat.toN s4.1) 0) fun (x11 : Int) =>
 if (Dat.In x8 (Dat.toN (Dat.ofN (Dat.len d0.2)))) then if (Dat.Lt (Dat.addN 0 (Dat.toN x8)) (Dat.len s4.2)) then Dat.bnd (Dat.set s4.2 (Dat.addN 0 (Dat.toN x8)) x11) fun (x16 : List (Int)) =>
 Dat.bnd (Dat.wrap .i64 (Dat.add s4.1 1)) fun (x17 : Int) =>
 k5 (x17, x16)
 else none
 else none
 else none
 else none
 else if (Dat.Le (Dat.addN 0 (Dat.toN (Dat.ofN (Dat.len d0.2)))) (Dat.len s4.2)) then some ((Dat.seg s4.2 0 (Dat.toN (Dat.ofN (Dat.len d0.2)))), 0)
 else none)) (0, (Dat.rep (α := Int) (Dat.toN (Dat.ofN (Dat.len d0.2))) 0))
 else none)
noncomputable def p_order_Undo : PFn := { args := [(.list (.int .i64)), (.list (.int .u32))], res := [(.list (.int .u32)), (.int .i64)], fn := order_Undo }
def sp12_26 : List LSpec × List Nat := ([{ id := 2600, known := true, toks := [], items := [.slot 8 (.val (.int .i64)), .vec 2002000 (.int .u32)], junk := [9, 10, 11, 12, 4, 5, 13, 14, 15, 16, 17], tails := [] }], [])
def spt12 : Tab (List LSpec × List Nat) := (.node .leaf none (.node .leaf none (.node (.node .leaf none (.node .leaf (some sp12_26) .leaf)) none .leaf)))
def spf12 (f : Nat) : List LSpec × List Nat := (spt12.get f).getD ([], [])
theorem pd_order_Undo : PureD Try.prog cfg 12 p_order_Undo := fnD spf12 (l := [(30, p_order_ordered)]) cfgOk cfgGlob (.cons pd_order_ordered .nil) (fun d => by kernel_rfl)

/-- thimblerig/thimbleriglaw21.OrderBack -/
noncomputable def law21_OrderBack (d0 : ((Int) × ((Int) × ((Int) × ((Int) × ((Int) × ((Int) × ((Int) × ((Int) × ((Int) × (Unit)))))))))) × ((List ((Int) × ((Int) × ((Int) × ((List (Int)) × (Unit)))))) × (List (Int)))) : Option (Bool) :=
 Dat.bind (law21_alive ()) fun (x1 : Bool) =>
 Dat.join (σ := Bool) (fun k2 =>
 Dat.bind (ref21_GreatUnits (d0.2.1, 40)) fun (x3 : Bool) =>
 (bif x3 then k2 true
 else (bif (Dat.pickB false true (Dat.igt (Dat.ofN (Dat.len d0.2.2)) 100)) then k2 true
 else k2 (Dat.pickB false true (Dat.bnot x1))))) fun (j4 : Bool) =>
 (bif j4 then some x1
 else Dat.bind (order_Perm ((d0.1.1, (d0.1.2.1, (d0.1.2.2.1, (d0.1.2.2.2.1, (d0.1.2.2.2.2.1, (d0.1.2.2.2.2.2.1, (d0.1.2.2.2.2.2.2.1, (d0.1.2.2.2.2.2.2.2.1, (d0.1.2.2.2.2.2.2.2.2.1, ()))))))))), d0.2.1)) fun (x5 : (List (List (Int))) × (Int)) =>
 (bif (Dat.ine x5.2 0) then some x1
 else Dat.loop (fun (s6 : Int) k7 =>
 (bif (Dat.ilt s6 (Dat.ofN (Dat.len x5.1))) then if (Dat.Ix s6 (Dat.len x5.1)) then Dat.bnd (Dat.get x5.1 (Dat.toN s6) ([] : List (Int))) fun (x10 : List (Int)) =>
 Dat.bind (order_Apply (x10, d0.2.2)) fun (x11 : (List (Int)) × (Int)) =>
 if (Dat.Ix s6 (Dat.len x5.1)) then Dat.bnd (Dat.get x5.1 (Dat.toN s6) ([] : List (Int))) fun (x14 : List (Int)) =>
 Dat.bind (order_Undo (x14, x11.1)) fun (x15 : (List (Int)) × (Int)) =>
 if (Dat.Ix s6 (Dat.len x5.1)) then Dat.bnd (Dat.get x5.1 (Dat.toN s6) ([] : List (Int))) fun (x18 : List (Int)) =>
 Dat.bind (order_Undo (x18, d0.2.2)) fun (x19 : (List (Int)) × (Int)) =>
 if (Dat.Ix s6 (Dat.len x5.1)) then Dat.bnd (Dat.get x5.1 (Dat.toN s6) ([] : List (Int))) fun (x22 : List (Int)) =>
 Dat.bind (order_Apply (x22, x19.1)) fun (x23 : (List (Int)) × (Int)) =>
 Dat.bnd (Dat.wrap .i64 (Dat.mul 2 (Dat.ofN (Dat.len d0.2.1)))) fun (x24 : Int) =>
 (bif (Dat.ine (Dat.ofN (Dat.len d0.2.2)) x24) then Dat.join (σ := Bool) (fun k25 =>
 (bif (Dat.ine x11.2 2) then k25 true
 else k25 (Dat.pickB false true (Dat.ine x19.2 2)))) fun (j26 : Bool) =>
 (bif j26 then some false
 else Dat.bnd (Dat.wrap .i64 (Dat.add s6 1)) fun (x27 : Int) =>
 k7 x27)
 else Dat.join (σ := Bool) (fun k28 =>
 (bif (Dat.ine x11.2 0) then k28 true
 else (bif (Dat.pickB false true (Dat.ine x15.2 0)) then k28 true
 else (bif (Dat.pickB false true (Dat.ine x19.2 0)) then k28 true
 else (bif (Dat.pickB false true (Dat.ine x23.2 0)) then k28 true
 else Dat.bind (ref21_SameCells (x15.1, d0.2.2)) fun (x29 : Bool) =>
 (bif (Dat.pickB false true (Dat.bnot x29)) then k28 true
 else Dat.bind (ref21_SameCells (x23.1, d0.2.2)) fun (x30 : Bool) =>
 k28 (Dat.pickB false true (Dat.bnot x30)))))))) fun (j31 : Bool) =>
 (bif j31 then some false
 else Dat.bnd (Dat.wrap .i64 (Dat.add s6 1)) fun (x32 : Int) =>
 k7 x32))
 else none
 else none
 else none
 else none
 else some x1)) 0))
noncomputable def p_law21_OrderBack : PFn := { args := [(.pair (.int .i64) (.pair (.int .i64) (.pair (.int .i64) (.pair (.int .i64) (.pair (.int .i64) (.pair (.int .i64) (.pair (.int .i64) (.pair (.int .i64) (.pair (.int .i64) .unit))))))))), (.list (.pair (.int .u8) (.pair (.int .i64) (.pair (.int .i64) (.pair (.list (.int .u8)) .unit))))), (.list (.int .u32))], res := [.bool], fn := law21_OrderBack }
def sp7_14 : List LSpec × List Nat := ([{ id := 5014000, known := false, toks := [], items := [], junk := [4], tails := [] }, { id := 5014001, known := false, toks := [], items := [.slot 5 (.val (.int .i64))], junk := [], tails := [] }, { id := 1400, known := false, toks := [], items := [], junk := [], tails := [] }, { id := 5014002, known := true, toks := [], items := [.slot 14 (.val .bool)], junk := [6, 7, 8, 9, 10, 11, 12, 13], tails := [] }, { id := 5014003, known := false, toks := [], items := [], junk := [], tails := [] }, { id := 5014004, known := false, toks := [], items := [.slot 23 (.val .bool)], junk := [17, 18, 19, 20, 21, 22], tails := [] }, { id := 5014005, known := false, toks := [], items := [], junk := [4], tails := [] }, { id := 5014006, known := false, toks := [], items := [.slot 4 (.val .bool)], junk := [], tails := [] }, { id := 5014007, known := false, toks := [], items := [.slot 5 (.val (.int .i64))], junk := [15, 16], tails := [] }, { id := 5014008, known := false, toks := [], items := [.slot 4 (.val .bool)], junk := [24, 25, 26, 27], tails := [] }], [])
def sp7_50 : List LSpec × List Nat := ([{ id := 5050000, known := false, toks := [], items := [], junk := [2], tails := [] }, { id := 5050001, known := true, toks := [], items := [.slot 2 (.val .bool)], junk := [3, 4, 5, 6, 7, 8, 9, 10, 11, 12, 13, 14], tails := [] }], [])
def sp7_60 : List LSpec × List Nat := ([{ id := 5060000, known := false, toks := [], items := [], junk := [2], tails := [] }, { id := 5060001, known := true, toks := [], items := [.slot 8 (.val .bool)], junk := [3, 4, 5, 6, 7], tails := [] }, { id := 5060002, known := false, toks := [], items := [], junk := [2], tails := [] }, { id := 5060003, known := false, toks := [], items := [.slot 2 (.val (.int .i64))], junk := [], tails := [] }, { id := 5060004, known := false, toks := [], items := [.slot 2 (.val (.int .i64))], junk := [], tails := [] }], [])
def sp7_57 : List LSpec × List Nat := ([{ id := 5057000, known := false, toks := [], items := [], junk := [2], tails := [] }, { id := 5057001, known := false, toks := [], items := [.slot 3 (.val (.int .i64))], junk := [], tails := [] }, { id := 5700, known := false, toks := [], items := [], junk := [], tails := [] }, { id := 5057002, known := false, toks := [], items := [.slot 4 (.val (.int .i64)), .slot 5 (.val (.int .i64))], junk := [9, 10, 8, 11, 12], tails := [] }, { id := 5057003, known := true, toks := [], items := [.slot 19 (.val .bool)], junk := [13, 14, 15, 16, 17, 18], tails := [] }, { id := 5057004, known := false, toks := [], items := [], junk := [20, 2], tails := [] }, { id := 5057005, known := false, toks := [], items := [.slot 2 (.val (.int .i64))], junk := [20], tails := [] }, { id := 5057006, known := false, toks := [], items := [.slot 3 (.val (.int .i64))], junk := [6, 7], tails := [] }], [])
def sp7_51 : List LSpec × List Nat := ([{ id := 5051000, known := false, toks := [], items := [], junk := [4, 5, 6, 7, 8, 9], tails := [] }, { id := 5100, known := false, toks := [], items := [], junk := [], tails := [] }, { id := 5051001, known := true, toks := [], items := [.slot 18 (.val .bool)], junk := [10, 11, 12, 13, 14, 15, 16, 17], tails := [] }, { id := 5051002, known := false, toks := [], items := [], junk := [], tails := [] }, { id := 5051003, known := false, toks := [], items := [], junk := [19, 20, 21, 22, 23, 24, 25, 26, 27, 28, 29, 30, 31, 32], tails := [] }], [])
def sp7_41 : List LSpec × List Nat := ([{ id := 5041000, known := false, toks := [], items := [], junk := [4], tails := [] }, { id := 5041001, known := false, toks := [], items := [.slot 5 (.val (.int .i64)), .slot 6 (.val (.int .i64))], junk := [7, 8], tails := [] }, { id := 5041002, known := false, toks := [], items := [.slot 10 (.val (.int .u8))], junk := [9], tails := [] }, { id := 5041003, known := false, toks := [], items := [.slot 11 (.val .bool)], junk := [12], tails := [] }, { id := 5041004, known := false, toks := [], items := [.slot 6 (.val (.int .i64)), .slot 5 (.val (.int .i64))], junk := [14, 13, 16, 15, 17, 18, 4], tails := [] }, { id := 5041005, known := false, toks := [], items := [.slot 6 (.val (.int .i64))], junk := [], tails := [] }, { id := 5041006, known := false, toks := [], items := [.slot 13 (.val .bool)], junk := [14], tails := [] }, { id := 5041007, known := false, toks := [], items := [.slot 5 (.val (.int .i64))], junk := [16, 15, 17, 18, 4], tails := [] }, { id := 5041008, known := false, toks := [], items := [.slot 15 (.val .bool)], junk := [16], tails := [] }, { id := 5041009, known := false, toks := [], items := [.slot 5 (.val (.int .i64))], junk := [17, 18, 4], tails := [] }, { id := 5041010, known := false, toks := [], items := [.slot 5 (.val (.int .i64))], junk := [17, 18], tails := [] }, { id := 5041011, known := false, toks := [], items := [.slot 4 (.val .bool)], junk := [], tails := [] }, { id := 5041012, known := true, toks := [], items := [.slot 4 (.val .bool)], junk := [19, 20, 21, 22, 23, 24, 25, 26, 27, 28, 29, 30, 31, 32, 33, 34], tails := [] }], [])
def sp7_44 : List LSpec × List Nat := ([{ id := 5044000, known := false, toks := [], items := [], junk := [6], tails := [] }, { id := 5044001, known := false, toks := [], items := [.slot 7 (.val (.int .i64))], junk := [10, 11], tails := [] }, { id := 5044002, known := false, toks := [], items := [.slot 13 (.val .bool)], junk := [12], tails := [] }, { id := 5044003, known := false, toks := [], items := [], junk := [14, 6], tails := [] }, { id := 5044004, known := false, toks := [], items := [.slot 6 (.val (.int .i64))], junk := [14], tails := [] }, { id := 5044005, known := true, toks := [], items := [.slot 22 (.val .bool)], junk := [15, 16, 17, 18, 19, 20, 21], tails := [] }, { id := 5044006, known := false, toks := [], items := [], junk := [6], tails := [] }, { id := 5044007, known := false, toks := [], items := [.slot 6 (.val (.int .i64))], junk := [], tails := [] }, { id := 5044008, known := false, toks := [], items := [], junk := [23], tails := [] }, { id := 5044009, known := false, toks := [], items := [], junk := [24], tails := [] }, { id := 5044010, known := false, toks := [], items := [], junk := [], tails := [] }, { id := 5044011, known := false, toks := [], items := [], junk := [27, 28, 29, 30], tails := [] }, { id := 5044012, known := false, toks := [], items := [.slot 33 (.val .bool)], junk := [31, 32], tails := [] }, { id := 5044013, known := true, toks := [], items := [], junk := [34, 35, 36, 37, 38, 39, 40, 41, 42, 43, 44, 45, 46, 47, 48], tails := [] }, { id := 5044014, known := false, toks := [], items := [], junk := [34, 35, 36, 37], tails := [] }, { id := 5044015, known := false, toks := [], items := [], junk := [38, 39, 40, 41, 42, 43, 44], tails := [] }, { id := 5044016, known := false, toks := [], items := [], junk := [45, 46, 47, 48], tails := [] }, { id := 5044017, known := false, toks := [], items := [.slot 6 (.val (.int .i64))], junk := [49, 50], tails := [] }], [])
def sp7_43 : List LSpec × List Nat := ([{ id := 5043000, known := false, toks := [], items := [], junk := [], tails := [] }, { id := 5043001, known := false, toks := [], items := [], junk := [13, 14, 15, 16, 17, 18], tails := [] }, { id := 5043002, known := false, toks := [], items := [.slot 21 (.val .bool)], junk := [19, 20], tails := [] }, { id := 5043003, known := false, toks := [], items := [], junk := [], tails := [] }, { id := 5043004, known := false, toks := [], items := [], junk := [23, 24, 25, 26, 22, 27, 28, 29, 9, 10], tails := [] }, { id := 5043005, known := false, toks := [], items := [.slot 11 (.val (.int .i64)), .slot 12 (.val .bool)], junk := [31, 32, 33, 34, 35, 36, 30, 37, 38], tails := [] }, { id := 5043006, known := false, toks := [], items := [.slot 39 (.val .bool)], junk := [], tails := [] }, { id := 5043007, known := true, toks := [], items := [], junk := [40, 41, 42, 43, 44], tails := [] }, { id := 5043008, known := false, toks := [], items := [], junk := [40, 41, 42, 43, 44], tails := [] }, { id := 5043009, known := false, toks := [], items := [], junk := [45, 46, 47, 48, 49, 50], tails := [] }], [])
def sp7_58 : List LSpec × List Nat := ([{ id := 5058000, known := false, toks := [], items := [], junk := [6], tails := [] }, { id := 5058001, known := true, toks := [], items := [.slot 6 (.val .bool)], junk := [7, 8, 9, 10, 11, 12, 13, 14], tails := [] }], [])
def sp7_54 : List LSpec × List Nat := ([{ id := 5054000, known := false, toks := [], items := [], junk := [2], tails := [] }, { id := 5054001, known := true, toks := [], items := [.slot 2 (.val .bool)], junk := [3, 4, 5, 6, 7, 8, 9, 10, 11, 12, 13, 14, 15, 16, 17, 18, 19, 20, 21, 22, 23, 24, 25, 26, 27, 28, 29, 30, 31, 32, 33, 34, 35, 36, 37, 38, 39, 40, 41, 42, 43, 44, 45], tails := [] }], [])
def sp7_45 : List LSpec × List Nat := ([{ id := 5045000, known := false, toks := [], items := [], junk := [2], tails := [] }, { id := 5045001, known := true, toks := [], items := [.slot 2 (.val .bool)], junk := [3, 4, 5, 6, 7, 8, 9, 10], tails := [] }], [])
def sp7_46 : List LSpec × List Nat := ([{ id := 5046000, known := false, toks := [], items := [], junk := [4], tails := [] }, { id := 5046001, known := false, toks := [], items := [.slot 6 (.val (.int .u8))], junk := [5], tails := [] }, { id := 5046002, known := false, toks := [], items := [.slot 7 (.val .bool)], junk := [8], tails := [] }, { id := 5046003, known := false, toks := [], items := [], junk := [9, 10, 11, 12, 13, 14, 15, 16, 17, 4, 19, 18, 20, 21, 22, 23, 24, 25, 26, 27, 28, 29, 30, 31, 32, 33, 34, 35, 37, 36, 38, 39, 40, 41, 42, 43, 44, 45, 46, 47, 48, 49, 50, 51, 52, 53, 54, 55], tails := [] }, { id := 5046004, known := true, toks := [], items := [.slot 4 (.val .bool)], junk := [9, 10, 11, 12, 13, 14, 15, 16, 17], tails := [] }, { id := 5046005, known := false, toks := [], items := [.slot 18 (.val .bool)], junk := [19], tails := [] }, { id := 5046006, known := false, toks := [], items := [], junk := [20, 21, 22, 23, 24, 25, 26, 27, 28, 29, 30, 31, 32, 33, 34, 35, 4, 37, 36, 38, 39, 40, 41, 42, 43, 44, 45, 46, 47, 48, 49, 50, 51, 52, 53, 54, 55], tails := [] }, { id := 5046007, known := true, toks := [], items := [.slot 4 (.val .bool)], junk := [20, 21, 22, 23, 24, 25, 26, 27, 28, 29, 30, 31, 32, 33, 34, 35], tails := [] }, { id := 5046008, known := false, toks := [], items := [.slot 36 (.val .bool)], junk := [37], tails := [] }, { id := 5046009, known := false, toks := [], items := [], junk := [38, 39, 40, 41, 42, 43, 44, 45, 46, 47, 48, 49, 50, 51, 52, 53, 54, 55, 4], tails := [] }, { id := 5046010, known := true, toks := [], items := [.slot 4 (.val .bool)], junk := [38, 39, 40, 41, 42, 43, 44, 45, 46, 47, 48, 49, 50, 51, 52, 53, 54, 55], tails := [] }, { id := 5046011, known := false, toks := [], items := [.slot 4 (.val .bool)], junk := [], tails := [] }], [])
def sp7_36 : List LSpec × List Nat := ([{ id := 5036000, known := false, toks := [], items := [], junk := [8], tails := [] }, { id := 5036001, known := false, toks := [], items := [.slot 9 (.val (.int .i64))], junk := [11, 12, 13, 14, 15, 16, 17], tails := [] }, { id := 5036002, known := false, toks := [], items := [.slot 10 (.val (.int .i64))], junk := [18, 19], tails := [] }, { id := 3600, known := false, toks := [], items := [], junk := [], tails := [] }, { id := 5036003, known := true, toks := [], items := [.slot 25 (.val .bool)], junk := [20, 21, 22, 23, 24], tails := [] }, { id := 5036004, known := false, toks := [], items := [], junk := [], tails := [] }, { id := 5036005, known := false, toks := [], items := [.slot 36 (.val .bool)], junk := [28, 29, 30, 31, 32, 33, 34, 35], tails := [] }, { id := 5036006, known := false, toks := [], items := [], junk := [37, 38, 8], tails := [] }, { id := 5036007, known := false, toks := [], items := [.slot 8 (.val (.int .i64))], junk := [37, 38], tails := [] }, { id := 5036008, known := false, toks := [], items := [.slot 10 (.val (.int .i64))], junk := [26, 27], tails := [] }, { id := 5036009, known := false, toks := [], items := [.slot 8 (.val (.int .i64))], junk := [39, 40, 41], tails := [] }], [])
def sp7_29 : List LSpec × List Nat := ([{ id := 5029000, known := false, toks := [], items := [.slot 7 (.val .bool)], junk := [6], tails := [] }, { id := 5029001, known := true, toks := [], items := [], junk := [8, 9, 10, 11, 12, 13, 14, 15], tails := [] }, { id := 5029002, known := false, toks := [], items := [], junk := [8, 9, 10, 11, 12, 13], tails := [] }, { id := 5029003, known := false, toks := [], items := [], junk := [14, 15], tails := [] }], [])
def sp7_4 : List LSpec × List Nat := ([{ id := 5004000, known := false, toks := [], items := [], junk := [4], tails := [] }, { id := 5004001, known := true, toks := [], items := [.slot 23 (.val .bool)], junk := [13, 14, 15, 16, 17, 18, 19, 20, 21, 22], tails := [] }, { id := 5004002, known := false, toks := [], items := [], junk := [4], tails := [] }, { id := 5004003, known := false, toks := [], items := [.slot 4 (.val .bool)], junk := [], tails := [] }, { id := 5004004, known := false, toks := [], items := [.slot 6 (.val (.int .i64))], junk := [25, 26, 27, 24, 28, 29], tails := [] }, { id := 5004005, known := false, toks := [], items := [.slot 8 (.val (.int .i64))], junk := [31, 32, 33, 30, 34, 35], tails := [] }, { id := 5004006, known := false, toks := [], items := [.slot 10 (.val (.int .i64))], junk := [37, 38, 39, 36, 40, 41], tails := [] }, { id := 5004007, known := false, toks := [], items := [.slot 12 (.val (.int .i64))], junk := [43, 44, 45, 42, 46, 47], tails := [] }, { id := 5004008, known := true, toks := [], items := [.slot 4 (.val .bool)], junk := [48, 49, 50, 51, 52, 53, 54, 55, 56, 57, 58, 59, 60, 61, 62, 63, 64, 65], tails := [] }], [])
def sp7_30 : List LSpec × List Nat := ([{ id := 5030000, known := false, toks := [], items := [], junk := [4], tails := [] }, { id := 5030001, known := false, toks := [], items := [.slot 10 (.val .bool)], junk := [8, 9], tails := [] }, { id := 5030002, known := false, toks := [], items := [], junk := [4], tails := [] }, { id := 5030003, known := false, toks := [], items := [.slot 4 (.val (.int .i64))], junk := [], tails := [] }, { id := 5030004, known := false, toks := [], items := [], junk := [11, 12, 13], tails := [] }, { id := 5030005, known := false, toks := [], items := [.slot 15 (.val (.int .i64)), .slot 16 (.val (.int .i64))], junk := [], tails := [] }, { id := 3000, known := false, toks := [], items := [], junk := [], tails := [] }, { id := 5030006, known := false, toks := [], items := [], junk := [], tails := [] }, { id := 5030007, known := false, toks := [], items := [], junk := [], tails := [] }, { id := 5030008, known := false, toks := [], items := [.slot 7 (.val (.int .i64))], junk := [18, 19], tails := [] }, { id := 5030009, known := true, toks := [], items := [.slot 33 (.val .bool)], junk := [20, 21, 22, 23, 24, 25, 26, 27, 28, 29, 30, 31, 32], tails := [] }, { id := 5030010, known := false, toks := [], items := [], junk := [4], tails := [] }, { id := 5030011, known := false, toks := [], items := [.slot 4 (.val (.int .i64))], junk := [], tails := [] }, { id := 5030012, known := false, toks := [], items := [], junk := [34, 35, 36], tails := [] }, { id := 5030013, known := false, toks := [], items := [.slot 16 (.val (.int .i64))], junk := [37], tails := [] }, { id := 5030014, known := false, toks := [], items := [.slot 42 (.val .bool)], junk := [38, 39, 40, 41], tails := [] }, { id := 5030015, known := false, toks := [], items := [], junk := [4], tails := [] }, { id := 5030016, known := false, toks := [], items := [.slot 4 (.val (.int .i64))], junk := [], tails := [] }, { id := 5030017, known := false, toks := [], items := [.slot 4 (.val (.int .i64))], junk := [], tails := [] }], [])
def sp7_13 : List LSpec × List Nat := ([{ id := 5013000, known := false, toks := [], items := [], junk := [0], tails := [] }, { id := 5013001, known := false, toks := [], items := [.slot 2 (.val (.int .i64))], junk := [8, 9, 10, 7, 11, 12], tails := [] }, { id := 5013002, known := false, toks := [], items := [.slot 4 (.val (.int .i64))], junk := [14, 15, 16, 13, 17, 18], tails := [] }, { id := 5013003, known := true, toks := [], items := [.slot 34 (.val .bool)], junk := [19, 20, 21, 22, 23, 24, 25, 26, 27, 28, 29, 30, 31, 32, 33], tails := [] }, { id := 5013004, known := false, toks := [], items := [], junk := [0], tails := [] }, { id := 5013005, known := false, toks := [], items := [.slot 0 (.val .bool)], junk := [], tails := [] }, { id := 5013006, known := false, toks := [], items := [.slot 6 (.val (.int .i64))], junk := [36, 37, 38, 39, 40, 35, 41, 42], tails := [] }, { id := 5013007, known := true, toks := [], items := [.slot 0 (.val .bool)], junk := [43, 44, 45, 46, 47, 48, 49, 50, 51, 52, 53, 54, 55, 56, 57, 58, 59, 60, 61, 62, 63], tails := [] }], [])
def sp7_6 : List LSpec × List Nat := ([{ id := 5006000, known := false, toks := [], items := [], junk := [4], tails := [] }, { id := 5006001, known := false, toks := [], items := [.slot 5 (.val .bool)], junk := [17], tails := [] }, { id := 5006002, known := true, toks := [], items := [.slot 23 (.val .bool)], junk := [18, 19, 20, 21, 22], tails := [] }, { id := 5006003, known := false, toks := [], items := [], junk := [24, 4], tails := [] }, { id := 5006004, known := false, toks := [], items := [.slot 4 (.val .bool)], junk := [24], tails := [] }, { id := 5006005, known := false, toks := [], items := [.slot 7 (.val (.int .i64))], junk := [26, 27, 28, 25, 29, 30], tails := [] }, { id := 5006006, known := false, toks := [], items := [.slot 9 (.val (.int .i64))], junk := [32, 33, 34, 31, 35, 36], tails := [] }, { id := 5006007, known := false, toks := [], items := [.slot 11 (.val (.int .i64))], junk := [38, 39, 37, 40, 41], tails := [] }, { id := 5006008, known := true, toks := [], items := [.slot 47 (.val .bool)], junk := [42, 43, 44, 45, 46], tails := [] }, { id := 5006009, known := false, toks := [], items := [], junk := [48, 49, 50, 51, 52, 53, 54, 55, 56, 57, 58, 59, 60, 61, 62, 63, 4], tails := [] }, { id := 5006010, known := true, toks := [], items := [.slot 4 (.val .bool)], junk := [48, 49, 50, 51, 52, 53, 54, 55, 56, 57, 58, 59, 60, 61, 62, 63], tails := [] }, { id := 5006011, known := true, toks := [], items := [.slot 79 (.val .bool)], junk := [64, 65, 66, 67, 68, 69, 70, 71, 72, 73, 74, 75, 76, 77, 78], tails := [] }, { id := 5006012, known := false, toks := [], items := [], junk := [4], tails := [] }, { id := 5006013, known := false, toks := [], items := [.slot 4 (.val .bool)], junk := [], tails := [] }, { id := 5006014, known := false, toks := [], items := [.slot 12 (.val (.int .i64))], junk := [], tails := [] }, { id := 600, known := false, toks := [], items := [], junk := [], tails := [] }, { id := 5006015, known := false, toks := [], items := [.slot 83 (.val .bool)], junk := [80, 81, 82], tails := [] }, { id := 5006016, known := false, toks := [], items := [], junk := [], tails := [] }, { id := 5006017, known := true, toks := [], items := [.slot 104 (.val .bool)], junk := [86, 87, 88, 89, 90, 91, 92, 93, 94, 95, 96, 97, 98, 99, 100, 101, 102, 103], tails := [] }, { id := 5006018, known := false, toks := [], items := [], junk := [4], tails := [] }, { id := 5006019, known := false, toks := [], items := [.slot 4 (.val .bool)], junk := [], tails := [] }, { id := 5006020, known := false, toks := [], items := [], junk := [105], tails := [] }, { id := 5006021, known := false, toks := [], items := [.slot 14 (.val (.int .i64))], junk := [], tails := [] }, { id := 5006022, known := false, toks := [], items := [.slot 15 (.val (.int .i64))], junk := [], tails := [] }, { id := 601, known := false, toks := [], items := [], junk := [], tails := [] }, { id := 5006023, known := false, toks := [], items := [.slot 112 (.val .bool)], junk := [106, 107, 108, 109, 110, 111], tails := [] }, { id := 5006024, known := false, toks := [], items := [], junk := [], tails := [] }, { id := 5006025, known := false, toks := [], items := [.slot 16 (.val (.int .i64))], junk := [115, 116, 117, 118, 119, 120, 121], tails := [] }, { id := 5006026, known := true, toks := [], items := [.slot 164 (.val .bool)], junk := [122, 123, 124, 125, 126, 127, 128, 129, 130, 131, 132, 133, 134, 135, 136, 137, 138, 139, 140, 141, 142, 143, 144, 145, 146, 147, 148, 149, 150, 151, 152, 153, 154, 155, 156, 157, 158, 159, 160, 161, 162, 163], tails := [] }, { id := 5006027, known := false, toks := [], items := [], junk := [4], tails := [] }, { id := 5006028, known := false, toks := [], items := [.slot 4 (.val .bool)], junk := [], tails := [] }, { id := 5006029, known := false, toks := [], items := [], junk := [165, 166, 167, 168, 169, 170], tails := [] }, { id := 5006030, known := false, toks := [], items := [.slot 173 (.val .bool)], junk := [171, 172], tails := [] }, { id := 5006031, known := true, toks := [], items := [.slot 14 (.val (.int .i64))], junk := [174], tails := [] }, { id := 5006032, known := false, toks := [], items := [.slot 14 (.val (.int .i64))], junk := [174], tails := [] }, { id := 5006033, known := false, toks := [], items := [.slot 15 (.val (.int .i64))], junk := [113, 114], tails := [] }, { id := 5006034, known := false, toks := [], items := [.slot 12 (.val (.int .i64))], junk := [84, 85], tails := [] }, { id := 5006035, known := false, toks := [], items := [.slot 4 (.val .bool)], junk := [175], tails := [] }], [])
def sp7_7 : List LSpec × List Nat := ([{ id := 5007000, known := false, toks := [], items := [], junk := [6], tails := [] }, { id := 5007001, known := false, toks := [], items := [.slot 7 (.val .bool)], junk := [19], tails := [] }, { id := 5007002, known := true, toks := [], items := [.slot 30 (.val .bool)], junk := [20, 21, 22, 23, 24, 25, 26, 27, 28, 29], tails := [] }, { id := 5007003, known := false, toks := [], items := [], junk := [31, 6], tails := [] }, { id := 5007004, known := false, toks := [], items := [.slot 6 (.val .bool)], junk := [31], tails := [] }, { id := 5007005, known := false, toks := [], items := [.slot 9 (.val (.int .i64))], junk := [33, 34, 35, 32, 36, 37], tails := [] }, { id := 5007006, known := false, toks := [], items := [.slot 39 (.val .bool)], junk := [38], tails := [] }, { id := 5007007, known := false, toks := [], items := [], junk := [40, 6], tails := [] }, { id := 5007008, known := false, toks := [], items := [.slot 6 (.val .bool)], junk := [40], tails := [] }, { id := 5007009, known := false, toks := [], items := [.slot 10 (.val (.int .i64))], junk := [], tails := [] }, { id := 700, known := true, toks := [], items := [.slot 10 (.val (.int .i64))], junk := [41, 42, 43, 44, 48, 49, 50, 51, 52, 53, 47, 54, 55, 11, 12, 57, 58, 59, 60, 61, 62, 56, 63, 64, 13, 14, 66, 67, 68, 69, 70, 71, 65, 72, 73, 15, 16, 75, 76, 77, 78, 79, 80, 74, 81, 82, 17, 18, 83, 84, 85, 86, 87, 88, 89, 90, 91, 92, 93, 94, 6, 95, 96, 97, 98, 99, 100, 101, 102, 103, 104, 105, 106, 107, 108, 109, 110, 111, 112, 113, 114, 115, 116, 117, 118, 119, 120, 45, 46], tails := [] }, { id := 5007010, known := false, toks := [], items := [.slot 44 (.val .bool)], junk := [41, 42, 43], tails := [] }, { id := 5007011, known := false, toks := [], items := [], junk := [], tails := [] }, { id := 5007012, known := false, toks := [], items := [.slot 12 (.val (.int .i64))], junk := [48, 49, 50, 51, 52, 53, 47, 54, 55], tails := [] }, { id := 5007013, known := false, toks := [], items := [.slot 14 (.val (.int .i64))], junk := [57, 58, 59, 60, 61, 62, 56, 63, 64], tails := [] }, { id := 5007014, known := false, toks := [], items := [.slot 16 (.val (.int .i64))], junk := [66, 67, 68, 69, 70, 71, 65, 72, 73], tails := [] }, { id := 5007015, known := false, toks := [], items := [.slot 18 (.val (.int .i64))], junk := [75, 76, 77, 78, 79, 80, 74, 81, 82], tails := [] }, { id := 5007016, known := false, toks := [], items := [.slot 88 (.val .bool)], junk := [83, 84, 85, 86, 87], tails := [] }, { id := 5007017, known := false, toks := [], items := [], junk := [89, 90, 91, 92, 93, 94, 6], tails := [] }, { id := 5007018, known := true, toks := [], items := [.slot 94 (.val .bool)], junk := [89, 90, 91, 92, 93], tails := [] }, { id := 5007019, known := false, toks := [], items := [], junk := [6], tails := [] }, { id := 5007020, known := false, toks := [], items := [.slot 6 (.val .bool)], junk := [], tails := [] }, { id := 5007021, known := true, toks := [], items := [.slot 120 (.val .bool)], junk := [95, 96, 97, 98, 99, 100, 101, 102, 103, 104, 105, 106, 107, 108, 109, 110, 111, 112, 113, 114, 115, 116, 117, 118, 119], tails := [] }, { id := 5007022, known := false, toks := [], items := [], junk := [6], tails := [] }, { id := 5007023, known := false, toks := [], items := [.slot 6 (.val .bool)], junk := [], tails := [] }, { id := 5007024, known := false, toks := [], items := [.slot 10 (.val (.int .i64))], junk := [45, 46], tails := [] }, { id := 5007025, known := false, toks := [], items := [.slot 6 (.val .bool)], junk := [121], tails := [] }], [])
def spt7 : Tab (List LSpec × List Nat) := (.node (.node (.node (.node .leaf (some sp7_7) .leaf) none (.node (.node .leaf none (.node .leaf (some sp7_51) .leaf)) none (.node (.node .leaf (some sp7_43) .leaf) none .leaf))) none (.node (.node .leaf none (.node (.node .leaf (some sp7_41) .leaf) none (.node .leaf (some sp7_57) .leaf))) none (.node .leaf (some sp7_13) (.node (.node .leaf (some sp7_45) .leaf) (some sp7_29) .leaf)))) none (.node (.node .leaf (some sp7_4) (.node (.node (.node .leaf (some sp7_36) .leaf) none .leaf) none (.node (.node .leaf (some sp7_44) .leaf) none (.node .leaf (some sp7_60) .leaf)))) none (.node (.node (.node .leaf none (.node .leaf (some sp7_50) .leaf)) none (.node .leaf none (.node .leaf (some sp7_58) .leaf))) (some sp7_6) (.node (.node .leaf none (.node .leaf (some sp7_54) .leaf)) (some sp7_14) (.node (.node .leaf (some sp7_46) .leaf) (some sp7_30) .leaf)))))
def spf7 (f : Nat) : List LSpec × List Nat := (spt7.get f).getD ([], [])
theorem pd_law21_OrderBack : PureD Try.prog cfg 7 p_law21_OrderBack := fnD spf7 (l := [(13, p_law21_alive), (14, p_ref21_GreatUnits), (10, p_order_Perm), (11, p_order_Apply), (12, p_order_Undo), (20, p_ref21_SameCells)]) cfgOk cfgGlob (.cons pd_law21_alive (.cons pd_ref21_GreatUnits (.cons pd_order_Perm (.cons pd_order_Apply (.cons pd_order_Undo (.cons pd_ref21_SameCells .nil)))))) (fun d => by kernel_rfl)
end Go.Proofs.Ytfbabemgneaekaa
