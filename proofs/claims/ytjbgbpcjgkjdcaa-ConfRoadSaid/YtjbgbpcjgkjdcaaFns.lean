/- The functions of the program, as functions on plain data. -/
import Derived.Test.YtjbgbpcjgkjdcaaCfg
import Derived.Test.YtjbgbpcjgkjdcaaM5
import Derived.ProofKit
import Derived.Test.YtjbgbpcjgkjdcaaConfS
namespace Go.Proofs.Ytjbgbpcjgkjdcaa
open Go.Eng
set_option linter.unusedVariables false
set_option maxRecDepth 100000
def sp0 (f : Nat) : List LSpec × List Nat := ([], [])

/-- (thimblerig/conf.bound(int)).holds -/
noncomputable def conf_bound_int_holds (d0 : (Int) × ((Int) × ((Int) × (Unit)))) : Option (Bool) :=
 (bif (Dat.ile d0.2.1 d0.1) then some (Dat.pickB true (Dat.ile d0.1 d0.2.2.1) false)
 else some false)
noncomputable def p_conf_bound_int_holds : PFn := { args := [(.pair (.int .i64) (.pair (.int .i64) (.pair (.int .i64) .unit)))], res := [.bool], fn := conf_bound_int_holds }
theorem pd_conf_bound_int_holds : PureD Try.prog cfg 28 p_conf_bound_int_holds := fnD sp0 (l := []) cfgOk rfl .nil (fun d => by kernel_rfl)

/-- thimblerig/geo.Check -/
noncomputable def geo_Check (d0 : Int) : Option (Int) :=
 (bif (Dat.ilt d0 1) then some 2
 else (bif (Dat.pickB false true (Dat.igt d0 6)) then some 2
 else some 0))
noncomputable def p_geo_Check : PFn := { args := [(.int .i64)], res := [(.int .i64)], fn := geo_Check }
theorem pd_geo_Check : PureD Try.prog cfg 34 p_geo_Check := fnD sp0 (l := []) cfgOk rfl .nil (fun d => by kernel_rfl)

/-- thimblerig/geo.Leaves -/
noncomputable def geo_Leaves (d0 : Int) : Option ((Int) × (Int)) :=
 Dat.bind (geo_Check d0) fun (x1 : Int) =>
 (bif (Dat.ine x1 0) then some (0, x1)
 else if (Dat.Neg d0) then none
 else Dat.bnd (Dat.shl .i64 1 d0) fun (x4 : Int) =>
 some (x4, 0))
noncomputable def p_geo_Leaves : PFn := { args := [(.int .i64)], res := [(.int .i64), (.int .i64)], fn := geo_Leaves }
theorem pd_geo_Leaves : PureD Try.prog cfg 22 p_geo_Leaves := fnD sp0 (l := [(34, p_geo_Check)]) cfgOk rfl (.cons pd_geo_Check .nil) (fun d => by kernel_rfl)

/-- thimblerig/conf.high -/
noncomputable def conf_high (d0 : Int) : Option (Int) :=
 Dat.loop (fun (s1 : Int) k2 =>
 Dat.bind (geo_Leaves s1) fun (x3 : (Int) × (Int)) =>
 (bif (Dat.ine x3.2 0) then some s1
 else (bif (Dat.pickB false true (Dat.ige x3.1 d0)) then some s1
 else Dat.bnd (Dat.wrap .i64 (Dat.add s1 1)) fun (x4 : Int) =>
 k2 x4))) 1
noncomputable def p_conf_high : PFn := { args := [(.int .i64)], res := [(.int .i64)], fn := conf_high }
def sp40_40 : List LSpec × List Nat := ([{ id := 4000, known := true, toks := [], items := [.slot 3 (.val (.int .i64))], junk := [9, 10, 8, 11, 12, 4, 5, 13, 14, 15, 16, 17, 18, 19, 20, 2, 6, 7], tails := [] }], [])
def spt40 : Tab (List LSpec × List Nat) := (.node .leaf none (.node (.node (.node .leaf none (.node (.node .leaf (some sp40_40) .leaf) none .leaf)) none .leaf) none .leaf))
def spf40 (f : Nat) : List LSpec × List Nat := (spt40.get f).getD ([], [])
theorem pd_conf_high : PureD Try.prog cfg 40 p_conf_high := fnD spf40 (l := [(22, p_geo_Leaves)]) cfgOk rfl (.cons pd_geo_Leaves .nil) (fun d => by kernel_rfl)

/-- thimblerig/conf.level -/
noncomputable def conf_level (d0 : ((Int) × ((Int) × ((Int) × ((Int) × ((Int) × ((Int) × ((Int) × ((Int) × ((Int) × (Unit)))))))))) × ((Int) × (Int))) : Option ((Int) × ((Int) × ((Int) × ((Int) × (Unit))))) :=
 Dat.bnd (Dat.wrap .i64 (Dat.add 8 d0.2.2)) fun (x1 : Int) =>
 Dat.bnd (Dat.wrap .i64 (Dat.mul d0.1.2.2.2.1 x1)) fun (x2 : Int) =>
 Dat.bnd (Dat.wrap .i64 (Dat.add x2 64)) fun (x3 : Int) =>
 Dat.bind (conf_high d0.2.1) fun (x4 : Int) =>
 some (d0.2.1, (d0.2.2, (x4, (x3, ()))))
noncomputable def p_conf_level : PFn := { args := [(.pair (.int .i64) (.pair (.int .i64) (.pair (.int .i64) (.pair (.int .i64) (.pair (.int .i64) (.pair (.int .i64) (.pair (.int .i64) (.pair (.int .i64) (.pair (.int .i64) .unit))))))))), (.int .i64), (.int .i64)], res := [(.pair (.int .i64) (.pair (.int .i64) (.pair (.int .i64) (.pair (.int .i64) .unit))))], fn := conf_level }
theorem pd_conf_level : PureD Try.prog cfg 36 p_conf_level := fnD sp0 (l := [(40, p_conf_high)]) cfgOk rfl (.cons pd_conf_high .nil) (fun d => by kernel_rfl)

/-- thimblerig/conf.isLast -/
noncomputable def conf_isLast (d0 : ((Int) × ((Int) × ((Int) × ((Int) × ((Int) × ((Int) × ((Int) × ((Int) × ((Int) × (Unit)))))))))) × ((Int) × ((Int) × ((Int) × ((Int) × (Unit)))))) : Option (Bool) :=
 some (Dat.ile d0.2.1 d0.1.2.2.2.2.2.2.2.2.1)
noncomputable def p_conf_isLast : PFn := { args := [(.pair (.int .i64) (.pair (.int .i64) (.pair (.int .i64) (.pair (.int .i64) (.pair (.int .i64) (.pair (.int .i64) (.pair (.int .i64) (.pair (.int .i64) (.pair (.int .i64) .unit))))))))), (.pair (.int .i64) (.pair (.int .i64) (.pair (.int .i64) (.pair (.int .i64) .unit))))], res := [.bool], fn := conf_isLast }
theorem pd_conf_isLast : PureD Try.prog cfg 26 p_conf_isLast := fnD sp0 (l := []) cfgOk rfl .nil (fun d => by kernel_rfl)

/-- thimblerig/conf.Check -/
noncomputable def conf_Check (d0 : (Int) × ((Int) × ((Int) × ((Int) × ((Int) × ((Int) × ((Int) × ((Int) × ((Int) × (Unit)))))))))) : Option (Int) :=
 Dat.bind (conf_bounds (d0.1, (d0.2.1, (d0.2.2.1, (d0.2.2.2.1, (d0.2.2.2.2.1, (d0.2.2.2.2.2.1, (d0.2.2.2.2.2.2.1, (d0.2.2.2.2.2.2.2.1, (d0.2.2.2.2.2.2.2.2.1, ())))))))))) fun (x1 : List ((Int) × ((Int) × ((Int) × (Unit))))) =>
 Dat.loop (fun (s2 : Int) k3 =>
 (bif (Dat.ilt s2 9) then if (Dat.In s2 9) then Dat.bnd (Dat.get x1 (Dat.toN s2) (0, (0, (0, ())))) fun (x6 : (Int) × ((Int) × ((Int) × (Unit)))) =>
 Dat.bind (conf_bound_int_holds (x6.1, (x6.2.1, (x6.2.2.1, ())))) fun (x7 : Bool) =>
 (bif (Dat.bnot x7) then some 8
 else Dat.bnd (Dat.wrap .i64 (Dat.add s2 1)) fun (x8 : Int) =>
 k3 x8)
 else none
 else Dat.bind (conf_level ((d0.1, (d0.2.1, (d0.2.2.1, (d0.2.2.2.1, (d0.2.2.2.2.1, (d0.2.2.2.2.2.1, (d0.2.2.2.2.2.2.1, (d0.2.2.2.2.2.2.2.1, (d0.2.2.2.2.2.2.2.2.1, ()))))))))), (d0.1, d0.2.1))) fun (x9 : (Int) × ((Int) × ((Int) × ((Int) × (Unit))))) =>
 Dat.loop (fun (s10 : ((Int) × ((Int) × ((Int) × (Int)))) × (Int)) k11 =>
 Dat.bnd (Dat.wrap .i64 (Dat.add s10.2 1)) fun (x12 : Int) =>
 Dat.bind (conf_isLast ((d0.1, (d0.2.1, (d0.2.2.1, (d0.2.2.2.1, (d0.2.2.2.2.1, (d0.2.2.2.2.2.1, (d0.2.2.2.2.2.2.1, (d0.2.2.2.2.2.2.2.1, (d0.2.2.2.2.2.2.2.2.1, ()))))))))), (s10.1.1, (s10.1.2.1, (s10.1.2.2.1, (s10.1.2.2.2, ())))))) fun (x13 : Bool) =>
 (bif (Dat.pickB true (Dat.bnot x13) false) then Dat.bnd (Dat.wrap .i64 (Dat.add s10.1.1 d0.2.2.1)) fun (x14 : Int) =>
 Dat.bnd (Dat.wrap .i64 (Dat.sub x14 1)) fun (x15 : Int) =>
 if (Dat.IsZ d0.2.2.1) then none
 else Dat.bnd (Dat.wrap .i64 (Dat.tdiv x15 d0.2.2.1)) fun (x18 : Int) =>
 Dat.bnd (Dat.wrap .i64 (Dat.mul 4 d0.2.2.1)) fun (x19 : Int) =>
 Dat.bind (conf_level ((d0.1, (d0.2.1, (d0.2.2.1, (d0.2.2.2.1, (d0.2.2.2.2.1, (d0.2.2.2.2.2.1, (d0.2.2.2.2.2.2.1, (d0.2.2.2.2.2.2.2.1, (d0.2.2.2.2.2.2.2.2.1, ()))))))))), (x18, x19))) fun (x20 : (Int) × ((Int) × ((Int) × ((Int) × (Unit))))) =>
 k11 ((x20.1, (x20.2.1, (x20.2.2.1, x20.2.2.2.1))), x12)
 else (bif (Dat.igt x12 4) then some 8
 else some 0))) ((x9.1, (x9.2.1, (x9.2.2.1, x9.2.2.2.1))), 0))) 0
noncomputable def p_conf_Check : PFn := { args := [(.pair (.int .i64) (.pair (.int .i64) (.pair (.int .i64) (.pair (.int .i64) (.pair (.int .i64) (.pair (.int .i64) (.pair (.int .i64) (.pair (.int .i64) (.pair (.int .i64) .unit)))))))))], res := [(.int .i64)], fn := conf_Check }
def sp13_35 : List LSpec × List Nat := ([{ id := 3500, known := true, toks := [], items := [.cells 1000003 [.val (.int .i64), .val (.int .i64), .val (.int .i64), .val (.int .i64)], .cells 1 [.val (.int .i64)]], junk := [10, 11, 12, 13, 14, 15, 16, 17, 18, 19, 20, 21, 22, 23, 24, 25, 26, 27, 28, 29, 30, 31, 32], tails := [] }], [])
def sp13_13 : List LSpec × List Nat := ([{ id := 1300, known := true, toks := [], items := [.slot 8 (.val (.int .i64))], junk := [9, 10, 4, 11, 12, 13, 2, 14], tails := [] }], [])
def spt13 : Tab (List LSpec × List Nat) := (.node (.node (.node .leaf none (.node (.node (.node .leaf (some sp13_35) .leaf) none .leaf) none .leaf)) none (.node .leaf none (.node .leaf (some sp13_13) .leaf))) none .leaf)
def spf13 (f : Nat) : List LSpec × List Nat := (spt13.get f).getD ([], [])
theorem pd_conf_Check : PureD Try.prog cfg 13 p_conf_Check := fnD spf13 (l := [(27, p_conf_bounds), (28, p_conf_bound_int_holds), (36, p_conf_level), (26, p_conf_isLast)]) cfgOk rfl (.cons pd_conf_bounds (.cons pd_conf_bound_int_holds (.cons pd_conf_level (.cons pd_conf_isLast .nil)))) (fun d => by kernel_rfl)

/-- thimblerig/conf.Road -/
noncomputable def conf_Road (d0 : ((Int) × ((Int) × ((Int) × ((Int) × ((Int) × ((Int) × ((Int) × ((Int) × ((Int) × (Unit)))))))))) × (Int)) : Option ((List (Int)) × ((List (Int)) × (Int))) :=
 Dat.bind (conf_Check (d0.1.1, (d0.1.2.1, (d0.1.2.2.1, (d0.1.2.2.2.1, (d0.1.2.2.2.2.1, (d0.1.2.2.2.2.2.1, (d0.1.2.2.2.2.2.2.1, (d0.1.2.2.2.2.2.2.2.1, (d0.1.2.2.2.2.2.2.2.2.1, ())))))))))) fun (x1 : Int) =>
 (bif (Dat.ine x1 0) then some (([] : List (Int)), (([] : List (Int)), x1))
 else (bif (Dat.ilt d0.2 0) then some (([] : List (Int)), (([] : List (Int)), 261))
 else (bif (Dat.pickB false true (Dat.ige d0.2 d0.1.1)) then some (([] : List (Int)), (([] : List (Int)), 261))
 else Dat.bind (conf_level ((d0.1.1, (d0.1.2.1, (d0.1.2.2.1, (d0.1.2.2.2.1, (d0.1.2.2.2.2.1, (d0.1.2.2.2.2.2.1, (d0.1.2.2.2.2.2.2.1, (d0.1.2.2.2.2.2.2.2.1, (d0.1.2.2.2.2.2.2.2.2.1, ()))))))))), (d0.1.1, d0.1.2.1))) fun (x2 : (Int) × ((Int) × ((Int) × ((Int) × (Unit))))) =>
 if (Dat.EqN 0 (Dat.len ([] : List (Int)))) then if (Dat.EqN 0 (Dat.len ([] : List (Int)))) then Dat.loop (fun (s7 : ((Int) × ((Int) × ((Int) × (Int)))) × ((List (Int)) × ((List (Int)) × (Int)))) k8 =>
 if (Dat.Le (Dat.addN 0 1) (Dat.len (s7.2.2.2 :: ([] : List (Int))))) then if (Dat.Big (Dat.len s7.2.2.1) (Dat.len (Dat.seg (s7.2.2.2 :: ([] : List (Int))) 0 1)) 8) then none
 else if (Dat.EqN (Dat.len s7.2.2.1) (Dat.len s7.2.2.1)) then Dat.bnd (Dat.app s7.2.2.1 (Dat.seg (s7.2.2.2 :: ([] : List (Int))) 0 1)) fun (x15 : List (Int)) =>
 Dat.bind (conf_isLast ((d0.1.1, (d0.1.2.1, (d0.1.2.2.1, (d0.1.2.2.2.1, (d0.1.2.2.2.2.1, (d0.1.2.2.2.2.2.1, (d0.1.2.2.2.2.2.2.1, (d0.1.2.2.2.2.2.2.2.1, (d0.1.2.2.2.2.2.2.2.2.1, ()))))))))), (s7.1.1, (s7.1.2.1, (s7.1.2.2.1, (s7.1.2.2.2, ())))))) fun (x16 : Bool) =>
 (bif x16 then if (Dat.Le (Dat.addN 0 1) (Dat.len (s7.2.2.2 :: ([] : List (Int))))) then if (Dat.Big (Dat.len s7.2.1) (Dat.len (Dat.seg (s7.2.2.2 :: ([] : List (Int))) 0 1)) 8) then none
 else if (Dat.EqN (Dat.len s7.2.1) (Dat.len s7.2.1)) then Dat.bnd (Dat.app s7.2.1 (Dat.seg (s7.2.2.2 :: ([] : List (Int))) 0 1)) fun (x23 : List (Int)) =>
 Dat.bind (conf_isLast ((d0.1.1, (d0.1.2.1, (d0.1.2.2.1, (d0.1.2.2.2.1, (d0.1.2.2.2.2.1, (d0.1.2.2.2.2.2.1, (d0.1.2.2.2.2.2.2.1, (d0.1.2.2.2.2.2.2.2.1, (d0.1.2.2.2.2.2.2.2.2.1, ()))))))))), (s7.1.1, (s7.1.2.1, (s7.1.2.2.1, (s7.1.2.2.2, ())))))) fun (x24 : Bool) =>
 (bif (Dat.pickB true (Dat.bnot x24) false) then Dat.bnd (Dat.wrap .i64 (Dat.add s7.1.1 d0.1.2.2.1)) fun (x25 : Int) =>
 Dat.bnd (Dat.wrap .i64 (Dat.sub x25 1)) fun (x26 : Int) =>
 if (Dat.IsZ d0.1.2.2.1) then none
 else Dat.bnd (Dat.wrap .i64 (Dat.tdiv x26 d0.1.2.2.1)) fun (x29 : Int) =>
 Dat.bnd (Dat.wrap .i64 (Dat.mul 4 d0.1.2.2.1)) fun (x30 : Int) =>
 Dat.bind (conf_level ((d0.1.1, (d0.1.2.1, (d0.1.2.2.1, (d0.1.2.2.2.1, (d0.1.2.2.2.2.1, (d0.1.2.2.2.2.2.1, (d0.1.2.2.2.2.2.2.1, (d0.1.2.2.2.2.2.2.2.1, (d0.1.2.2.2.2.2.2.2.2.1, ()))))))))), (x29, x30))) fun (x31 : (Int) × ((Int) × ((Int) × ((Int) × (Unit))))) =>
 if (Dat.EqN (Dat.len x23) (Dat.len x23)) then if (Dat.EqN (Dat.len x15) (Dat.len x15)) then k8 ((x31.1, (x31.2.1, (x31.2.2.1, x31.2.2.2.1))), (x23, (x15, s7.2.2.2)))
 else none
 else none
 else some (x15, (x23, 0)))
 else none
 else none
 else if (Dat.IsZ d0.1.2.2.1) then none
 else Dat.bnd (Dat.tmod s7.2.2.2 d0.1.2.2.1) fun (x38 : Int) =>
 if (Dat.Le (Dat.addN 0 1) (Dat.len (x38 :: ([] : List (Int))))) then if (Dat.Big (Dat.len s7.2.1) (Dat.len (Dat.seg (x38 :: ([] : List (Int))) 0 1)) 8) then none
 else if (Dat.EqN (Dat.len s7.2.1) (Dat.len s7.2.1)) then Dat.bnd (Dat.app s7.2.1 (Dat.seg (x38 :: ([] : List (Int))) 0 1)) fun (x45 : List (Int)) =>
 if (Dat.IsZ d0.1.2.2.1) then none
 else Dat.bnd (Dat.wrap .i64 (Dat.tdiv s7.2.2.2 d0.1.2.2.1)) fun (x48 : Int) =>
 Dat.bind (conf_isLast ((d0.1.1, (d0.1.2.1, (d0.1.2.2.1, (d0.1.2.2.2.1, (d0.1.2.2.2.2.1, (d0.1.2.2.2.2.2.1, (d0.1.2.2.2.2.2.2.1, (d0.1.2.2.2.2.2.2.2.1, (d0.1.2.2.2.2.2.2.2.2.1, ()))))))))), (s7.1.1, (s7.1.2.1, (s7.1.2.2.1, (s7.1.2.2.2, ())))))) fun (x49 : Bool) =>
 (bif (Dat.pickB true (Dat.bnot x49) false) then Dat.bnd (Dat.wrap .i64 (Dat.add s7.1.1 d0.1.2.2.1)) fun (x50 : Int) =>
 Dat.bnd (Dat.wrap .i64 (Dat.sub x50 1)) fun (x51 : Int) =>
 if (Dat.IsZ d0.1.2.2.1) then none
 else Dat.bnd (Dat.wrap .i64 (Dat.tdiv x51 d0.1.2.2.1)) fun (x54 : Int) =>
 Dat.bnd (Dat.wrap .i64 (Dat.mul 4 d0.1.2.2.1)) fun (x55 : Int) =>
 Dat.bind (conf_level ((d0.1.1, (d0.1.2.1, (d0.1.2.2.1, (d0.1.2.2.2.1, (d0.1.2.2.2.2.1, (d0.1.2.2.2.2.2.1, (d0.1.2.2.2.2.2.2.1, (d0.1.2.2.2.2.2.2.2.1, (d0.1.2.2.2.2.2.2.2.2.1, ()))))))))), (x54, x55))) fun (x56 : (Int) × ((Int) × ((Int) × ((Int) × (Unit))))) =>
 if (Dat.EqN (Dat.len x45) (Dat.len x45)) then if (Dat.EqN (Dat.len x15) (Dat.len x15)) then k8 ((x56.1, (x56.2.1, (x56.2.2.1, x56.2.2.2.1))), (x45, (x15, x48)))
 else none
 else none
 else some (x15, (x45, 0)))
 else none
 else none)
 else none
 else none) ((x2.1, (x2.2.1, (x2.2.2.1, x2.2.2.2.1))), (([] : List (Int)), (([] : List (Int)), d0.2)))
 else none
 else none)))
noncomputable def p_conf_Road : PFn := { args := [(.pair (.int .i64) (.pair (.int .i64) (.pair (.int .i64) (.pair (.int .i64) (.pair (.int .i64) (.pair (.int .i64) (.pair (.int .i64) (.pair (.int .i64) (.pair (.int .i64) .unit))))))))), (.int .i64)], res := [(.list (.int .i64)), (.list (.int .i64)), (.int .i64)], fn := conf_Road }
def sp11_35 : List LSpec × List Nat := ([{ id := 3500, known := true, toks := [(2002000, (.int .i64)), (2001000, (.int .i64))], items := [.cells 1000003 [.val (.int .i64), .val (.int .i64), .val (.int .i64), .val (.int .i64)], .cells 2 [.slt (.int .i64) (some 2002000) false], .cells 1 [.slt (.int .i64) (some 2001000) false], .cells 3 [.val (.int .i64)]], junk := [10, 11, 12, 13, 14, 15, 16, 17, 18, 19, 20, 21, 22, 23, 24, 25, 26, 27, 28, 29, 30, 31, 32], tails := [(2002000, 2002000), (2001000, 2001000)] }], [])
def spt11 : Tab (List LSpec × List Nat) := (.node (.node (.node .leaf none (.node (.node (.node .leaf (some sp11_35) .leaf) none .leaf) none .leaf)) none .leaf) none .leaf)
def spf11 (f : Nat) : List LSpec × List Nat := (spt11.get f).getD ([], [])
theorem pd_conf_Road : PureD Try.prog cfg 11 p_conf_Road := fnD spf11 (l := [(13, p_conf_Check), (36, p_conf_level), (26, p_conf_isLast)]) cfgOk rfl (.cons pd_conf_Check (.cons pd_conf_level (.cons pd_conf_isLast .nil))) (fun d => by kernel_rfl)

/-- thimblerig/thimblerigref08.in -/
noncomputable def ref08_in (d0 : (Int) × ((Int) × (Int))) : Option (Bool) :=
 (bif (Dat.ige d0.1 d0.2.1) then some (Dat.pickB true (Dat.ile d0.1 d0.2.2) false)
 else some false)
noncomputable def p_ref08_in : PFn := { args := [(.int .i64), (.int .i64), (.int .i64)], res := [.bool], fn := ref08_in }
theorem pd_ref08_in : PureD Try.prog cfg 41 p_ref08_in := fnD sp0 (l := []) cfgOk rfl .nil (fun d => by kernel_rfl)

/-- thimblerig/thimblerigref08.numbers -/
noncomputable def ref08_numbers (d0 : (Int) × ((Int) × ((Int) × ((Int) × ((Int) × ((Int) × ((Int) × ((Int) × ((Int) × (Unit)))))))))) : Option (Bool) :=
 Dat.bind (ref08_in (d0.1, (1, 64))) fun (x1 : Bool) =>
 (bif x1 then Dat.bind (ref08_in (d0.2.1, (1, 32))) fun (x2 : Bool) =>
 (bif (Dat.pickB true x2 false) then Dat.bind (ref08_in (d0.2.2.1, (2, 8))) fun (x3 : Bool) =>
 (bif (Dat.pickB true x3 false) then Dat.bind (ref08_in (d0.2.2.2.1, (1, 4))) fun (x4 : Bool) =>
 (bif (Dat.pickB true x4 false) then Dat.bind (ref08_in (d0.2.2.2.2.1, (1, 64))) fun (x5 : Bool) =>
 (bif (Dat.pickB true x5 false) then Dat.bind (ref08_in (d0.2.2.2.2.2.1, (1, 8))) fun (x6 : Bool) =>
 (bif (Dat.pickB true x6 false) then Dat.bind (ref08_in (d0.2.2.2.2.2.2.1, (1, 4))) fun (x7 : Bool) =>
 (bif (Dat.pickB true x7 false) then Dat.bind (ref08_in (d0.2.2.2.2.2.2.2.1, (1, 16))) fun (x8 : Bool) =>
 (bif (Dat.pickB true x8 false) then Dat.bind (ref08_in (d0.2.2.2.2.2.2.2.2.1, (1, 16))) fun (x9 : Bool) =>
 some (Dat.pickB true x9 false)
 else some false)
 else some false)
 else some false)
 else some false)
 else some false)
 else some false)
 else some false)
 else some false)
noncomputable def p_ref08_numbers : PFn := { args := [(.pair (.int .i64) (.pair (.int .i64) (.pair (.int .i64) (.pair (.int .i64) (.pair (.int .i64) (.pair (.int .i64) (.pair (.int .i64) (.pair (.int .i64) (.pair (.int .i64) .unit)))))))))], res := [.bool], fn := ref08_numbers }
theorem pd_ref08_numbers : PureD Try.prog cfg 37 p_ref08_numbers := fnD sp0 (l := [(41, p_ref08_in)]) cfgOk rfl (.cons pd_ref08_in .nil) (fun d => by kernel_rfl)

/-- thimblerig/thimblerigref07.Many -/
noncomputable def ref07_Many (d0 : Int) : Option (Int) :=
 Dat.loop (fun (s1 : (Int) × (Int)) k2 =>
 (bif (Dat.ilt s1.2 d0) then Dat.bnd (Dat.wrap .i64 (Dat.mul 2 s1.1)) fun (x3 : Int) =>
 Dat.bnd (Dat.wrap .i64 (Dat.add s1.2 1)) fun (x4 : Int) =>
 k2 (x3, x4)
 else some s1.1)) (1, 0)
noncomputable def p_ref07_Many : PFn := { args := [(.int .i64)], res := [(.int .i64)], fn := ref07_Many }
def sp39_39 : List LSpec × List Nat := ([{ id := 3900, known := true, toks := [], items := [.slot 3 (.val (.int .i64)), .slot 4 (.val (.int .i64))], junk := [5, 6, 7, 10, 11, 8, 9], tails := [] }], [])
def spt39 : Tab (List LSpec × List Nat) := (.node (.node (.node (.node .leaf none (.node (.node .leaf (some sp39_39) .leaf) none .leaf)) none .leaf) none .leaf) none .leaf)
def spf39 (f : Nat) : List LSpec × List Nat := (spt39.get f).getD ([], [])
theorem pd_ref07_Many : PureD Try.prog cfg 39 p_ref07_Many := fnD spf39 (l := []) cfgOk rfl .nil (fun d => by kernel_rfl)

/-- thimblerig/thimblerigref08.high -/
noncomputable def ref08_high (d0 : Int) : Option (Int) :=
 Dat.loop (fun (s1 : Int) k2 =>
 Dat.bind (ref07_Many s1) fun (x3 : Int) =>
 (bif (Dat.ilt x3 d0) then Dat.bnd (Dat.wrap .i64 (Dat.add s1 1)) fun (x4 : Int) =>
 k2 x4
 else some s1)) 1
noncomputable def p_ref08_high : PFn := { args := [(.int .i64)], res := [(.int .i64)], fn := ref08_high }
def sp38_38 : List LSpec × List Nat := ([{ id := 3800, known := true, toks := [], items := [.slot 3 (.val (.int .i64))], junk := [4, 5, 6, 7, 8, 9], tails := [] }], [])
def spt38 : Tab (List LSpec × List Nat) := (.node .leaf none (.node .leaf none (.node .leaf none (.node (.node (.node .leaf (some sp38_38) .leaf) none .leaf) none .leaf))))
def spf38 (f : Nat) : List LSpec × List Nat := (spt38.get f).getD ([], [])
theorem pd_ref08_high : PureD Try.prog cfg 38 p_ref08_high := fnD spf38 (l := [(39, p_ref07_Many)]) cfgOk rfl (.cons pd_ref07_Many .nil) (fun d => by kernel_rfl)

/-- thimblerig/thimblerigref08.All -/
noncomputable def ref08_All (d0 : (Int) × ((Int) × ((Int) × ((Int) × ((Int) × ((Int) × ((Int) × ((Int) × ((Int) × (Unit)))))))))) : Option (List ((Int) × ((Int) × ((Int) × ((Int) × (Unit)))))) :=
 if (Dat.EqN 0 (Dat.len ([] : List ((Int) × ((Int) × ((Int) × ((Int) × (Unit)))))))) then Dat.loop (fun (s3 : (List ((Int) × ((Int) × ((Int) × ((Int) × (Unit)))))) × ((Int) × (Int))) k4 =>
 Dat.bnd (Dat.wrap .i64 (Dat.add 8 s3.2.2)) fun (x5 : Int) =>
 Dat.bnd (Dat.wrap .i64 (Dat.mul d0.2.2.2.1 x5)) fun (x6 : Int) =>
 Dat.bnd (Dat.wrap .i64 (Dat.add x6 64)) fun (x7 : Int) =>
 Dat.bind (ref08_high s3.2.1) fun (x8 : Int) =>
 if (Dat.Le (Dat.addN 0 1) (Dat.len ((s3.2.1, (s3.2.2, (x8, (x7, ())))) :: ([] : List ((Int) × ((Int) × ((Int) × ((Int) × (Unit))))))))) then if (Dat.Big (Dat.len s3.1) (Dat.len (Dat.seg ((s3.2.1, (s3.2.2, (x8, (x7, ())))) :: ([] : List ((Int) × ((Int) × ((Int) × ((Int) × (Unit))))))) 0 1)) 32) then none
 else if (Dat.EqN (Dat.len s3.1) (Dat.len s3.1)) then Dat.bnd (Dat.app s3.1 (Dat.seg ((s3.2.1, (s3.2.2, (x8, (x7, ())))) :: ([] : List ((Int) × ((Int) × ((Int) × ((Int) × (Unit))))))) 0 1)) fun (x15 : List ((Int) × ((Int) × ((Int) × ((Int) × (Unit)))))) =>
 (bif (Dat.ile s3.2.1 d0.2.2.2.2.2.2.2.2.1) then some x15
 else Dat.bnd (Dat.wrap .i64 (Dat.add s3.2.1 d0.2.2.1)) fun (x16 : Int) =>
 Dat.bnd (Dat.wrap .i64 (Dat.sub x16 1)) fun (x17 : Int) =>
 if (Dat.IsZ d0.2.2.1) then none
 else Dat.bnd (Dat.wrap .i64 (Dat.tdiv x17 d0.2.2.1)) fun (x20 : Int) =>
 Dat.bnd (Dat.wrap .i64 (Dat.mul 4 d0.2.2.1)) fun (x21 : Int) =>
 if (Dat.EqN (Dat.len x15) (Dat.len x15)) then k4 (x15, (x20, x21))
 else none)
 else none
 else none) (([] : List ((Int) × ((Int) × ((Int) × ((Int) × (Unit)))))), (d0.1, d0.2.1))
 else none
noncomputable def p_ref08_All : PFn := { args := [(.pair (.int .i64) (.pair (.int .i64) (.pair (.int .i64) (.pair (.int .i64) (.pair (.int .i64) (.pair (.int .i64) (.pair (.int .i64) (.pair (.int .i64) (.pair (.int .i64) .unit)))))))))], res := [(.list (.pair (.int .i64) (.pair (.int .i64) (.pair (.int .i64) (.pair (.int .i64) .unit)))))], fn := ref08_All }
def sp30_30 : List LSpec × List Nat := ([{ id := 3000, known := true, toks := [(3, (.pair (.int .i64) (.pair (.int .i64) (.pair (.int .i64) (.pair (.int .i64) .unit)))))], items := [.slot 3 (.slt (.pair (.int .i64) (.pair (.int .i64) (.pair (.int .i64) (.pair (.int .i64) .unit)))) (some 1000003) false), .slot 4 (.val (.int .i64)), .slot 5 (.val (.int .i64))], junk := [10, 11, 12, 13, 14, 15, 16, 17, 18, 19, 20, 21, 22, 23, 24, 25, 26, 27, 28, 2, 29, 30, 31, 32, 33, 34, 35, 36, 37, 38, 39], tails := [(1000003, 3)] }], [])
def spt30 : Tab (List LSpec × List Nat) := (.node .leaf none (.node .leaf none (.node .leaf none (.node .leaf none (.node .leaf (some sp30_30) .leaf)))))
def spf30 (f : Nat) : List LSpec × List Nat := (spt30.get f).getD ([], [])
theorem pd_ref08_All : PureD Try.prog cfg 30 p_ref08_All := fnD spf30 (l := [(38, p_ref08_high)]) cfgOk rfl (.cons pd_ref08_high .nil) (fun d => by kernel_rfl)

/-- thimblerig/thimblerigref08.May -/
noncomputable def ref08_May (d0 : (Int) × ((Int) × ((Int) × ((Int) × ((Int) × ((Int) × ((Int) × ((Int) × ((Int) × (Unit)))))))))) : Option (Bool) :=
 Dat.bind (ref08_numbers (d0.1, (d0.2.1, (d0.2.2.1, (d0.2.2.2.1, (d0.2.2.2.2.1, (d0.2.2.2.2.2.1, (d0.2.2.2.2.2.2.1, (d0.2.2.2.2.2.2.2.1, (d0.2.2.2.2.2.2.2.2.1, ())))))))))) fun (x1 : Bool) =>
 (bif x1 then Dat.bind (ref08_All (d0.1, (d0.2.1, (d0.2.2.1, (d0.2.2.2.1, (d0.2.2.2.2.1, (d0.2.2.2.2.2.1, (d0.2.2.2.2.2.2.1, (d0.2.2.2.2.2.2.2.1, (d0.2.2.2.2.2.2.2.2.1, ())))))))))) fun (x2 : List ((Int) × ((Int) × ((Int) × ((Int) × (Unit)))))) =>
 some (Dat.pickB true (Dat.ile (Dat.ofN (Dat.len x2)) 4) false)
 else some false)
noncomputable def p_ref08_May : PFn := { args := [(.pair (.int .i64) (.pair (.int .i64) (.pair (.int .i64) (.pair (.int .i64) (.pair (.int .i64) (.pair (.int .i64) (.pair (.int .i64) (.pair (.int .i64) (.pair (.int .i64) .unit)))))))))], res := [.bool], fn := ref08_May }
theorem pd_ref08_May : PureD Try.prog cfg 29 p_ref08_May := fnD sp0 (l := [(37, p_ref08_numbers), (30, p_ref08_All)]) cfgOk rfl (.cons pd_ref08_numbers (.cons pd_ref08_All .nil)) (fun d => by kernel_rfl)

/-- thimblerig/thimblerigref08.Way -/
noncomputable def ref08_Way (d0 : ((Int) × ((Int) × ((Int) × ((Int) × ((Int) × ((Int) × ((Int) × ((Int) × ((Int) × (Unit)))))))))) × (Int)) : Option ((List (Int)) × (List (Int))) :=
 Dat.bind (ref08_All (d0.1.1, (d0.1.2.1, (d0.1.2.2.1, (d0.1.2.2.2.1, (d0.1.2.2.2.2.1, (d0.1.2.2.2.2.2.1, (d0.1.2.2.2.2.2.2.1, (d0.1.2.2.2.2.2.2.2.1, (d0.1.2.2.2.2.2.2.2.2.1, ())))))))))) fun (x1 : List ((Int) × ((Int) × ((Int) × ((Int) × (Unit)))))) =>
 if (Dat.EqN 0 (Dat.len ([] : List (Int)))) then if (Dat.EqN 0 (Dat.len ([] : List (Int)))) then Dat.loop (fun (s6 : (List (Int)) × ((List (Int)) × ((Int) × (Int)))) k7 =>
 (bif (Dat.ilt s6.2.2.2 (Dat.ofN (Dat.len x1))) then if (Dat.Le (Dat.addN 0 1) (Dat.len (s6.2.2.1 :: ([] : List (Int))))) then if (Dat.Big (Dat.len s6.1) (Dat.len (Dat.seg (s6.2.2.1 :: ([] : List (Int))) 0 1)) 8) then none
 else if (Dat.EqN (Dat.len s6.1) (Dat.len s6.1)) then Dat.bnd (Dat.app s6.1 (Dat.seg (s6.2.2.1 :: ([] : List (Int))) 0 1)) fun (x14 : List (Int)) =>
 Dat.bnd (Dat.wrap .i64 (Dat.sub (Dat.ofN (Dat.len x1)) 1)) fun (x15 : Int) =>
 (bif (Dat.ieq s6.2.2.2 x15) then if (Dat.Le (Dat.addN 0 1) (Dat.len (s6.2.2.1 :: ([] : List (Int))))) then if (Dat.Big (Dat.len s6.2.1) (Dat.len (Dat.seg (s6.2.2.1 :: ([] : List (Int))) 0 1)) 8) then none
 else if (Dat.EqN (Dat.len s6.2.1) (Dat.len s6.2.1)) then Dat.bnd (Dat.app s6.2.1 (Dat.seg (s6.2.2.1 :: ([] : List (Int))) 0 1)) fun (x22 : List (Int)) =>
 if (Dat.IsZ d0.1.2.2.1) then none
 else Dat.bnd (Dat.wrap .i64 (Dat.tdiv s6.2.2.1 d0.1.2.2.1)) fun (x25 : Int) =>
 Dat.bnd (Dat.wrap .i64 (Dat.add s6.2.2.2 1)) fun (x26 : Int) =>
 if (Dat.EqN (Dat.len x14) (Dat.len x14)) then if (Dat.EqN (Dat.len x22) (Dat.len x22)) then k7 (x14, (x22, (x25, x26)))
 else none
 else none
 else none
 else none
 else if (Dat.IsZ d0.1.2.2.1) then none
 else Dat.bnd (Dat.tmod s6.2.2.1 d0.1.2.2.1) fun (x33 : Int) =>
 if (Dat.Le (Dat.addN 0 1) (Dat.len (x33 :: ([] : List (Int))))) then if (Dat.Big (Dat.len s6.2.1) (Dat.len (Dat.seg (x33 :: ([] : List (Int))) 0 1)) 8) then none
 else if (Dat.EqN (Dat.len s6.2.1) (Dat.len s6.2.1)) then Dat.bnd (Dat.app s6.2.1 (Dat.seg (x33 :: ([] : List (Int))) 0 1)) fun (x40 : List (Int)) =>
 if (Dat.IsZ d0.1.2.2.1) then none
 else Dat.bnd (Dat.wrap .i64 (Dat.tdiv s6.2.2.1 d0.1.2.2.1)) fun (x43 : Int) =>
 Dat.bnd (Dat.wrap .i64 (Dat.add s6.2.2.2 1)) fun (x44 : Int) =>
 if (Dat.EqN (Dat.len x14) (Dat.len x14)) then if (Dat.EqN (Dat.len x40) (Dat.len x40)) then k7 (x14, (x40, (x43, x44)))
 else none
 else none
 else none
 else none)
 else none
 else none
 else some (s6.1, s6.2.1))) (([] : List (Int)), (([] : List (Int)), (d0.2, 0)))
 else none
 else none
noncomputable def p_ref08_Way : PFn := { args := [(.pair (.int .i64) (.pair (.int .i64) (.pair (.int .i64) (.pair (.int .i64) (.pair (.int .i64) (.pair (.int .i64) (.pair (.int .i64) (.pair (.int .i64) (.pair (.int .i64) .unit))))))))), (.int .i64)], res := [(.list (.int .i64)), (.list (.int .i64))], fn := ref08_Way }
def sp33_33 : List LSpec × List Nat := ([{ id := 3300, known := true, toks := [(6, (.int .i64)), (7, (.int .i64))], items := [.slot 6 (.slt (.int .i64) (some 1000006) false), .slot 7 (.slt (.int .i64) (some 1000007) false), .slot 9 (.val (.int .i64)), .slot 10 (.val (.int .i64))], junk := [15, 16, 17, 20, 21, 22, 23, 24, 25, 26, 27, 28, 29, 30, 31, 32, 33, 34, 35, 36, 37, 38, 39, 40, 41, 42, 18, 19], tails := [(1000006, 6), (1000007, 7)] }], [])
def spt33 : Tab (List LSpec × List Nat) := (.node (.node .leaf none (.node (.node (.node (.node .leaf (some sp33_33) .leaf) none .leaf) none .leaf) none .leaf)) none .leaf)
def spf33 (f : Nat) : List LSpec × List Nat := (spt33.get f).getD ([], [])
theorem pd_ref08_Way : PureD Try.prog cfg 33 p_ref08_Way := fnD spf33 (l := [(30, p_ref08_All)]) cfgOk rfl (.cons pd_ref08_All .nil) (fun d => by kernel_rfl)

/-- thimblerig/thimblerigref08.Road -/
noncomputable def ref08_Road (d0 : ((Int) × ((Int) × ((Int) × ((Int) × ((Int) × ((Int) × ((Int) × ((Int) × ((Int) × (Unit)))))))))) × (Int)) : Option ((List (Int)) × ((List (Int)) × (Int))) :=
 Dat.bind (ref08_May (d0.1.1, (d0.1.2.1, (d0.1.2.2.1, (d0.1.2.2.2.1, (d0.1.2.2.2.2.1, (d0.1.2.2.2.2.2.1, (d0.1.2.2.2.2.2.2.1, (d0.1.2.2.2.2.2.2.2.1, (d0.1.2.2.2.2.2.2.2.2.1, ())))))))))) fun (x1 : Bool) =>
 (bif (Dat.bnot x1) then some (([] : List (Int)), (([] : List (Int)), 8))
 else (bif (Dat.ilt d0.2 0) then some (([] : List (Int)), (([] : List (Int)), 261))
 else (bif (Dat.pickB false true (Dat.ige d0.2 d0.1.1)) then some (([] : List (Int)), (([] : List (Int)), 261))
 else Dat.bind (ref08_Way ((d0.1.1, (d0.1.2.1, (d0.1.2.2.1, (d0.1.2.2.2.1, (d0.1.2.2.2.2.1, (d0.1.2.2.2.2.2.1, (d0.1.2.2.2.2.2.2.1, (d0.1.2.2.2.2.2.2.2.1, (d0.1.2.2.2.2.2.2.2.2.1, ()))))))))), d0.2)) fun (x2 : (List (Int)) × (List (Int))) =>
 some (x2.1, (x2.2, 0)))))
noncomputable def p_ref08_Road : PFn := { args := [(.pair (.int .i64) (.pair (.int .i64) (.pair (.int .i64) (.pair (.int .i64) (.pair (.int .i64) (.pair (.int .i64) (.pair (.int .i64) (.pair (.int .i64) (.pair (.int .i64) .unit))))))))), (.int .i64)], res := [(.list (.int .i64)), (.list (.int .i64)), (.int .i64)], fn := ref08_Road }
theorem pd_ref08_Road : PureD Try.prog cfg 20 p_ref08_Road := fnD sp0 (l := [(29, p_ref08_May), (33, p_ref08_Way)]) cfgOk rfl (.cons pd_ref08_May (.cons pd_ref08_Way .nil)) (fun d => by kernel_rfl)

/-- thimblerig/thimblerigref01.SameInts -/
noncomputable def ref01_SameInts (d0 : (List (Int)) × (List (Int))) : Option (Bool) :=
 (bif (Dat.ine (Dat.ofN (Dat.len d0.1)) (Dat.ofN (Dat.len d0.2))) then some false
 else Dat.loop (fun (s1 : Int) k2 =>
 (bif (Dat.ilt s1 (Dat.ofN (Dat.len d0.1))) then if (Dat.Ix s1 (Dat.len d0.1)) then Dat.bnd (Dat.get d0.1 (Dat.toN s1) 0) fun (x5 : Int) =>
 if (Dat.Ix s1 (Dat.len d0.2)) then Dat.bnd (Dat.get d0.2 (Dat.toN s1) 0) fun (x8 : Int) =>
 (bif (Dat.ine x5 x8) then some false
 else Dat.bnd (Dat.wrap .i64 (Dat.add s1 1)) fun (x9 : Int) =>
 k2 x9)
 else none
 else none
 else some true)) 0)
noncomputable def p_ref01_SameInts : PFn := { args := [(.list (.int .i64)), (.list (.int .i64))], res := [.bool], fn := ref01_SameInts }
def sp21_21 : List LSpec × List Nat := ([{ id := 2100, known := true, toks := [], items := [.slot 5 (.val (.int .i64))], junk := [11, 12, 13, 14, 17, 18, 19, 20, 21, 22, 23, 24, 25, 4, 15, 16], tails := [] }], [])
def spt21 : Tab (List LSpec × List Nat) := (.node (.node .leaf none (.node .leaf none (.node (.node .leaf (some sp21_21) .leaf) none .leaf))) none .leaf)
def spf21 (f : Nat) : List LSpec × List Nat := (spt21.get f).getD ([], [])
theorem pd_ref01_SameInts : PureD Try.prog cfg 21 p_ref01_SameInts := fnD spf21 (l := []) cfgOk rfl .nil (fun d => by kernel_rfl)

/-- thimblerig/thimbleriglaw08.ConfRoads -/
noncomputable def law08_ConfRoads (d0 : ((Int) × ((Int) × ((Int) × ((Int) × ((Int) × ((Int) × ((Int) × ((Int) × ((Int) × (Unit)))))))))) × (Int)) : Option (Bool) :=
 Dat.bind (conf_Road ((d0.1.1, (d0.1.2.1, (d0.1.2.2.1, (d0.1.2.2.2.1, (d0.1.2.2.2.2.1, (d0.1.2.2.2.2.2.1, (d0.1.2.2.2.2.2.2.1, (d0.1.2.2.2.2.2.2.2.1, (d0.1.2.2.2.2.2.2.2.2.1, ()))))))))), d0.2)) fun (x1 : (List (Int)) × ((List (Int)) × (Int))) =>
 Dat.bind (ref08_Road ((d0.1.1, (d0.1.2.1, (d0.1.2.2.1, (d0.1.2.2.2.1, (d0.1.2.2.2.2.1, (d0.1.2.2.2.2.2.1, (d0.1.2.2.2.2.2.2.1, (d0.1.2.2.2.2.2.2.2.1, (d0.1.2.2.2.2.2.2.2.2.1, ()))))))))), d0.2)) fun (x2 : (List (Int)) × ((List (Int)) × (Int))) =>
 Dat.bind (ref01_SameInts (x1.1, x2.1)) fun (x3 : Bool) =>
 (bif x3 then Dat.bind (ref01_SameInts (x1.2.1, x2.2.1)) fun (x4 : Bool) =>
 (bif (Dat.pickB true x4 false) then some (Dat.pickB true (Dat.ieq x1.2.2 x2.2.2) false)
 else some false)
 else some false)
noncomputable def p_law08_ConfRoads : PFn := { args := [(.pair (.int .i64) (.pair (.int .i64) (.pair (.int .i64) (.pair (.int .i64) (.pair (.int .i64) (.pair (.int .i64) (.pair (.int .i64) (.pair (.int .i64) (.pair (.int .i64) .unit))))))))), (.int .i64)], res := [.bool], fn := law08_ConfRoads }
theorem pd_law08_ConfRoads : PureD Try.prog cfg 5 p_law08_ConfRoads := fnD sp0 (l := [(11, p_conf_Road), (20, p_ref08_Road), (21, p_ref01_SameInts)]) cfgOk rfl (.cons pd_conf_Road (.cons pd_ref08_Road (.cons pd_ref01_SameInts .nil))) (fun d => by kernel_rfl)

/-- thimblerig/conf.Levels -/
noncomputable def conf_Levels (d0 : (Int) × ((Int) × ((Int) × ((Int) × ((Int) × ((Int) × ((Int) × ((Int) × ((Int) × (Unit)))))))))) : Option ((List ((Int) × ((Int) × ((Int) × ((Int) × (Unit)))))) × (Int)) :=
 Dat.bind (conf_Check (d0.1, (d0.2.1, (d0.2.2.1, (d0.2.2.2.1, (d0.2.2.2.2.1, (d0.2.2.2.2.2.1, (d0.2.2.2.2.2.2.1, (d0.2.2.2.2.2.2.2.1, (d0.2.2.2.2.2.2.2.2.1, ())))))))))) fun (x1 : Int) =>
 (bif (Dat.ine x1 0) then some (([] : List ((Int) × ((Int) × ((Int) × ((Int) × (Unit)))))), x1)
 else if (Dat.MkOk 0 4 32) then Dat.bind (conf_level ((d0.1, (d0.2.1, (d0.2.2.1, (d0.2.2.2.1, (d0.2.2.2.2.1, (d0.2.2.2.2.2.1, (d0.2.2.2.2.2.2.1, (d0.2.2.2.2.2.2.2.1, (d0.2.2.2.2.2.2.2.2.1, ()))))))))), (d0.1, d0.2.1))) fun (x4 : (Int) × ((Int) × ((Int) × ((Int) × (Unit))))) =>
 if (Dat.EqN (Dat.toN 0) 0) then if (Dat.EqN 0 (Dat.len ([] : List ((Int) × ((Int) × ((Int) × ((Int) × (Unit)))))))) then Dat.loop (fun (s9 : ((Int) × ((Int) × ((Int) × (Int)))) × (List ((Int) × ((Int) × ((Int) × ((Int) × (Unit))))))) k10 =>
 if (Dat.Le (Dat.addN 0 1) (Dat.len ((s9.1.1, (s9.1.2.1, (s9.1.2.2.1, (s9.1.2.2.2, ())))) :: ([] : List ((Int) × ((Int) × ((Int) × ((Int) × (Unit))))))))) then if (Dat.Big (Dat.len s9.2) (Dat.len (Dat.seg ((s9.1.1, (s9.1.2.1, (s9.1.2.2.1, (s9.1.2.2.2, ())))) :: ([] : List ((Int) × ((Int) × ((Int) × ((Int) × (Unit))))))) 0 1)) 32) then none
 else if (Dat.EqN (Dat.len s9.2) (Dat.len s9.2)) then Dat.bnd (Dat.app s9.2 (Dat.seg ((s9.1.1, (s9.1.2.1, (s9.1.2.2.1, (s9.1.2.2.2, ())))) :: ([] : List ((Int) × ((Int) × ((Int) × ((Int) × (Unit))))))) 0 1)) fun (x17 : List ((Int) × ((Int) × ((Int) × ((Int) × (Unit)))))) =>
 Dat.bind (conf_isLast ((d0.1, (d0.2.1, (d0.2.2.1, (d0.2.2.2.1, (d0.2.2.2.2.1, (d0.2.2.2.2.2.1, (d0.2.2.2.2.2.2.1, (d0.2.2.2.2.2.2.2.1, (d0.2.2.2.2.2.2.2.2.1, ()))))))))), (s9.1.1, (s9.1.2.1, (s9.1.2.2.1, (s9.1.2.2.2, ())))))) fun (x18 : Bool) =>
 (bif (Dat.pickB true (Dat.bnot x18) false) then Dat.bnd (Dat.wrap .i64 (Dat.add s9.1.1 d0.2.2.1)) fun (x19 : Int) =>
 Dat.bnd (Dat.wrap .i64 (Dat.sub x19 1)) fun (x20 : Int) =>
 if (Dat.IsZ d0.2.2.1) then none
 else Dat.bnd (Dat.wrap .i64 (Dat.tdiv x20 d0.2.2.1)) fun (x23 : Int) =>
 Dat.bnd (Dat.wrap .i64 (Dat.mul 4 d0.2.2.1)) fun (x24 : Int) =>
 Dat.bind (conf_level ((d0.1, (d0.2.1, (d0.2.2.1, (d0.2.2.2.1, (d0.2.2.2.2.1, (d0.2.2.2.2.2.1, (d0.2.2.2.2.2.2.1, (d0.2.2.2.2.2.2.2.1, (d0.2.2.2.2.2.2.2.2.1, ()))))))))), (x23, x24))) fun (x25 : (Int) × ((Int) × ((Int) × ((Int) × (Unit))))) =>
 if (Dat.EqN (Dat.len x17) (Dat.len x17)) then k10 ((x25.1, (x25.2.1, (x25.2.2.1, x25.2.2.2.1))), x17)
 else none
 else some (x17, 0))
 else none
 else none) ((x4.1, (x4.2.1, (x4.2.2.1, x4.2.2.2.1))), ([] : List ((Int) × ((Int) × ((Int) × ((Int) × (Unit)))))))
 else none
 else none
 else none)
noncomputable def p_conf_Levels : PFn := { args := [(.pair (.int .i64) (.pair (.int .i64) (.pair (.int .i64) (.pair (.int .i64) (.pair (.int .i64) (.pair (.int .i64) (.pair (.int .i64) (.pair (.int .i64) (.pair (.int .i64) .unit)))))))))], res := [(.list (.pair (.int .i64) (.pair (.int .i64) (.pair (.int .i64) (.pair (.int .i64) .unit))))), (.int .i64)], fn := conf_Levels }
def sp14_35 : List LSpec × List Nat := ([{ id := 3500, known := true, toks := [(2002000, (.pair (.int .i64) (.pair (.int .i64) (.pair (.int .i64) (.pair (.int .i64) .unit)))))], items := [.cells 1000003 [.val (.int .i64), .val (.int .i64), .val (.int .i64), .val (.int .i64)], .cells 2 [.slt (.pair (.int .i64) (.pair (.int .i64) (.pair (.int .i64) (.pair (.int .i64) .unit)))) (some 2002000) false]], junk := [10, 11, 12, 13, 14, 15, 16, 17, 18, 19, 20, 21, 22, 23, 24, 25, 26, 27, 28, 29, 30, 31, 32], tails := [(2002000, 2002000)] }], [])
def spt14 : Tab (List LSpec × List Nat) := (.node (.node (.node .leaf none (.node (.node (.node .leaf (some sp14_35) .leaf) none .leaf) none .leaf)) none .leaf) none .leaf)
def spf14 (f : Nat) : List LSpec × List Nat := (spt14.get f).getD ([], [])
theorem pd_conf_Levels : PureD Try.prog cfg 14 p_conf_Levels := fnD spf14 (l := [(13, p_conf_Check), (36, p_conf_level), (26, p_conf_isLast)]) cfgOk rfl (.cons pd_conf_Check (.cons pd_conf_level (.cons pd_conf_isLast .nil))) (fun d => by kernel_rfl)

/-- thimblerig/thimblerigref08.Levels -/
noncomputable def ref08_Levels (d0 : (Int) × ((Int) × ((Int) × ((Int) × ((Int) × ((Int) × ((Int) × ((Int) × ((Int) × (Unit)))))))))) : Option ((List ((Int) × ((Int) × ((Int) × ((Int) × (Unit)))))) × (Int)) :=
 Dat.bind (ref08_May (d0.1, (d0.2.1, (d0.2.2.1, (d0.2.2.2.1, (d0.2.2.2.2.1, (d0.2.2.2.2.2.1, (d0.2.2.2.2.2.2.1, (d0.2.2.2.2.2.2.2.1, (d0.2.2.2.2.2.2.2.2.1, ())))))))))) fun (x1 : Bool) =>
 (bif (Dat.bnot x1) then some (([] : List ((Int) × ((Int) × ((Int) × ((Int) × (Unit)))))), 8)
 else Dat.bind (ref08_All (d0.1, (d0.2.1, (d0.2.2.1, (d0.2.2.2.1, (d0.2.2.2.2.1, (d0.2.2.2.2.2.1, (d0.2.2.2.2.2.2.1, (d0.2.2.2.2.2.2.2.1, (d0.2.2.2.2.2.2.2.2.1, ())))))))))) fun (x2 : List ((Int) × ((Int) × ((Int) × ((Int) × (Unit)))))) =>
 some (x2, 0))
noncomputable def p_ref08_Levels : PFn := { args := [(.pair (.int .i64) (.pair (.int .i64) (.pair (.int .i64) (.pair (.int .i64) (.pair (.int .i64) (.pair (.int .i64) (.pair (.int .i64) (.pair (.int .i64) (.pair (.int .i64) .unit)))))))))], res := [(.list (.pair (.int .i64) (.pair (.int .i64) (.pair (.int .i64) (.pair (.int .i64) .unit))))), (.int .i64)], fn := ref08_Levels }
theorem pd_ref08_Levels : PureD Try.prog cfg 15 p_ref08_Levels := fnD sp0 (l := [(29, p_ref08_May), (30, p_ref08_All)]) cfgOk rfl (.cons pd_ref08_May (.cons pd_ref08_All .nil)) (fun d => by kernel_rfl)

/-- thimblerig/conf.Width -/
noncomputable def conf_Width (d0 : (Int) × ((Int) × ((Int) × ((Int) × ((Int) × ((Int) × ((Int) × ((Int) × ((Int) × (Unit)))))))))) : Option ((Int) × (Int)) :=
 Dat.bind (conf_Check (d0.1, (d0.2.1, (d0.2.2.1, (d0.2.2.2.1, (d0.2.2.2.2.1, (d0.2.2.2.2.2.1, (d0.2.2.2.2.2.2.1, (d0.2.2.2.2.2.2.2.1, (d0.2.2.2.2.2.2.2.2.1, ())))))))))) fun (x1 : Int) =>
 (bif (Dat.ine x1 0) then some (0, x1)
 else Dat.bind (conf_level ((d0.1, (d0.2.1, (d0.2.2.1, (d0.2.2.2.1, (d0.2.2.2.2.1, (d0.2.2.2.2.2.1, (d0.2.2.2.2.2.2.1, (d0.2.2.2.2.2.2.2.1, (d0.2.2.2.2.2.2.2.2.1, ()))))))))), (d0.1, d0.2.1))) fun (x2 : (Int) × ((Int) × ((Int) × ((Int) × (Unit))))) =>
 Dat.loop (fun (s3 : ((Int) × ((Int) × ((Int) × (Int)))) × (Int)) k4 =>
 Dat.bind (conf_isLast ((d0.1, (d0.2.1, (d0.2.2.1, (d0.2.2.2.1, (d0.2.2.2.2.1, (d0.2.2.2.2.2.1, (d0.2.2.2.2.2.2.1, (d0.2.2.2.2.2.2.2.1, (d0.2.2.2.2.2.2.2.2.1, ()))))))))), (s3.1.1, (s3.1.2.1, (s3.1.2.2.1, (s3.1.2.2.2, ())))))) fun (x5 : Bool) =>
 (bif (Dat.pickB true (Dat.bnot x5) false) then Dat.bnd (Dat.wrap .i64 (Dat.add s3.1.1 d0.2.2.1)) fun (x6 : Int) =>
 Dat.bnd (Dat.wrap .i64 (Dat.sub x6 1)) fun (x7 : Int) =>
 if (Dat.IsZ d0.2.2.1) then none
 else Dat.bnd (Dat.wrap .i64 (Dat.tdiv x7 d0.2.2.1)) fun (x10 : Int) =>
 Dat.bnd (Dat.wrap .i64 (Dat.mul 4 d0.2.2.1)) fun (x11 : Int) =>
 Dat.bind (conf_level ((d0.1, (d0.2.1, (d0.2.2.1, (d0.2.2.2.1, (d0.2.2.2.2.1, (d0.2.2.2.2.2.1, (d0.2.2.2.2.2.2.1, (d0.2.2.2.2.2.2.2.1, (d0.2.2.2.2.2.2.2.2.1, ()))))))))), (x10, x11))) fun (x12 : (Int) × ((Int) × ((Int) × ((Int) × (Unit))))) =>
 k4 ((x12.1, (x12.2.1, (x12.2.2.1, x12.2.2.2.1))), (Dat.imax true s3.2 s3.1.2.2.2))
 else some ((Dat.imax true s3.2 s3.1.2.2.2), 0))) ((x2.1, (x2.2.1, (x2.2.2.1, x2.2.2.2.1))), 0))
noncomputable def p_conf_Width : PFn := { args := [(.pair (.int .i64) (.pair (.int .i64) (.pair (.int .i64) (.pair (.int .i64) (.pair (.int .i64) (.pair (.int .i64) (.pair (.int .i64) (.pair (.int .i64) (.pair (.int .i64) .unit)))))))))], res := [(.int .i64), (.int .i64)], fn := conf_Width }
def sp8_35 : List LSpec × List Nat := ([{ id := 3500, known := true, toks := [], items := [.cells 1000003 [.val (.int .i64), .val (.int .i64), .val (.int .i64), .val (.int .i64)], .cells 1 [.val (.int .i64)]], junk := [10, 11, 12, 13, 14, 15, 16, 17, 18, 19, 20, 21, 22, 23, 24, 25, 26, 27, 28, 29, 30, 31, 32], tails := [] }], [])
def spt8 : Tab (List LSpec × List Nat) := (.node (.node (.node .leaf none (.node (.node (.node .leaf (some sp8_35) .leaf) none .leaf) none .leaf)) none .leaf) none .leaf)
def spf8 (f : Nat) : List LSpec × List Nat := (spt8.get f).getD ([], [])
theorem pd_conf_Width : PureD Try.prog cfg 8 p_conf_Width := fnD spf8 (l := [(13, p_conf_Check), (36, p_conf_level), (26, p_conf_isLast)]) cfgOk rfl (.cons pd_conf_Check (.cons pd_conf_level (.cons pd_conf_isLast .nil))) (fun d => by kernel_rfl)

/-- thimblerig/thimblerigref08.Widest -/
noncomputable def ref08_Widest (d0 : (Int) × ((Int) × ((Int) × ((Int) × ((Int) × ((Int) × ((Int) × ((Int) × ((Int) × (Unit)))))))))) : Option (Int) :=
 Dat.bind (ref08_All (d0.1, (d0.2.1, (d0.2.2.1, (d0.2.2.2.1, (d0.2.2.2.2.1, (d0.2.2.2.2.2.1, (d0.2.2.2.2.2.2.1, (d0.2.2.2.2.2.2.2.1, (d0.2.2.2.2.2.2.2.2.1, ())))))))))) fun (x1 : List ((Int) × ((Int) × ((Int) × ((Int) × (Unit)))))) =>
 Dat.loop (fun (s2 : (Int) × (Int)) k3 =>
 (bif (Dat.ilt s2.2 (Dat.ofN (Dat.len x1))) then if (Dat.Ix s2.2 (Dat.len x1)) then Dat.bnd (Dat.get x1 (Dat.toN s2.2) (0, (0, (0, (0, ()))))) fun (x6 : (Int) × ((Int) × ((Int) × ((Int) × (Unit))))) =>
 Dat.bnd (Dat.wrap .i64 (Dat.add s2.2 1)) fun (x7 : Int) =>
 k3 ((Dat.imax true s2.1 x6.2.2.2.1), x7)
 else none
 else some s2.1)) (0, 0)
noncomputable def p_ref08_Widest : PFn := { args := [(.pair (.int .i64) (.pair (.int .i64) (.pair (.int .i64) (.pair (.int .i64) (.pair (.int .i64) (.pair (.int .i64) (.pair (.int .i64) (.pair (.int .i64) (.pair (.int .i64) .unit)))))))))], res := [(.int .i64)], fn := ref08_Widest }
def sp31_31 : List LSpec × List Nat := ([{ id := 3100, known := true, toks := [], items := [.slot 3 (.val (.int .i64)), .slot 5 (.val (.int .i64))], junk := [8, 9, 10, 11, 14, 15, 16, 17, 18, 19, 20, 12, 13], tails := [] }], [])
def spt31 : Tab (List LSpec × List Nat) := (.node (.node (.node (.node (.node (.node .leaf (some sp31_31) .leaf) none .leaf) none .leaf) none .leaf) none .leaf) none .leaf)
def spf31 (f : Nat) : List LSpec × List Nat := (spt31.get f).getD ([], [])
theorem pd_ref08_Widest : PureD Try.prog cfg 31 p_ref08_Widest := fnD spf31 (l := [(30, p_ref08_All)]) cfgOk rfl (.cons pd_ref08_All .nil) (fun d => by kernel_rfl)

/-- thimblerig/thimblerigref08.Width -/
noncomputable def ref08_Width (d0 : (Int) × ((Int) × ((Int) × ((Int) × ((Int) × ((Int) × ((Int) × ((Int) × ((Int) × (Unit)))))))))) : Option ((Int) × (Int)) :=
 Dat.bind (ref08_May (d0.1, (d0.2.1, (d0.2.2.1, (d0.2.2.2.1, (d0.2.2.2.2.1, (d0.2.2.2.2.2.1, (d0.2.2.2.2.2.2.1, (d0.2.2.2.2.2.2.2.1, (d0.2.2.2.2.2.2.2.2.1, ())))))))))) fun (x1 : Bool) =>
 (bif (Dat.bnot x1) then some (0, 8)
 else Dat.bind (ref08_Widest (d0.1, (d0.2.1, (d0.2.2.1, (d0.2.2.2.1, (d0.2.2.2.2.1, (d0.2.2.2.2.2.1, (d0.2.2.2.2.2.2.1, (d0.2.2.2.2.2.2.2.1, (d0.2.2.2.2.2.2.2.2.1, ())))))))))) fun (x2 : Int) =>
 some (x2, 0))
noncomputable def p_ref08_Width : PFn := { args := [(.pair (.int .i64) (.pair (.int .i64) (.pair (.int .i64) (.pair (.int .i64) (.pair (.int .i64) (.pair (.int .i64) (.pair (.int .i64) (.pair (.int .i64) (.pair (.int .i64) .unit)))))))))], res := [(.int .i64), (.int .i64)], fn := ref08_Width }
theorem pd_ref08_Width : PureD Try.prog cfg 16 p_ref08_Width := fnD sp0 (l := [(29, p_ref08_May), (31, p_ref08_Widest)]) cfgOk rfl (.cons pd_ref08_May (.cons pd_ref08_Widest .nil)) (fun d => by kernel_rfl)

/-- thimblerig/geo.Buckets -/
noncomputable def geo_Buckets (d0 : Int) : Option ((Int) × (Int)) :=
 Dat.bind (geo_Check d0) fun (x1 : Int) =>
 (bif (Dat.ine x1 0) then some (0, x1)
 else if (Dat.Neg d0) then none
 else Dat.bnd (Dat.shl .i64 2 d0) fun (x4 : Int) =>
 Dat.bnd (Dat.wrap .i64 (Dat.sub x4 1)) fun (x5 : Int) =>
 some (x5, 0))
noncomputable def p_geo_Buckets : PFn := { args := [(.int .i64)], res := [(.int .i64), (.int .i64)], fn := geo_Buckets }
theorem pd_geo_Buckets : PureD Try.prog cfg 24 p_geo_Buckets := fnD sp0 (l := [(34, p_geo_Check)]) cfgOk rfl (.cons pd_geo_Check .nil) (fun d => by kernel_rfl)

/-- thimblerig/conf.sum -/
noncomputable def conf_sum (d0 : List (Int)) : Option (Int) :=
 Dat.loop (fun (s1 : (Int) × (Int)) k2 =>
 (bif (Dat.ilt s1.2 (Dat.ofN (Dat.len d0))) then if (Dat.Ix s1.2 (Dat.len d0)) then Dat.bnd (Dat.get d0 (Dat.toN s1.2) 0) fun (x5 : Int) =>
 Dat.bnd (Dat.wrap .i64 (Dat.add s1.1 x5)) fun (x6 : Int) =>
 Dat.bnd (Dat.wrap .i64 (Dat.add s1.2 1)) fun (x7 : Int) =>
 k2 (x6, x7)
 else none
 else some s1.1)) (0, 0)
noncomputable def p_conf_sum : PFn := { args := [(.list (.int .i64))], res := [(.int .i64)], fn := conf_sum }
def sp25_25 : List LSpec × List Nat := ([{ id := 2500, known := true, toks := [], items := [.slot 3 (.val (.int .i64)), .slot 8 (.val (.int .i64))], junk := [9, 10, 11, 5, 12, 13, 14, 15], tails := [] }], [])
def spt25 : Tab (List LSpec × List Nat) := (.node (.node .leaf none (.node (.node .leaf none (.node .leaf (some sp25_25) .leaf)) none .leaf)) none .leaf)
def spf25 (f : Nat) : List LSpec × List Nat := (spt25.get f).getD ([], [])
theorem pd_conf_sum : PureD Try.prog cfg 25 p_conf_sum := fnD spf25 (l := []) cfgOk rfl .nil (fun d => by kernel_rfl)

/-- thimblerig/conf.Seals -/
noncomputable def conf_Seals (d0 : (Int) × ((Int) × ((Int) × ((Int) × ((Int) × ((Int) × ((Int) × ((Int) × ((Int) × (Unit)))))))))) : Option ((Int) × ((Int) × (Int))) :=
 Dat.bind (conf_Check (d0.1, (d0.2.1, (d0.2.2.1, (d0.2.2.2.1, (d0.2.2.2.2.1, (d0.2.2.2.2.2.1, (d0.2.2.2.2.2.2.1, (d0.2.2.2.2.2.2.2.1, (d0.2.2.2.2.2.2.2.2.1, ())))))))))) fun (x1 : Int) =>
 (bif (Dat.ine x1 0) then some (0, (0, x1))
 else Dat.bind (conf_level ((d0.1, (d0.2.1, (d0.2.2.1, (d0.2.2.2.1, (d0.2.2.2.2.1, (d0.2.2.2.2.2.1, (d0.2.2.2.2.2.2.1, (d0.2.2.2.2.2.2.2.1, (d0.2.2.2.2.2.2.2.2.1, ()))))))))), (d0.1, d0.2.1))) fun (x2 : (Int) × ((Int) × ((Int) × ((Int) × (Unit))))) =>
 if (Dat.EqN 0 (Dat.len ([] : List (Int)))) then if (Dat.EqN 0 (Dat.len ([] : List (Int)))) then Dat.loop (fun (s7 : ((Int) × ((Int) × ((Int) × (Int)))) × ((List (Int)) × (List (Int)))) k8 =>
 Dat.bind (geo_Buckets s7.1.2.2.1) fun (x9 : (Int) × (Int)) =>
 if (Dat.Le (Dat.addN 0 1) (Dat.len (x9.1 :: ([] : List (Int))))) then if (Dat.Big (Dat.len s7.2.2) (Dat.len (Dat.seg (x9.1 :: ([] : List (Int))) 0 1)) 8) then none
 else if (Dat.EqN (Dat.len s7.2.2) (Dat.len s7.2.2)) then Dat.bnd (Dat.app s7.2.2 (Dat.seg (x9.1 :: ([] : List (Int))) 0 1)) fun (x16 : List (Int)) =>
 Dat.bnd (Dat.wrap .i64 (Dat.add s7.1.2.2.1 1)) fun (x17 : Int) =>
 if (Dat.Le (Dat.addN 0 1) (Dat.len (x17 :: ([] : List (Int))))) then if (Dat.Big (Dat.len s7.2.1) (Dat.len (Dat.seg (x17 :: ([] : List (Int))) 0 1)) 8) then none
 else if (Dat.EqN (Dat.len s7.2.1) (Dat.len s7.2.1)) then Dat.bnd (Dat.app s7.2.1 (Dat.seg (x17 :: ([] : List (Int))) 0 1)) fun (x24 : List (Int)) =>
 Dat.bind (conf_isLast ((d0.1, (d0.2.1, (d0.2.2.1, (d0.2.2.2.1, (d0.2.2.2.2.1, (d0.2.2.2.2.2.1, (d0.2.2.2.2.2.2.1, (d0.2.2.2.2.2.2.2.1, (d0.2.2.2.2.2.2.2.2.1, ()))))))))), (s7.1.1, (s7.1.2.1, (s7.1.2.2.1, (s7.1.2.2.2, ())))))) fun (x25 : Bool) =>
 (bif (Dat.pickB true (Dat.bnot x25) false) then Dat.bnd (Dat.wrap .i64 (Dat.add s7.1.1 d0.2.2.1)) fun (x26 : Int) =>
 Dat.bnd (Dat.wrap .i64 (Dat.sub x26 1)) fun (x27 : Int) =>
 if (Dat.IsZ d0.2.2.1) then none
 else Dat.bnd (Dat.wrap .i64 (Dat.tdiv x27 d0.2.2.1)) fun (x30 : Int) =>
 Dat.bnd (Dat.wrap .i64 (Dat.mul 4 d0.2.2.1)) fun (x31 : Int) =>
 Dat.bind (conf_level ((d0.1, (d0.2.1, (d0.2.2.1, (d0.2.2.2.1, (d0.2.2.2.2.1, (d0.2.2.2.2.2.1, (d0.2.2.2.2.2.2.1, (d0.2.2.2.2.2.2.2.1, (d0.2.2.2.2.2.2.2.2.1, ()))))))))), (x30, x31))) fun (x32 : (Int) × ((Int) × ((Int) × ((Int) × (Unit))))) =>
 if (Dat.EqN (Dat.len x24) (Dat.len x24)) then if (Dat.EqN (Dat.len x16) (Dat.len x16)) then k8 ((x32.1, (x32.2.1, (x32.2.2.1, x32.2.2.2.1))), (x24, x16))
 else none
 else none
 else Dat.bind (conf_sum x16) fun (x37 : Int) =>
 Dat.bind (conf_sum x24) fun (x38 : Int) =>
 Dat.bnd (Dat.wrap .i64 (Dat.mul 2 x38)) fun (x39 : Int) =>
 some (x37, (x39, 0)))
 else none
 else none
 else none
 else none) ((x2.1, (x2.2.1, (x2.2.2.1, x2.2.2.2.1))), (([] : List (Int)), ([] : List (Int))))
 else none
 else none)
noncomputable def p_conf_Seals : PFn := { args := [(.pair (.int .i64) (.pair (.int .i64) (.pair (.int .i64) (.pair (.int .i64) (.pair (.int .i64) (.pair (.int .i64) (.pair (.int .i64) (.pair (.int .i64) (.pair (.int .i64) .unit)))))))))], res := [(.int .i64), (.int .i64), (.int .i64)], fn := conf_Seals }
def sp10_35 : List LSpec × List Nat := ([{ id := 3500, known := true, toks := [(2002000, (.int .i64)), (2001000, (.int .i64))], items := [.cells 1000003 [.val (.int .i64), .val (.int .i64), .val (.int .i64), .val (.int .i64)], .cells 2 [.slt (.int .i64) (some 2002000) false], .cells 1 [.slt (.int .i64) (some 2001000) false]], junk := [10, 11, 12, 13, 14, 15, 16, 17, 18, 19, 20, 21, 22, 23, 24, 25, 26, 27, 28, 29, 30, 31, 32], tails := [(2002000, 2002000), (2001000, 2001000)] }], [])
def spt10 : Tab (List LSpec × List Nat) := (.node (.node (.node .leaf none (.node (.node (.node .leaf (some sp10_35) .leaf) none .leaf) none .leaf)) none .leaf) none .leaf)
def spf10 (f : Nat) : List LSpec × List Nat := (spt10.get f).getD ([], [])
theorem pd_conf_Seals : PureD Try.prog cfg 10 p_conf_Seals := fnD spf10 (l := [(13, p_conf_Check), (36, p_conf_level), (24, p_geo_Buckets), (26, p_conf_isLast), (25, p_conf_sum)]) cfgOk rfl (.cons pd_conf_Check (.cons pd_conf_level (.cons pd_geo_Buckets (.cons pd_conf_isLast (.cons pd_conf_sum .nil))))) (fun d => by kernel_rfl)

/-- thimblerig/thimblerigref08.Counts -/
noncomputable def ref08_Counts (d0 : (Int) × ((Int) × ((Int) × ((Int) × ((Int) × ((Int) × ((Int) × ((Int) × ((Int) × (Unit)))))))))) : Option ((Int) × (Int)) :=
 Dat.bind (ref08_All (d0.1, (d0.2.1, (d0.2.2.1, (d0.2.2.2.1, (d0.2.2.2.2.1, (d0.2.2.2.2.2.1, (d0.2.2.2.2.2.2.1, (d0.2.2.2.2.2.2.2.1, (d0.2.2.2.2.2.2.2.2.1, ())))))))))) fun (x1 : List ((Int) × ((Int) × ((Int) × ((Int) × (Unit)))))) =>
 Dat.loop (fun (s2 : (Int) × ((Int) × (Int))) k3 =>
 (bif (Dat.ilt s2.2.2 (Dat.ofN (Dat.len x1))) then if (Dat.Ix s2.2.2 (Dat.len x1)) then Dat.bnd (Dat.get x1 (Dat.toN s2.2.2) (0, (0, (0, (0, ()))))) fun (x6 : (Int) × ((Int) × ((Int) × ((Int) × (Unit))))) =>
 Dat.bind (ref07_Many x6.2.2.1) fun (x7 : Int) =>
 Dat.bnd (Dat.wrap .i64 (Dat.mul 2 x7)) fun (x8 : Int) =>
 Dat.bnd (Dat.wrap .i64 (Dat.add s2.1 x8)) fun (x9 : Int) =>
 Dat.bnd (Dat.wrap .i64 (Dat.sub x9 1)) fun (x10 : Int) =>
 if (Dat.Ix s2.2.2 (Dat.len x1)) then Dat.bnd (Dat.get x1 (Dat.toN s2.2.2) (0, (0, (0, (0, ()))))) fun (x13 : (Int) × ((Int) × ((Int) × ((Int) × (Unit))))) =>
 Dat.bnd (Dat.wrap .i64 (Dat.add x13.2.2.1 1)) fun (x14 : Int) =>
 Dat.bnd (Dat.wrap .i64 (Dat.mul 2 x14)) fun (x15 : Int) =>
 Dat.bnd (Dat.wrap .i64 (Dat.add s2.2.1 x15)) fun (x16 : Int) =>
 Dat.bnd (Dat.wrap .i64 (Dat.add s2.2.2 1)) fun (x17 : Int) =>
 k3 (x10, (x16, x17))
 else none
 else none
 else some (s2.1, s2.2.1))) (0, (0, 0))
noncomputable def p_ref08_Counts : PFn := { args := [(.pair (.int .i64) (.pair (.int .i64) (.pair (.int .i64) (.pair (.int .i64) (.pair (.int .i64) (.pair (.int .i64) (.pair (.int .i64) (.pair (.int .i64) (.pair (.int .i64) .unit)))))))))], res := [(.int .i64), (.int .i64)], fn := ref08_Counts }
def sp32_32 : List LSpec × List Nat := ([{ id := 3200, known := true, toks := [], items := [.slot 4 (.val (.int .i64)), .slot 5 (.val (.int .i64)), .slot 7 (.val (.int .i64))], junk := [10, 11, 12, 13, 16, 17, 18, 19, 20, 21, 22, 23, 24, 25, 26, 27, 28, 29, 30, 31, 32, 33, 34, 14, 15], tails := [] }], [])
def spt32 : Tab (List LSpec × List Nat) := (.node .leaf none (.node (.node (.node (.node (.node .leaf (some sp32_32) .leaf) none .leaf) none .leaf) none .leaf) none .leaf))
def spf32 (f : Nat) : List LSpec × List Nat := (spt32.get f).getD ([], [])
theorem pd_ref08_Counts : PureD Try.prog cfg 32 p_ref08_Counts := fnD spf32 (l := [(30, p_ref08_All), (39, p_ref07_Many)]) cfgOk rfl (.cons pd_ref08_All (.cons pd_ref07_Many .nil)) (fun d => by kernel_rfl)

/-- thimblerig/thimblerigref08.Seals -/
noncomputable def ref08_Seals (d0 : (Int) × ((Int) × ((Int) × ((Int) × ((Int) × ((Int) × ((Int) × ((Int) × ((Int) × (Unit)))))))))) : Option ((Int) × ((Int) × (Int))) :=
 Dat.bind (ref08_May (d0.1, (d0.2.1, (d0.2.2.1, (d0.2.2.2.1, (d0.2.2.2.2.1, (d0.2.2.2.2.2.1, (d0.2.2.2.2.2.2.1, (d0.2.2.2.2.2.2.2.1, (d0.2.2.2.2.2.2.2.2.1, ())))))))))) fun (x1 : Bool) =>
 (bif (Dat.bnot x1) then some (0, (0, 8))
 else Dat.bind (ref08_Counts (d0.1, (d0.2.1, (d0.2.2.1, (d0.2.2.2.1, (d0.2.2.2.2.1, (d0.2.2.2.2.2.1, (d0.2.2.2.2.2.2.1, (d0.2.2.2.2.2.2.2.1, (d0.2.2.2.2.2.2.2.2.1, ())))))))))) fun (x2 : (Int) × (Int)) =>
 some (x2.1, (x2.2, 0)))
noncomputable def p_ref08_Seals : PFn := { args := [(.pair (.int .i64) (.pair (.int .i64) (.pair (.int .i64) (.pair (.int .i64) (.pair (.int .i64) (.pair (.int .i64) (.pair (.int .i64) (.pair (.int .i64) (.pair (.int .i64) .unit)))))))))], res := [(.int .i64), (.int .i64), (.int .i64)], fn := ref08_Seals }
theorem pd_ref08_Seals : PureD Try.prog cfg 17 p_ref08_Seals := fnD sp0 (l := [(29, p_ref08_May), (32, p_ref08_Counts)]) cfgOk rfl (.cons pd_ref08_May (.cons pd_ref08_Counts .nil)) (fun d => by kernel_rfl)

/-- thimblerig/thimblerigref08.SameLevels -/
noncomputable def ref08_SameLevels (d0 : (List ((Int) × ((Int) × ((Int) × ((Int) × (Unit)))))) × (List ((Int) × ((Int) × ((Int) × ((Int) × (Unit))))))) : Option (Bool) :=
 (bif (Dat.ine (Dat.ofN (Dat.len d0.1)) (Dat.ofN (Dat.len d0.2))) then some false
 else Dat.loop (fun (s1 : Int) k2 =>
 (bif (Dat.ilt s1 (Dat.ofN (Dat.len d0.1))) then if (Dat.Ix s1 (Dat.len d0.1)) then Dat.bnd (Dat.get d0.1 (Dat.toN s1) (0, (0, (0, (0, ()))))) fun (x5 : (Int) × ((Int) × ((Int) × ((Int) × (Unit))))) =>
 if (Dat.Ix s1 (Dat.len d0.2)) then Dat.bnd (Dat.get d0.2 (Dat.toN s1) (0, (0, (0, (0, ()))))) fun (x8 : (Int) × ((Int) × ((Int) × ((Int) × (Unit))))) =>
 (bif (Dat.bnot (Dat.andB (Dat.ieq x5.1 x8.1) (Dat.andB (Dat.ieq x5.2.1 x8.2.1) (Dat.andB (Dat.ieq x5.2.2.1 x8.2.2.1) (Dat.andB (Dat.ieq x5.2.2.2.1 x8.2.2.2.1) true))))) then some false
 else Dat.bnd (Dat.wrap .i64 (Dat.add s1 1)) fun (x9 : Int) =>
 k2 x9)
 else none
 else none
 else some true)) 0)
noncomputable def p_ref08_SameLevels : PFn := { args := [(.list (.pair (.int .i64) (.pair (.int .i64) (.pair (.int .i64) (.pair (.int .i64) .unit))))), (.list (.pair (.int .i64) (.pair (.int .i64) (.pair (.int .i64) (.pair (.int .i64) .unit)))))], res := [.bool], fn := ref08_SameLevels }
def sp18_18 : List LSpec × List Nat := ([{ id := 1800, known := true, toks := [], items := [.slot 5 (.val (.int .i64))], junk := [11, 12, 13, 14, 17, 18, 19, 20, 21, 22, 23, 24, 25, 4, 15, 16], tails := [] }], [])
def spt18 : Tab (List LSpec × List Nat) := (.node .leaf none (.node .leaf none (.node (.node (.node .leaf (some sp18_18) .leaf) none .leaf) none .leaf)))
def spf18 (f : Nat) : List LSpec × List Nat := (spt18.get f).getD ([], [])
theorem pd_ref08_SameLevels : PureD Try.prog cfg 18 p_ref08_SameLevels := fnD spf18 (l := []) cfgOk rfl .nil (fun d => by kernel_rfl)

/-- thimblerig/thimblerigref08.Check -/
noncomputable def ref08_Check (d0 : (Int) × ((Int) × ((Int) × ((Int) × ((Int) × ((Int) × ((Int) × ((Int) × ((Int) × (Unit)))))))))) : Option (Int) :=
 Dat.bind (ref08_May (d0.1, (d0.2.1, (d0.2.2.1, (d0.2.2.2.1, (d0.2.2.2.2.1, (d0.2.2.2.2.2.1, (d0.2.2.2.2.2.2.1, (d0.2.2.2.2.2.2.2.1, (d0.2.2.2.2.2.2.2.2.1, ())))))))))) fun (x1 : Bool) =>
 (bif (Dat.bnot x1) then some 8
 else some 0)
noncomputable def p_ref08_Check : PFn := { args := [(.pair (.int .i64) (.pair (.int .i64) (.pair (.int .i64) (.pair (.int .i64) (.pair (.int .i64) (.pair (.int .i64) (.pair (.int .i64) (.pair (.int .i64) (.pair (.int .i64) .unit)))))))))], res := [(.int .i64)], fn := ref08_Check }
theorem pd_ref08_Check : PureD Try.prog cfg 19 p_ref08_Check := fnD sp0 (l := [(29, p_ref08_May)]) cfgOk rfl (.cons pd_ref08_May .nil) (fun d => by kernel_rfl)

/-- thimblerig/thimbleriglaw08.ConfTells -/
noncomputable def law08_ConfTells (d0 : (Int) × ((Int) × ((Int) × ((Int) × ((Int) × ((Int) × ((Int) × ((Int) × ((Int) × (Unit)))))))))) : Option (Bool) :=
 Dat.bind (conf_Levels (d0.1, (d0.2.1, (d0.2.2.1, (d0.2.2.2.1, (d0.2.2.2.2.1, (d0.2.2.2.2.2.1, (d0.2.2.2.2.2.2.1, (d0.2.2.2.2.2.2.2.1, (d0.2.2.2.2.2.2.2.2.1, ())))))))))) fun (x1 : (List ((Int) × ((Int) × ((Int) × ((Int) × (Unit)))))) × (Int)) =>
 Dat.bind (ref08_Levels (d0.1, (d0.2.1, (d0.2.2.1, (d0.2.2.2.1, (d0.2.2.2.2.1, (d0.2.2.2.2.2.1, (d0.2.2.2.2.2.2.1, (d0.2.2.2.2.2.2.2.1, (d0.2.2.2.2.2.2.2.2.1, ())))))))))) fun (x2 : (List ((Int) × ((Int) × ((Int) × ((Int) × (Unit)))))) × (Int)) =>
 Dat.bind (conf_Width (d0.1, (d0.2.1, (d0.2.2.1, (d0.2.2.2.1, (d0.2.2.2.2.1, (d0.2.2.2.2.2.1, (d0.2.2.2.2.2.2.1, (d0.2.2.2.2.2.2.2.1, (d0.2.2.2.2.2.2.2.2.1, ())))))))))) fun (x3 : (Int) × (Int)) =>
 Dat.bind (ref08_Width (d0.1, (d0.2.1, (d0.2.2.1, (d0.2.2.2.1, (d0.2.2.2.2.1, (d0.2.2.2.2.2.1, (d0.2.2.2.2.2.2.1, (d0.2.2.2.2.2.2.2.1, (d0.2.2.2.2.2.2.2.2.1, ())))))))))) fun (x4 : (Int) × (Int)) =>
 Dat.bind (conf_Seals (d0.1, (d0.2.1, (d0.2.2.1, (d0.2.2.2.1, (d0.2.2.2.2.1, (d0.2.2.2.2.2.1, (d0.2.2.2.2.2.2.1, (d0.2.2.2.2.2.2.2.1, (d0.2.2.2.2.2.2.2.2.1, ())))))))))) fun (x5 : (Int) × ((Int) × (Int))) =>
 Dat.bind (ref08_Seals (d0.1, (d0.2.1, (d0.2.2.1, (d0.2.2.2.1, (d0.2.2.2.2.1, (d0.2.2.2.2.2.1, (d0.2.2.2.2.2.2.1, (d0.2.2.2.2.2.2.2.1, (d0.2.2.2.2.2.2.2.2.1, ())))))))))) fun (x6 : (Int) × ((Int) × (Int))) =>
 Dat.bind (ref08_SameLevels (x1.1, x2.1)) fun (x7 : Bool) =>
 (bif x7 then (bif (Dat.pickB true (Dat.ieq x1.2 x2.2) false) then (bif (Dat.pickB true (Dat.ieq x3.1 x4.1) false) then (bif (Dat.pickB true (Dat.ieq x3.2 x4.2) false) then (bif (Dat.pickB true (Dat.ieq x5.1 x6.1) false) then (bif (Dat.pickB true (Dat.ieq x5.2.1 x6.2.1) false) then (bif (Dat.pickB true (Dat.ieq x5.2.2 x6.2.2) false) then Dat.bind (conf_Check (d0.1, (d0.2.1, (d0.2.2.1, (d0.2.2.2.1, (d0.2.2.2.2.1, (d0.2.2.2.2.2.1, (d0.2.2.2.2.2.2.1, (d0.2.2.2.2.2.2.2.1, (d0.2.2.2.2.2.2.2.2.1, ())))))))))) fun (x8 : Int) =>
 Dat.bind (ref08_Check (d0.1, (d0.2.1, (d0.2.2.1, (d0.2.2.2.1, (d0.2.2.2.2.1, (d0.2.2.2.2.2.1, (d0.2.2.2.2.2.2.1, (d0.2.2.2.2.2.2.2.1, (d0.2.2.2.2.2.2.2.2.1, ())))))))))) fun (x9 : Int) =>
 some (Dat.pickB true (Dat.ieq x8 x9) false)
 else some false)
 else some false)
 else some false)
 else some false)
 else some false)
 else some false)
 else some false)
noncomputable def p_law08_ConfTells : PFn := { args := [(.pair (.int .i64) (.pair (.int .i64) (.pair (.int .i64) (.pair (.int .i64) (.pair (.int .i64) (.pair (.int .i64) (.pair (.int .i64) (.pair (.int .i64) (.pair (.int .i64) .unit)))))))))], res := [.bool], fn := law08_ConfTells }
theorem pd_law08_ConfTells : PureD Try.prog cfg 4 p_law08_ConfTells := fnD sp0 (l := [(14, p_conf_Levels), (15, p_ref08_Levels), (8, p_conf_Width), (16, p_ref08_Width), (10, p_conf_Seals), (17, p_ref08_Seals), (18, p_ref08_SameLevels), (13, p_conf_Check), (19, p_ref08_Check)]) cfgOk rfl (.cons pd_conf_Levels (.cons pd_ref08_Levels (.cons pd_conf_Width (.cons pd_ref08_Width (.cons pd_conf_Seals (.cons pd_ref08_Seals (.cons pd_ref08_SameLevels (.cons pd_conf_Check (.cons pd_ref08_Check .nil))))))))) (fun d => by kernel_rfl)

/-- thimblerig/thimbleriglaw08.eight -/
noncomputable def law08_eight (d0 : Unit) : Option ((Int) × ((Int) × ((Int) × ((Int) × ((Int) × ((Int) × ((Int) × ((Int) × ((Int) × (Unit)))))))))) :=
 some (8, (4, (2, (2, (8, (2, (2, (4, (2, ())))))))))
noncomputable def p_law08_eight : PFn := { args := [], res := [(.pair (.int .i64) (.pair (.int .i64) (.pair (.int .i64) (.pair (.int .i64) (.pair (.int .i64) (.pair (.int .i64) (.pair (.int .i64) (.pair (.int .i64) (.pair (.int .i64) .unit)))))))))], fn := law08_eight }
theorem pd_law08_eight : PureD Try.prog cfg 9 p_law08_eight := fnD sp0 (l := []) cfgOk rfl .nil (fun d => by kernel_rfl)

/-- thimblerig/thimbleriglaw08.alive -/
noncomputable def law08_alive (d0 : Unit) : Option (Bool) := some true
noncomputable def p_law08_alive : PFn := { args := [], res := [.bool], fn := law08_alive }
theorem pd_law08_alive : PureD Try.prog cfg 12 p_law08_alive := closedD (n := 4000) cfgOk (by kernel_rfl)

/-- thimblerig/thimbleriglaw08.ConfFits -/
noncomputable def law08_ConfFits (d0 : (Int) × ((Int) × ((Int) × ((Int) × ((Int) × ((Int) × ((Int) × ((Int) × ((Int) × (Unit)))))))))) : Option (Bool) :=
 Dat.bind (law08_alive ()) fun (x1 : Bool) =>
 Dat.bind (conf_Levels (d0.1, (d0.2.1, (d0.2.2.1, (d0.2.2.2.1, (d0.2.2.2.2.1, (d0.2.2.2.2.2.1, (d0.2.2.2.2.2.2.1, (d0.2.2.2.2.2.2.2.1, (d0.2.2.2.2.2.2.2.2.1, ())))))))))) fun (x2 : (List ((Int) × ((Int) × ((Int) × ((Int) × (Unit)))))) × (Int)) =>
 (bif (Dat.ine x2.2 0) then (bif x1 then (bif (Dat.pickB true (Dat.ieq (Dat.ofN (Dat.len x2.1)) 0) false) then Dat.bind (conf_Check (d0.1, (d0.2.1, (d0.2.2.1, (d0.2.2.2.1, (d0.2.2.2.2.1, (d0.2.2.2.2.2.1, (d0.2.2.2.2.2.2.1, (d0.2.2.2.2.2.2.2.1, (d0.2.2.2.2.2.2.2.2.1, ())))))))))) fun (x3 : Int) =>
 some (Dat.pickB true (Dat.ieq x3 x2.2) false)
 else some false)
 else some false)
 else Dat.loop (fun (s4 : Int) k5 =>
 (bif (Dat.ilt s4 (Dat.ofN (Dat.len x2.1))) then if (Dat.Ix s4 (Dat.len x2.1)) then Dat.bnd (Dat.get x2.1 (Dat.toN s4) (0, (0, (0, (0, ()))))) fun (x8 : (Int) × ((Int) × ((Int) × ((Int) × (Unit))))) =>
 Dat.bind (geo_Leaves x8.2.2.1) fun (x9 : (Int) × (Int)) =>
 (bif (Dat.ine x9.2 0) then some false
 else if (Dat.Ix s4 (Dat.len x2.1)) then Dat.bnd (Dat.get x2.1 (Dat.toN s4) (0, (0, (0, (0, ()))))) fun (x12 : (Int) × ((Int) × ((Int) × ((Int) × (Unit))))) =>
 (bif (Dat.pickB false true (Dat.ilt x9.1 x12.1)) then some false
 else if (Dat.Ix s4 (Dat.len x2.1)) then Dat.bnd (Dat.get x2.1 (Dat.toN s4) (0, (0, (0, (0, ()))))) fun (x15 : (Int) × ((Int) × ((Int) × ((Int) × (Unit))))) =>
 (bif (Dat.igt x15.2.2.1 1) then if (Dat.IsZ 2) then none
 else Dat.bnd (Dat.wrap .i64 (Dat.tdiv x9.1 2)) fun (x18 : Int) =>
 if (Dat.Ix s4 (Dat.len x2.1)) then Dat.bnd (Dat.get x2.1 (Dat.toN s4) (0, (0, (0, (0, ()))))) fun (x21 : (Int) × ((Int) × ((Int) × ((Int) × (Unit))))) =>
 (bif (Dat.pickB false true (Dat.pickB true (Dat.ige x18 x21.1) false)) then some false
 else if (Dat.Ix s4 (Dat.len x2.1)) then Dat.bnd (Dat.get x2.1 (Dat.toN s4) (0, (0, (0, (0, ()))))) fun (x24 : (Int) × ((Int) × ((Int) × ((Int) × (Unit))))) =>
 Dat.bnd (Dat.wrap .i64 (Dat.sub (Dat.ofN (Dat.len x2.1)) 1)) fun (x25 : Int) =>
 (bif (Dat.pickB false true (Dat.bnot (Dat.beq (Dat.ile x24.1 d0.2.2.2.2.2.2.2.2.1) (Dat.ieq s4 x25)))) then some false
 else if (Dat.Ix s4 (Dat.len x2.1)) then Dat.bnd (Dat.get x2.1 (Dat.toN s4) (0, (0, (0, (0, ()))))) fun (x28 : (Int) × ((Int) × ((Int) × ((Int) × (Unit))))) =>
 if (Dat.Ix s4 (Dat.len x2.1)) then Dat.bnd (Dat.get x2.1 (Dat.toN s4) (0, (0, (0, (0, ()))))) fun (x31 : (Int) × ((Int) × ((Int) × ((Int) × (Unit))))) =>
 Dat.bnd (Dat.wrap .i64 (Dat.add 8 x31.2.1)) fun (x32 : Int) =>
 Dat.bnd (Dat.wrap .i64 (Dat.mul d0.2.2.2.1 x32)) fun (x33 : Int) =>
 Dat.bnd (Dat.wrap .i64 (Dat.add x33 64)) fun (x34 : Int) =>
 (bif (Dat.pickB false true (Dat.ine x28.2.2.2.1 x34)) then some false
 else (bif (Dat.igt s4 0) then if (Dat.Ix s4 (Dat.len x2.1)) then Dat.bnd (Dat.get x2.1 (Dat.toN s4) (0, (0, (0, (0, ()))))) fun (x37 : (Int) × ((Int) × ((Int) × ((Int) × (Unit))))) =>
 Dat.bnd (Dat.wrap .i64 (Dat.mul x37.1 d0.2.2.1)) fun (x38 : Int) =>
 Dat.bnd (Dat.wrap .i64 (Dat.sub s4 1)) fun (x39 : Int) =>
 if (Dat.Ix x39 (Dat.len x2.1)) then Dat.bnd (Dat.get x2.1 (Dat.toN x39) (0, (0, (0, (0, ()))))) fun (x42 : (Int) × ((Int) × ((Int) × ((Int) × (Unit))))) =>
 (bif (Dat.ilt x38 x42.1) then some false
 else if (Dat.Ix s4 (Dat.len x2.1)) then Dat.bnd (Dat.get x2.1 (Dat.toN s4) (0, (0, (0, (0, ()))))) fun (x45 : (Int) × ((Int) × ((Int) × ((Int) × (Unit))))) =>
 Dat.bnd (Dat.wrap .i64 (Dat.sub x45.1 1)) fun (x46 : Int) =>
 Dat.bnd (Dat.wrap .i64 (Dat.mul x46 d0.2.2.1)) fun (x47 : Int) =>
 Dat.bnd (Dat.wrap .i64 (Dat.sub s4 1)) fun (x48 : Int) =>
 if (Dat.Ix x48 (Dat.len x2.1)) then Dat.bnd (Dat.get x2.1 (Dat.toN x48) (0, (0, (0, (0, ()))))) fun (x51 : (Int) × ((Int) × ((Int) × ((Int) × (Unit))))) =>
 (bif (Dat.pickB false true (Dat.ige x47 x51.1)) then some false
 else if (Dat.Ix s4 (Dat.len x2.1)) then Dat.bnd (Dat.get x2.1 (Dat.toN s4) (0, (0, (0, (0, ()))))) fun (x54 : (Int) × ((Int) × ((Int) × ((Int) × (Unit))))) =>
 Dat.bnd (Dat.wrap .i64 (Dat.mul 4 d0.2.2.1)) fun (x55 : Int) =>
 (bif (Dat.pickB true (Dat.pickB false true (Dat.ine x54.2.1 x55)) false) then some false
 else Dat.bnd (Dat.wrap .i64 (Dat.add s4 1)) fun (x56 : Int) =>
 k5 x56)
 else none)
 else none
 else none)
 else none
 else none
 else Dat.bnd (Dat.wrap .i64 (Dat.add s4 1)) fun (x57 : Int) =>
 k5 x57))
 else none
 else none)
 else none)
 else none
 else if (Dat.Ix s4 (Dat.len x2.1)) then Dat.bnd (Dat.get x2.1 (Dat.toN s4) (0, (0, (0, (0, ()))))) fun (x60 : (Int) × ((Int) × ((Int) × ((Int) × (Unit))))) =>
 Dat.bnd (Dat.wrap .i64 (Dat.sub (Dat.ofN (Dat.len x2.1)) 1)) fun (x61 : Int) =>
 (bif (Dat.pickB false true (Dat.bnot (Dat.beq (Dat.ile x60.1 d0.2.2.2.2.2.2.2.2.1) (Dat.ieq s4 x61)))) then some false
 else if (Dat.Ix s4 (Dat.len x2.1)) then Dat.bnd (Dat.get x2.1 (Dat.toN s4) (0, (0, (0, (0, ()))))) fun (x64 : (Int) × ((Int) × ((Int) × ((Int) × (Unit))))) =>
 if (Dat.Ix s4 (Dat.len x2.1)) then Dat.bnd (Dat.get x2.1 (Dat.toN s4) (0, (0, (0, (0, ()))))) fun (x67 : (Int) × ((Int) × ((Int) × ((Int) × (Unit))))) =>
 Dat.bnd (Dat.wrap .i64 (Dat.add 8 x67.2.1)) fun (x68 : Int) =>
 Dat.bnd (Dat.wrap .i64 (Dat.mul d0.2.2.2.1 x68)) fun (x69 : Int) =>
 Dat.bnd (Dat.wrap .i64 (Dat.add x69 64)) fun (x70 : Int) =>
 (bif (Dat.pickB false true (Dat.ine x64.2.2.2.1 x70)) then some false
 else (bif (Dat.igt s4 0) then if (Dat.Ix s4 (Dat.len x2.1)) then Dat.bnd (Dat.get x2.1 (Dat.toN s4) (0, (0, (0, (0, ()))))) fun (x73 : (Int) × ((Int) × ((Int) × ((Int) × (Unit))))) =>
 Dat.bnd (Dat.wrap .i64 (Dat.mul x73.1 d0.2.2.1)) fun (x74 : Int) =>
 Dat.bnd (Dat.wrap .i64 (Dat.sub s4 1)) fun (x75 : Int) =>
 if (Dat.Ix x75 (Dat.len x2.1)) then Dat.bnd (Dat.get x2.1 (Dat.toN x75) (0, (0, (0, (0, ()))))) fun (x78 : (Int) × ((Int) × ((Int) × ((Int) × (Unit))))) =>
 (bif (Dat.ilt x74 x78.1) then some false
 else if (Dat.Ix s4 (Dat.len x2.1)) then Dat.bnd (Dat.get x2.1 (Dat.toN s4) (0, (0, (0, (0, ()))))) fun (x81 : (Int) × ((Int) × ((Int) × ((Int) × (Unit))))) =>
 Dat.bnd (Dat.wrap .i64 (Dat.sub x81.1 1)) fun (x82 : Int) =>
 Dat.bnd (Dat.wrap .i64 (Dat.mul x82 d0.2.2.1)) fun (x83 : Int) =>
 Dat.bnd (Dat.wrap .i64 (Dat.sub s4 1)) fun (x84 : Int) =>
 if (Dat.Ix x84 (Dat.len x2.1)) then Dat.bnd (Dat.get x2.1 (Dat.toN x84) (0, (0, (0, (0, ()))))) fun (x87 : (Int) × ((Int) × ((Int) × ((Int) × (Unit))))) =>
 (bif (Dat.pickB false true (Dat.ige x83 x87.1)) then some false
 else if (Dat.Ix s4 (Dat.len x2.1)) then Dat.bnd (Dat.get x2.1 (Dat.toN s4) (0, (0, (0, (0, ()))))) fun (x90 : (Int) × ((Int) × ((Int) × ((Int) × (Unit))))) =>
 Dat.bnd (Dat.wrap .i64 (Dat.mul 4 d0.2.2.1)) fun (x91 : Int) =>
 (bif (Dat.pickB true (Dat.pickB false true (Dat.ine x90.2.1 x91)) false) then some false
 else Dat.bnd (Dat.wrap .i64 (Dat.add s4 1)) fun (x92 : Int) =>
 k5 x92)
 else none)
 else none
 else none)
 else none
 else none
 else Dat.bnd (Dat.wrap .i64 (Dat.add s4 1)) fun (x93 : Int) =>
 k5 x93))
 else none
 else none)
 else none)
 else none)
 else none)
 else none
 else (bif x1 then (bif (Dat.pickB true (Dat.ige (Dat.ofN (Dat.len x2.1)) 1) false) then (bif (Dat.pickB true (Dat.ile (Dat.ofN (Dat.len x2.1)) 4) false) then if (Dat.Ix 0 (Dat.len x2.1)) then Dat.bnd (Dat.get x2.1 (Dat.toN 0) (0, (0, (0, (0, ()))))) fun (x96 : (Int) × ((Int) × ((Int) × ((Int) × (Unit))))) =>
 (bif (Dat.pickB true (Dat.ieq x96.1 d0.1) false) then if (Dat.Ix 0 (Dat.len x2.1)) then Dat.bnd (Dat.get x2.1 (Dat.toN 0) (0, (0, (0, (0, ()))))) fun (x99 : (Int) × ((Int) × ((Int) × ((Int) × (Unit))))) =>
 some (Dat.pickB true (Dat.ieq x99.2.1 d0.2.1) false)
 else none
 else some false)
 else none
 else some false)
 else some false)
 else some false))) 0)
noncomputable def p_law08_ConfFits : PFn := { args := [(.pair (.int .i64) (.pair (.int .i64) (.pair (.int .i64) (.pair (.int .i64) (.pair (.int .i64) (.pair (.int .i64) (.pair (.int .i64) (.pair (.int .i64) (.pair (.int .i64) .unit)))))))))], res := [.bool], fn := law08_ConfFits }
def sp7_7 : List LSpec × List Nat := ([{ id := 700, known := true, toks := [], items := [.slot 6 (.val (.int .i64))], junk := [29, 30, 31, 32, 36, 37, 38, 39, 40, 41, 35, 42, 43, 7, 8, 44, 45, 46, 47, 48, 49, 50, 51, 52, 53, 54, 55, 56, 57, 58, 59, 60, 61, 62, 63, 64, 65, 66, 67, 68, 69, 70, 71, 72, 73, 74, 75, 76, 77, 78, 79, 80, 81, 82, 83, 84, 85, 86, 87, 88, 89, 90, 91, 92, 93, 94, 95, 96, 97, 98, 99, 100, 101, 102, 103, 104, 105, 106, 2, 107, 108, 109, 110, 111, 112, 113, 114, 115, 116, 117, 118, 119, 120, 121, 122, 123, 124, 125, 126, 127, 128, 129, 130, 131, 132, 133, 134, 135, 136, 137, 138, 139, 140, 141, 142, 143, 144, 145, 146, 147, 148, 149, 150, 151, 152, 153, 154, 33, 34], tails := [] }], [])
def spt7 : Tab (List LSpec × List Nat) := (.node (.node (.node (.node .leaf (some sp7_7) .leaf) none .leaf) none .leaf) none .leaf)
def spf7 (f : Nat) : List LSpec × List Nat := (spt7.get f).getD ([], [])
theorem pd_law08_ConfFits : PureD Try.prog cfg 7 p_law08_ConfFits := fnD spf7 (l := [(12, p_law08_alive), (14, p_conf_Levels), (13, p_conf_Check), (22, p_geo_Leaves)]) cfgOk rfl (.cons pd_law08_alive (.cons pd_conf_Levels (.cons pd_conf_Check (.cons pd_geo_Leaves .nil)))) (fun d => by kernel_rfl)

/-- thimblerig/thimbleriglaw08.ConfRoad -/
noncomputable def law08_ConfRoad (d0 : ((Int) × ((Int) × ((Int) × ((Int) × ((Int) × ((Int) × ((Int) × ((Int) × ((Int) × (Unit)))))))))) × ((Int) × (Int))) : Option (Bool) :=
 Dat.bind (law08_alive ()) fun (x1 : Bool) =>
 Dat.bind (conf_Levels (d0.1.1, (d0.1.2.1, (d0.1.2.2.1, (d0.1.2.2.2.1, (d0.1.2.2.2.2.1, (d0.1.2.2.2.2.2.1, (d0.1.2.2.2.2.2.2.1, (d0.1.2.2.2.2.2.2.2.1, (d0.1.2.2.2.2.2.2.2.2.1, ())))))))))) fun (x2 : (List ((Int) × ((Int) × ((Int) × ((Int) × (Unit)))))) × (Int)) =>
 Dat.bind (conf_Road ((d0.1.1, (d0.1.2.1, (d0.1.2.2.1, (d0.1.2.2.2.1, (d0.1.2.2.2.2.1, (d0.1.2.2.2.2.2.1, (d0.1.2.2.2.2.2.2.1, (d0.1.2.2.2.2.2.2.2.1, (d0.1.2.2.2.2.2.2.2.2.1, ()))))))))), d0.2.1)) fun (x3 : (List (Int)) × ((List (Int)) × (Int))) =>
 Dat.bind (conf_Road ((d0.1.1, (d0.1.2.1, (d0.1.2.2.1, (d0.1.2.2.2.1, (d0.1.2.2.2.2.1, (d0.1.2.2.2.2.2.1, (d0.1.2.2.2.2.2.2.1, (d0.1.2.2.2.2.2.2.2.1, (d0.1.2.2.2.2.2.2.2.2.1, ()))))))))), d0.2.2)) fun (x4 : (List (Int)) × ((List (Int)) × (Int))) =>
 (bif (Dat.ine x2.2 0) then (bif x1 then (bif (Dat.pickB true (Dat.ieq (Dat.ofN (Dat.len x3.1)) 0) false) then (bif (Dat.ieq x2.2 0) then (bif (Dat.ine x2.2 0) then some (Dat.pickB true true false)
 else some (Dat.pickB true (Dat.pickB false true (Dat.ieq x3.2.2 261)) false))
 else (bif (Dat.pickB true (Dat.pickB false true (Dat.ieq x3.2.2 x2.2)) false) then (bif (Dat.ine x2.2 0) then some (Dat.pickB true true false)
 else some (Dat.pickB true (Dat.pickB false true (Dat.ieq x3.2.2 261)) false))
 else some false))
 else some false)
 else some false)
 else (bif (Dat.pickB false true (Dat.ine x3.2.2 0)) then (bif x1 then (bif (Dat.pickB true (Dat.ieq (Dat.ofN (Dat.len x3.1)) 0) false) then (bif (Dat.ieq x2.2 0) then (bif (Dat.ine x2.2 0) then some (Dat.pickB true true false)
 else some (Dat.pickB true (Dat.pickB false true (Dat.ieq x3.2.2 261)) false))
 else (bif (Dat.pickB true (Dat.pickB false true (Dat.ieq x3.2.2 x2.2)) false) then (bif (Dat.ine x2.2 0) then some (Dat.pickB true true false)
 else some (Dat.pickB true (Dat.pickB false true (Dat.ieq x3.2.2 261)) false))
 else some false))
 else some false)
 else some false)
 else (bif (Dat.ine (Dat.ofN (Dat.len x3.1)) (Dat.ofN (Dat.len x2.1))) then some false
 else (bif (Dat.pickB false true (Dat.ine (Dat.ofN (Dat.len x3.2.1)) (Dat.ofN (Dat.len x2.1)))) then some false
 else (bif (Dat.pickB false true (Dat.ieq (Dat.ofN (Dat.len x2.1)) 0)) then some false
 else Dat.bnd (Dat.wrap .i64 (Dat.sub (Dat.ofN (Dat.len x2.1)) 1)) fun (x5 : Int) =>
 if (Dat.Ix x5 (Dat.len x3.2.1)) then Dat.bnd (Dat.get x3.2.1 (Dat.toN x5) 0) fun (x8 : Int) =>
 Dat.bnd (Dat.wrap .i64 (Dat.sub (Dat.ofN (Dat.len x2.1)) 1)) fun (x9 : Int) =>
 Dat.loop (fun (s10 : (Int) × (Int)) k11 =>
 (bif (Dat.ige s10.2 0) then Dat.bnd (Dat.wrap .i64 (Dat.sub (Dat.ofN (Dat.len x2.1)) 1)) fun (x12 : Int) =>
 (bif (Dat.ilt s10.2 x12) then Dat.bnd (Dat.wrap .i64 (Dat.mul s10.1 d0.1.2.2.1)) fun (x13 : Int) =>
 if (Dat.Ix s10.2 (Dat.len x3.2.1)) then Dat.bnd (Dat.get x3.2.1 (Dat.toN s10.2) 0) fun (x16 : Int) =>
 Dat.bnd (Dat.wrap .i64 (Dat.add x13 x16)) fun (x17 : Int) =>
 if (Dat.Ix s10.2 (Dat.len x3.1)) then Dat.bnd (Dat.get x3.1 (Dat.toN s10.2) 0) fun (x20 : Int) =>
 (bif (Dat.ine x20 x17) then some false
 else (bif (Dat.pickB false true (Dat.ilt x17 0)) then some false
 else if (Dat.Ix s10.2 (Dat.len x2.1)) then Dat.bnd (Dat.get x2.1 (Dat.toN s10.2) (0, (0, (0, (0, ()))))) fun (x23 : (Int) × ((Int) × ((Int) × ((Int) × (Unit))))) =>
 (bif (Dat.pickB false true (Dat.ige x17 x23.1)) then some false
 else Dat.bnd (Dat.wrap .i64 (Dat.sub (Dat.ofN (Dat.len x2.1)) 1)) fun (x24 : Int) =>
 (bif (Dat.ilt s10.2 x24) then if (Dat.Ix s10.2 (Dat.len x3.2.1)) then Dat.bnd (Dat.get x3.2.1 (Dat.toN s10.2) 0) fun (x27 : Int) =>
 (bif (Dat.ilt x27 0) then some false
 else if (Dat.Ix s10.2 (Dat.len x3.2.1)) then Dat.bnd (Dat.get x3.2.1 (Dat.toN s10.2) 0) fun (x30 : Int) =>
 (bif (Dat.pickB false true (Dat.pickB true (Dat.pickB false true (Dat.ige x30 d0.1.2.2.1)) false)) then some false
 else Dat.bnd (Dat.wrap .i64 (Dat.sub s10.2 1)) fun (x31 : Int) =>
 k11 (x17, x31))
 else none)
 else none
 else Dat.bnd (Dat.wrap .i64 (Dat.sub s10.2 1)) fun (x32 : Int) =>
 k11 (x17, x32)))
 else none))
 else none
 else none
 else if (Dat.Ix s10.2 (Dat.len x3.1)) then Dat.bnd (Dat.get x3.1 (Dat.toN s10.2) 0) fun (x35 : Int) =>
 (bif (Dat.ine x35 s10.1) then some false
 else (bif (Dat.pickB false true (Dat.ilt s10.1 0)) then some false
 else if (Dat.Ix s10.2 (Dat.len x2.1)) then Dat.bnd (Dat.get x2.1 (Dat.toN s10.2) (0, (0, (0, (0, ()))))) fun (x38 : (Int) × ((Int) × ((Int) × ((Int) × (Unit))))) =>
 (bif (Dat.pickB false true (Dat.ige s10.1 x38.1)) then some false
 else Dat.bnd (Dat.wrap .i64 (Dat.sub (Dat.ofN (Dat.len x2.1)) 1)) fun (x39 : Int) =>
 (bif (Dat.ilt s10.2 x39) then if (Dat.Ix s10.2 (Dat.len x3.2.1)) then Dat.bnd (Dat.get x3.2.1 (Dat.toN s10.2) 0) fun (x42 : Int) =>
 (bif (Dat.ilt x42 0) then some false
 else if (Dat.Ix s10.2 (Dat.len x3.2.1)) then Dat.bnd (Dat.get x3.2.1 (Dat.toN s10.2) 0) fun (x45 : Int) =>
 (bif (Dat.pickB false true (Dat.pickB true (Dat.pickB false true (Dat.ige x45 d0.1.2.2.1)) false)) then some false
 else Dat.bnd (Dat.wrap .i64 (Dat.sub s10.2 1)) fun (x46 : Int) =>
 k11 (s10.1, x46))
 else none)
 else none
 else Dat.bnd (Dat.wrap .i64 (Dat.sub s10.2 1)) fun (x47 : Int) =>
 k11 (s10.1, x47)))
 else none))
 else none)
 else (bif (Dat.ine s10.1 d0.2.1) then some false
 else (bif (Dat.ieq x4.2.2 0) then (bif (Dat.pickB false true (Dat.pickB true (Dat.ine (Dat.ofN (Dat.len x4.1)) (Dat.ofN (Dat.len x3.1))) false)) then some false
 else Dat.loop (fun (s48 : Int) k49 =>
 (bif (Dat.ilt s48 (Dat.ofN (Dat.len x2.1))) then (bif (Dat.pickB true (Dat.ieq x4.2.2 0) false) then Dat.bnd (Dat.wrap .i64 (Dat.sub s48 1)) fun (x50 : Int) =>
 if (Dat.Ix x50 (Dat.len x3.1)) then Dat.bnd (Dat.get x3.1 (Dat.toN x50) 0) fun (x53 : Int) =>
 Dat.bnd (Dat.wrap .i64 (Dat.sub s48 1)) fun (x54 : Int) =>
 if (Dat.Ix x54 (Dat.len x4.1)) then Dat.bnd (Dat.get x4.1 (Dat.toN x54) 0) fun (x57 : Int) =>
 (bif (Dat.ieq x53 x57) then if (Dat.Ix s48 (Dat.len x3.1)) then Dat.bnd (Dat.get x3.1 (Dat.toN s48) 0) fun (x60 : Int) =>
 if (Dat.Ix s48 (Dat.len x4.1)) then Dat.bnd (Dat.get x4.1 (Dat.toN s48) 0) fun (x63 : Int) =>
 (bif (Dat.pickB true (Dat.ine x60 x63) false) then some false
 else Dat.bnd (Dat.wrap .i64 (Dat.add s48 1)) fun (x64 : Int) =>
 k49 x64)
 else none
 else none
 else Dat.bnd (Dat.wrap .i64 (Dat.add s48 1)) fun (x65 : Int) =>
 k49 x65)
 else none
 else none
 else some x1)
 else some x1)) 1)
 else Dat.loop (fun (s66 : Int) k67 =>
 (bif (Dat.ilt s66 (Dat.ofN (Dat.len x2.1))) then (bif (Dat.pickB true (Dat.ieq x4.2.2 0) false) then Dat.bnd (Dat.wrap .i64 (Dat.sub s66 1)) fun (x68 : Int) =>
 if (Dat.Ix x68 (Dat.len x3.1)) then Dat.bnd (Dat.get x3.1 (Dat.toN x68) 0) fun (x71 : Int) =>
 Dat.bnd (Dat.wrap .i64 (Dat.sub s66 1)) fun (x72 : Int) =>
 if (Dat.Ix x72 (Dat.len x4.1)) then Dat.bnd (Dat.get x4.1 (Dat.toN x72) 0) fun (x75 : Int) =>
 (bif (Dat.ieq x71 x75) then if (Dat.Ix s66 (Dat.len x3.1)) then Dat.bnd (Dat.get x3.1 (Dat.toN s66) 0) fun (x78 : Int) =>
 if (Dat.Ix s66 (Dat.len x4.1)) then Dat.bnd (Dat.get x4.1 (Dat.toN s66) 0) fun (x81 : Int) =>
 (bif (Dat.pickB true (Dat.ine x78 x81) false) then some false
 else Dat.bnd (Dat.wrap .i64 (Dat.add s66 1)) fun (x82 : Int) =>
 k67 x82)
 else none
 else none
 else Dat.bnd (Dat.wrap .i64 (Dat.add s66 1)) fun (x83 : Int) =>
 k67 x83)
 else none
 else none
 else some x1)
 else some x1)) 1)))) (x8, x9)
 else none)))))
noncomputable def p_law08_ConfRoad : PFn := { args := [(.pair (.int .i64) (.pair (.int .i64) (.pair (.int .i64) (.pair (.int .i64) (.pair (.int .i64) (.pair (.int .i64) (.pair (.int .i64) (.pair (.int .i64) (.pair (.int .i64) .unit))))))))), (.int .i64), (.int .i64)], res := [.bool], fn := law08_ConfRoad }
def sp6_6 : List LSpec × List Nat := ([{ id := 600, known := true, toks := [], items := [.slot 16 (.val (.int .i64)), .slot 17 (.val (.int .i64))], junk := [94, 95, 98, 99, 100, 101, 102, 103, 104, 105, 106, 107, 108, 109, 110, 111, 112, 113, 114, 115, 116, 117, 118, 119, 120, 121, 122, 123, 124, 125, 126, 127, 128, 129, 130, 131, 132, 133, 134, 135, 136, 137, 138, 139, 140, 141, 142, 143, 144, 145, 146, 147, 148, 149, 150, 151, 152, 153, 6, 96, 97], tails := [] }, { id := 601, known := true, toks := [], items := [.slot 18 (.val (.int .i64))], junk := [168, 169, 170, 171, 172, 173, 174, 175, 178, 179, 180, 181, 182, 183, 184, 185, 186, 187, 188, 189, 190, 191, 192, 193, 194, 195, 196, 197, 198, 199, 6, 176, 177], tails := [] }], [])
def spt6 : Tab (List LSpec × List Nat) := (.node .leaf none (.node .leaf none (.node .leaf (some sp6_6) .leaf)))
def spf6 (f : Nat) : List LSpec × List Nat := (spt6.get f).getD ([], [])
theorem pd_law08_ConfRoad : PureD Try.prog cfg 6 p_law08_ConfRoad := fnD spf6 (l := [(12, p_law08_alive), (14, p_conf_Levels), (11, p_conf_Road)]) cfgOk rfl (.cons pd_law08_alive (.cons pd_conf_Levels (.cons pd_conf_Road .nil))) (fun d => by kernel_rfl)
end Go.Proofs.Ytjbgbpcjgkjdcaa
