/- The functions of the program, as functions on plain data. -/
import Derived.Test.YtablhcjjfiepaaaCfg
import Derived.Test.YtablhcjjfiepaaaM6
import Derived.ProofKit
import Derived.Test.YtablhcjjfiepaaaConfS
namespace Go.Proofs.Ytablhcjjfiepaaa
open Go.Eng
set_option linter.unusedVariables false
set_option maxRecDepth 100000
def sp0 (f : Nat) : List LSpec × List Nat := ([], [])

/-- thimblerig/thimbleriglaw25.ready -/
noncomputable def law25_ready (d0 : (Int) × (Int)) : Option ((Int) × ((Int) × ((List (Int)) × ((List (Int)) × ((Bool) × ((Bool) × (Unit))))))) :=
 if (Dat.Le (Dat.addN 0 1) (Dat.len (7 :: ([] : List (Int))))) then if (Dat.Le (Dat.addN 0 2) (Dat.len (d0.2 :: (0 :: ([] : List (Int)))))) then some (2, (d0.1, ((Dat.seg (7 :: ([] : List (Int))) 0 1), ((Dat.seg (d0.2 :: (0 :: ([] : List (Int)))) 0 2), (true, (false, ()))))))
 else none
 else none
noncomputable def p_law25_ready : PFn := { args := [(.int .i64), (.int .i64)], res := [(.pair (.int .u8) (.pair (.int .i64) (.pair (.list (.int .u8)) (.pair (.list (.int .i64)) (.pair .bool (.pair .bool .unit))))))], fn := law25_ready }
theorem pd_law25_ready : PureD Try.prog cfg 15 p_law25_ready := fnD sp0 (l := []) cfgOk cfgGlob .nil (fun d => by kernel_rfl)

/-- thimblerig/thimbleriglaw25.two -/
noncomputable def law25_two (d0 : Unit) : Option ((Int) × ((Int) × ((Int) × ((Int) × ((Int) × ((Int) × ((Int) × ((Int) × ((Int) × (Unit)))))))))) :=
 some (4, (1, (2, (1, (4, (2, (2, (2, (4, ())))))))))
noncomputable def p_law25_two : PFn := { args := [], res := [(.pair (.int .i64) (.pair (.int .i64) (.pair (.int .i64) (.pair (.int .i64) (.pair (.int .i64) (.pair (.int .i64) (.pair (.int .i64) (.pair (.int .i64) (.pair (.int .i64) .unit)))))))))], fn := law25_two }
theorem pd_law25_two : PureD Try.prog cfg 9 p_law25_two := fnD sp0 (l := []) cfgOk cfgGlob .nil (fun d => by kernel_rfl)

/-- (thimblerig/conf.bound(int)).holds -/
noncomputable def conf_bound_int_holds (d0 : (Int) × ((Int) × ((Int) × (Unit)))) : Option (Bool) :=
 (bif (Dat.ile d0.2.1 d0.1) then some (Dat.pickB true (Dat.ile d0.1 d0.2.2.1) false)
 else some false)
noncomputable def p_conf_bound_int_holds : PFn := { args := [(.pair (.int .i64) (.pair (.int .i64) (.pair (.int .i64) .unit)))], res := [.bool], fn := conf_bound_int_holds }
theorem pd_conf_bound_int_holds : PureD Try.prog cfg 79 p_conf_bound_int_holds := fnD sp0 (l := []) cfgOk cfgGlob .nil (fun d => by kernel_rfl)

/-- thimblerig/geo.Check -/
noncomputable def geo_Check (d0 : Int) : Option (Int) :=
 (bif (Dat.ilt d0 1) then some 2
 else (bif (Dat.pickB false true (Dat.igt d0 6)) then some 2
 else some 0))
noncomputable def p_geo_Check : PFn := { args := [(.int .i64)], res := [(.int .i64)], fn := geo_Check }
theorem pd_geo_Check : PureD Try.prog cfg 98 p_geo_Check := fnD sp0 (l := []) cfgOk cfgGlob .nil (fun d => by kernel_rfl)

/-- thimblerig/geo.Leaves -/
noncomputable def geo_Leaves (d0 : Int) : Option ((Int) × (Int)) :=
 Dat.bind (geo_Check d0) fun (x1 : Int) =>
 (bif (Dat.ine x1 0) then some (0, x1)
 else if (Dat.Neg d0) then none
 else Dat.bnd (Dat.shl .i64 1 d0) fun (x4 : Int) =>
 some (x4, 0))
noncomputable def p_geo_Leaves : PFn := { args := [(.int .i64)], res := [(.int .i64), (.int .i64)], fn := geo_Leaves }
theorem pd_geo_Leaves : PureD Try.prog cfg 97 p_geo_Leaves := fnD sp0 (l := [(98, p_geo_Check)]) cfgOk cfgGlob (.cons pd_geo_Check .nil) (fun d => by kernel_rfl)

/-- thimblerig/conf.high -/
noncomputable def conf_high (d0 : Int) : Option (Int) :=
 Dat.loop (fun (s1 : Int) k2 =>
 Dat.bind (geo_Leaves s1) fun (x3 : (Int) × (Int)) =>
 (bif (Dat.ine x3.2 0) then some s1
 else (bif (Dat.pickB false true (Dat.ige x3.1 d0)) then some s1
 else Dat.bnd (Dat.wrap .i64 (Dat.add s1 1)) fun (x4 : Int) =>
 k2 x4))) 1
noncomputable def p_conf_high : PFn := { args := [(.int .i64)], res := [(.int .i64)], fn := conf_high }
def sp95_95 : List LSpec × List Nat := ([{ id := 9500, known := true, toks := [], items := [.slot 3 (.val (.int .i64))], junk := [9, 10, 8, 11, 12, 4, 5, 13, 14, 15, 16, 17, 18, 19, 20, 2, 6, 7], tails := [] }], [])
def spt95 : Tab (List LSpec × List Nat) := (.node (.node (.node (.node (.node (.node .leaf none (.node .leaf (some sp95_95) .leaf)) none .leaf) none .leaf) none .leaf) none .leaf) none .leaf)
def spf95 (f : Nat) : List LSpec × List Nat := (spt95.get f).getD ([], [])
theorem pd_conf_high : PureD Try.prog cfg 95 p_conf_high := fnD spf95 (l := [(97, p_geo_Leaves)]) cfgOk cfgGlob (.cons pd_geo_Leaves .nil) (fun d => by kernel_rfl)

/-- thimblerig/conf.level -/
noncomputable def conf_level (d0 : ((Int) × ((Int) × ((Int) × ((Int) × ((Int) × ((Int) × ((Int) × ((Int) × ((Int) × (Unit)))))))))) × ((Int) × (Int))) : Option ((Int) × ((Int) × ((Int) × ((Int) × (Unit))))) :=
 Dat.bnd (Dat.wrap .i64 (Dat.add 8 d0.2.2)) fun (x1 : Int) =>
 Dat.bnd (Dat.wrap .i64 (Dat.mul d0.1.2.2.2.1 x1)) fun (x2 : Int) =>
 Dat.bnd (Dat.wrap .i64 (Dat.add x2 64)) fun (x3 : Int) =>
 Dat.bind (conf_high d0.2.1) fun (x4 : Int) =>
 some (d0.2.1, (d0.2.2, (x4, (x3, ()))))
noncomputable def p_conf_level : PFn := { args := [(.pair (.int .i64) (.pair (.int .i64) (.pair (.int .i64) (.pair (.int .i64) (.pair (.int .i64) (.pair (.int .i64) (.pair (.int .i64) (.pair (.int .i64) (.pair (.int .i64) .unit))))))))), (.int .i64), (.int .i64)], res := [(.pair (.int .i64) (.pair (.int .i64) (.pair (.int .i64) (.pair (.int .i64) .unit))))], fn := conf_level }
theorem pd_conf_level : PureD Try.prog cfg 90 p_conf_level := fnD sp0 (l := [(95, p_conf_high)]) cfgOk cfgGlob (.cons pd_conf_high .nil) (fun d => by kernel_rfl)

/-- thimblerig/conf.isLast -/
noncomputable def conf_isLast (d0 : ((Int) × ((Int) × ((Int) × ((Int) × ((Int) × ((Int) × ((Int) × ((Int) × ((Int) × (Unit)))))))))) × ((Int) × ((Int) × ((Int) × ((Int) × (Unit)))))) : Option (Bool) :=
 some (Dat.ile d0.2.1 d0.1.2.2.2.2.2.2.2.2.1)
noncomputable def p_conf_isLast : PFn := { args := [(.pair (.int .i64) (.pair (.int .i64) (.pair (.int .i64) (.pair (.int .i64) (.pair (.int .i64) (.pair (.int .i64) (.pair (.int .i64) (.pair (.int .i64) (.pair (.int .i64) .unit))))))))), (.pair (.int .i64) (.pair (.int .i64) (.pair (.int .i64) (.pair (.int .i64) .unit))))], res := [.bool], fn := conf_isLast }
theorem pd_conf_isLast : PureD Try.prog cfg 91 p_conf_isLast := fnD sp0 (l := []) cfgOk cfgGlob .nil (fun d => by kernel_rfl)

/-- thimblerig/conf.Check -/
noncomputable def conf_Check (d0 : (Int) × ((Int) × ((Int) × ((Int) × ((Int) × ((Int) × ((Int) × ((Int) × ((Int) × (Unit)))))))))) : Option (Int) :=
 Dat.bind (conf_bounds (d0.1, (d0.2.1, (d0.2.2.1, (d0.2.2.2.1, (d0.2.2.2.2.1, (d0.2.2.2.2.2.1, (d0.2.2.2.2.2.2.1, (d0.2.2.2.2.2.2.2.1, (d0.2.2.2.2.2.2.2.2.1, ())))))))))) fun (x1 : List ((Int) × ((Int) × ((Int) × (Unit))))) =>
 Dat.loop (fun (s2 : Int) k3 =>
 (bif (Dat.ilt s2 9) then if (Dat.In s2 9) then Dat.bnd (Dat.get x1 (Dat.toN s2) (0, (0, (0, ())))) fun (x6 : (Int) × ((Int) × ((Int) × (Unit)))) =>
 Dat.bind (conf_bound_int_holds (x6.1, (x6.2.1, (x6.2.2.1, ())))) fun (x7 : Bool) =>
 (bif (Dat.bnot x7) then some 8
 else Dat.bnd (Dat.wrap .i64 (Dat.add s2 1)) fun (x8 : Int) =>
 k3 x8)
 else none
 else Dat.bind (conf_level ((d0.1, (d0.2.1, (d0.2.2.1, (d0.2.2.2.1, (d0.2.2.2.2.1, (d0.2.2.2.2.2.1, (d0.2.2.2.2.2.2.1, (d0.2.2.2.2.2.2.2.1, (d0.2.2.2.2.2.2.2.2.1, ()))))))))), (d0.1, d0.2.1))) fun (x9 : (Int) × ((Int) × ((Int) × ((Int) × (Unit))))) =>
 Dat.loop (fun (s10 : ((Int) × ((Int) × ((Int) × (Int)))) × (Int)) k11 =>
 Dat.bnd (Dat.wrap .i64 (Dat.add s10.2 1)) fun (x12 : Int) =>
 Dat.bind (conf_isLast ((d0.1, (d0.2.1, (d0.2.2.1, (d0.2.2.2.1, (d0.2.2.2.2.1, (d0.2.2.2.2.2.1, (d0.2.2.2.2.2.2.1, (d0.2.2.2.2.2.2.2.1, (d0.2.2.2.2.2.2.2.2.1, ()))))))))), (s10.1.1, (s10.1.2.1, (s10.1.2.2.1, (s10.1.2.2.2, ())))))) fun (x13 : Bool) =>
 (bif (Dat.pickB true (Dat.bnot x13) false) then Dat.bnd (Dat.wrap .i64 (Dat.add s10.1.1 d0.2.2.1)) fun (x14 : Int) =>
 Dat.bnd (Dat.wrap .i64 (Dat.sub x14 1)) fun (x15 : Int) =>
 if (Dat.IsZ d0.2.2.1) then none
 else Dat.bnd (Dat.wrap .i64 (Dat.tdiv x15 d0.2.2.1)) fun (x18 : Int) =>
 Dat.bnd (Dat.wrap .i64 (Dat.mul 4 d0.2.2.1)) fun (x19 : Int) =>
 Dat.bind (conf_level ((d0.1, (d0.2.1, (d0.2.2.1, (d0.2.2.2.1, (d0.2.2.2.2.1, (d0.2.2.2.2.2.1, (d0.2.2.2.2.2.2.1, (d0.2.2.2.2.2.2.2.1, (d0.2.2.2.2.2.2.2.2.1, ()))))))))), (x18, x19))) fun (x20 : (Int) × ((Int) × ((Int) × ((Int) × (Unit))))) =>
 k11 ((x20.1, (x20.2.1, (x20.2.2.1, x20.2.2.2.1))), x12)
 else (bif (Dat.igt x12 4) then some 8
 else some 0))) ((x9.1, (x9.2.1, (x9.2.2.1, x9.2.2.2.1))), 0))) 0
noncomputable def p_conf_Check : PFn := { args := [(.pair (.int .i64) (.pair (.int .i64) (.pair (.int .i64) (.pair (.int .i64) (.pair (.int .i64) (.pair (.int .i64) (.pair (.int .i64) (.pair (.int .i64) (.pair (.int .i64) .unit)))))))))], res := [(.int .i64)], fn := conf_Check }
def sp41_89 : List LSpec × List Nat := ([{ id := 8900, known := true, toks := [], items := [.cells 1000003 [.val (.int .i64), .val (.int .i64), .val (.int .i64), .val (.int .i64)], .cells 1 [.val (.int .i64)]], junk := [10, 11, 12, 13, 14, 15, 16, 17, 18, 19, 20, 21, 22, 23, 24, 25, 26, 27, 28, 29, 30, 31, 32], tails := [] }], [])
def sp41_41 : List LSpec × List Nat := ([{ id := 4100, known := true, toks := [], items := [.slot 8 (.val (.int .i64))], junk := [9, 10, 4, 11, 12, 13, 2, 14], tails := [] }], [])
def spt41 : Tab (List LSpec × List Nat) := (.node (.node .leaf none (.node (.node .leaf none (.node (.node .leaf (some sp41_41) .leaf) none (.node (.node .leaf (some sp41_89) .leaf) none .leaf))) none .leaf)) none .leaf)
def spf41 (f : Nat) : List LSpec × List Nat := (spt41.get f).getD ([], [])
theorem pd_conf_Check : PureD Try.prog cfg 41 p_conf_Check := fnD spf41 (l := [(78, p_conf_bounds), (79, p_conf_bound_int_holds), (90, p_conf_level), (91, p_conf_isLast)]) cfgOk cfgGlob (.cons pd_conf_bounds (.cons pd_conf_bound_int_holds (.cons pd_conf_level (.cons pd_conf_isLast .nil)))) (fun d => by kernel_rfl)

/-- thimblerig/frames.isPlace -/
noncomputable def frames_isPlace (d0 : ((List ((Int) × ((Int) × ((List (Int)) × ((List (Int)) × ((Bool) × ((Bool) × (Unit)))))))) × ((Int) × (Unit))) × (Int)) : Option (Bool) :=
 (bif (Dat.ige d0.2 0) then some (Dat.pickB true (Dat.ilt d0.2 (Dat.ofN (Dat.len d0.1.1))) false)
 else some false)
noncomputable def p_frames_isPlace : PFn := { args := [(.pair (.list (.pair (.int .u8) (.pair (.int .i64) (.pair (.list (.int .u8)) (.pair (.list (.int .i64)) (.pair .bool (.pair .bool .unit))))))) (.pair (.int .i64) .unit)), (.int .i64)], res := [.bool], fn := frames_isPlace }
theorem pd_frames_isPlace : PureD Try.prog cfg 42 p_frames_isPlace := fnD sp0 (l := []) cfgOk cfgGlob .nil (fun d => by kernel_rfl)

/-- thimblerig/frames.isPinned$1 -/
noncomputable def frames_isPinned_1 (d0 : Int) : Option (Bool) :=
 some (Dat.igt d0 0)
noncomputable def p_frames_isPinned_1 : PFn := { args := [(.int .i64)], res := [.bool], fn := frames_isPinned_1 }
theorem pd_frames_isPinned_1 : PureD Try.prog cfg 82 p_frames_isPinned_1 := fnD sp0 (l := []) cfgOk cfgGlob .nil (fun d => by kernel_rfl)

/-- thimblerig/frames.isPinned -/
noncomputable def frames_isPinned (d0 : (Int) × ((Int) × ((List (Int)) × ((List (Int)) × ((Bool) × ((Bool) × (Unit))))))) : Option (Bool) :=
 Dat.loop (fun (s1 : Int) k2 =>
 (bif (Dat.ilt s1 (Dat.ofN (Dat.len d0.2.2.2.1))) then if (Dat.Ix s1 (Dat.len d0.2.2.2.1)) then Dat.bnd (Dat.get d0.2.2.2.1 (Dat.toN s1) 0) fun (x5 : Int) =>
 Dat.bind (frames_isPinned_1 x5) fun (x6 : Bool) =>
 (bif x6 then some (Dat.ige s1 0)
 else Dat.bnd (Dat.wrap .i64 (Dat.add s1 1)) fun (x7 : Int) =>
 k2 x7)
 else none
 else some (Dat.ige (-1) 0))) 0
noncomputable def p_frames_isPinned : PFn := { args := [(.pair (.int .u8) (.pair (.int .i64) (.pair (.list (.int .u8)) (.pair (.list (.int .i64)) (.pair .bool (.pair .bool .unit))))))], res := [.bool], fn := frames_isPinned }
def sp44_92 : List LSpec × List Nat := ([{ id := 9200, known := true, toks := [], items := [.slot 8 (.val (.int .i64))], junk := [9, 10, 5, 11, 12, 13, 14, 15, 16, 17, 4, 18], tails := [] }], [])
def spt44 : Tab (List LSpec × List Nat) := (.node .leaf none (.node (.node .leaf none (.node .leaf none (.node .leaf none (.node (.node .leaf (some sp44_92) .leaf) none .leaf)))) none .leaf))
def spf44 (f : Nat) : List LSpec × List Nat := (spt44.get f).getD ([], [])
theorem pd_frames_isPinned : PureD Try.prog cfg 44 p_frames_isPinned := fnD spf44 (l := [(82, p_frames_isPinned_1)]) cfgOk cfgGlob (.cons pd_frames_isPinned_1 .nil) (fun d => by kernel_rfl)

/-- thimblerig/frames.mayBe -/
noncomputable def frames_mayBe (d0 : ((Int) × ((Int) × ((Int) × ((Int) × ((Int) × ((Int) × ((Int) × ((Int) × ((Int) × (Unit)))))))))) × ((Int) × ((Int) × ((List (Int)) × ((List (Int)) × ((Bool) × ((Bool) × (Unit)))))))) : Option (Bool) :=
 (bif (Dat.ine (Dat.ofN (Dat.len d0.2.2.2.2.1)) d0.1.2.2.2.2.2.2.1) then some false
 else Dat.loop (fun (s1 : Int) k2 =>
 (bif (Dat.ilt s1 (Dat.ofN (Dat.len d0.2.2.2.2.1))) then if (Dat.Ix s1 (Dat.len d0.2.2.2.2.1)) then Dat.bnd (Dat.get d0.2.2.2.2.1 (Dat.toN s1) 0) fun (x5 : Int) =>
 (bif (Dat.ilt x5 0) then some false
 else (bif (Dat.pickB false true (Dat.igt x5 8)) then some false
 else Dat.bnd (Dat.wrap .i64 (Dat.add s1 1)) fun (x6 : Int) =>
 k2 x6))
 else none
 else (bif (Dat.ige d0.2.2.1 0) then (bif (Dat.ieq d0.2.1 0) then (bif (Dat.ieq d0.2.2.1 0) then (bif (Dat.pickB true (Dat.ieq (Dat.ofN (Dat.len d0.2.2.2.1)) 0) false) then Dat.bind (frames_isPinned (d0.2.1, (d0.2.2.1, (d0.2.2.2.1, (d0.2.2.2.2.1, (d0.2.2.2.2.2.1, (d0.2.2.2.2.2.2.1, ()))))))) fun (x7 : Bool) =>
 (bif (Dat.pickB true (Dat.bnot x7) false) then (bif (Dat.pickB true (Dat.bnot d0.2.2.2.2.2.1) false) then some (Dat.pickB true (Dat.bnot d0.2.2.2.2.2.2.1) false)
 else some false)
 else some false)
 else some false)
 else some false)
 else (bif (Dat.ieq d0.2.1 1) then (bif (Dat.pickB true (Dat.ilt d0.2.2.1 d0.1.1) false) then (bif (Dat.pickB true (Dat.ieq (Dat.ofN (Dat.len d0.2.2.2.1)) 0) false) then (bif (Dat.pickB true (Dat.bnot d0.2.2.2.2.2.2.1) false) then Dat.bind (frames_isPinned (d0.2.1, (d0.2.2.1, (d0.2.2.2.1, (d0.2.2.2.2.1, (d0.2.2.2.2.2.1, (d0.2.2.2.2.2.2.1, ()))))))) fun (x8 : Bool) =>
 some (Dat.pickB true x8 false)
 else some false)
 else some false)
 else some false)
 else (bif (Dat.ieq d0.2.1 2) then (bif (Dat.pickB true (Dat.ilt d0.2.2.1 d0.1.1) false) then some (Dat.pickB true (Dat.ieq (Dat.ofN (Dat.len d0.2.2.2.1)) d0.1.2.1) false)
 else some false)
 else some false)))
 else (bif (Dat.ieq d0.2.1 0) then (bif (Dat.ieq d0.2.2.1 0) then (bif (Dat.pickB true (Dat.ieq (Dat.ofN (Dat.len d0.2.2.2.1)) 0) false) then Dat.bind (frames_isPinned (d0.2.1, (d0.2.2.1, (d0.2.2.2.1, (d0.2.2.2.2.1, (d0.2.2.2.2.2.1, (d0.2.2.2.2.2.2.1, ()))))))) fun (x9 : Bool) =>
 (bif (Dat.pickB true (Dat.bnot x9) false) then (bif (Dat.pickB true (Dat.bnot d0.2.2.2.2.2.1) false) then some (Dat.pickB true (Dat.bnot d0.2.2.2.2.2.2.1) false)
 else some false)
 else some false)
 else some false)
 else some false)
 else (bif (Dat.ieq d0.2.1 1) then some false
 else (bif (Dat.ieq d0.2.1 2) then some false
 else some false)))))) 0)
noncomputable def p_frames_mayBe : PFn := { args := [(.pair (.int .i64) (.pair (.int .i64) (.pair (.int .i64) (.pair (.int .i64) (.pair (.int .i64) (.pair (.int .i64) (.pair (.int .i64) (.pair (.int .i64) (.pair (.int .i64) .unit))))))))), (.pair (.int .u8) (.pair (.int .i64) (.pair (.list (.int .u8)) (.pair (.list (.int .i64)) (.pair .bool (.pair .bool .unit))))))], res := [.bool], fn := frames_mayBe }
def sp65_65 : List LSpec × List Nat := ([{ id := 6500, known := true, toks := [], items := [.slot 17 (.val (.int .i64))], junk := [18, 19, 20, 6, 21, 22, 23, 24, 25, 26, 4, 27], tails := [] }], [])
def spt65 : Tab (List LSpec × List Nat) := (.node (.node .leaf none (.node (.node (.node (.node (.node .leaf (some sp65_65) .leaf) none .leaf) none .leaf) none .leaf) none .leaf)) none .leaf)
def spf65 (f : Nat) : List LSpec × List Nat := (spt65.get f).getD ([], [])
theorem pd_frames_mayBe : PureD Try.prog cfg 65 p_frames_mayBe := fnD spf65 (l := [(44, p_frames_isPinned)]) cfgOk cfgGlob (.cons pd_frames_isPinned .nil) (fun d => by kernel_rfl)

/-- thimblerig/frames.Check -/
noncomputable def frames_Check (d0 : ((Int) × ((Int) × ((Int) × ((Int) × ((Int) × ((Int) × ((Int) × ((Int) × ((Int) × (Unit)))))))))) × ((List ((Int) × ((Int) × ((List (Int)) × ((List (Int)) × ((Bool) × ((Bool) × (Unit)))))))) × ((Int) × (Unit)))) : Option (Int) :=
 Dat.bind (conf_Check (d0.1.1, (d0.1.2.1, (d0.1.2.2.1, (d0.1.2.2.2.1, (d0.1.2.2.2.2.1, (d0.1.2.2.2.2.2.1, (d0.1.2.2.2.2.2.2.1, (d0.1.2.2.2.2.2.2.2.1, (d0.1.2.2.2.2.2.2.2.2.1, ())))))))))) fun (x1 : Int) =>
 (bif (Dat.ine x1 0) then some x1
 else (bif (Dat.ine (Dat.ofN (Dat.len d0.2.1)) d0.1.2.2.2.2.2.1) then some 8
 else Dat.bind (frames_isPlace ((d0.2.1, (d0.2.2.1, ())), d0.2.2.1)) fun (x2 : Bool) =>
 (bif (Dat.pickB false true (Dat.bnot x2)) then some 8
 else Dat.loop (fun (s3 : (Int) × (List ((Int) × (Int)))) k4 =>
 (bif (Dat.ilt s3.1 (Dat.ofN (Dat.len d0.2.1))) then if (Dat.Ix s3.1 (Dat.len d0.2.1)) then Dat.bnd (Dat.get d0.2.1 (Dat.toN s3.1) (0, (0, (([] : List (Int)), (([] : List (Int)), (false, (false, ()))))))) fun (x7 : (Int) × ((Int) × ((List (Int)) × ((List (Int)) × ((Bool) × ((Bool) × (Unit))))))) =>
 Dat.bind (frames_mayBe ((d0.1.1, (d0.1.2.1, (d0.1.2.2.1, (d0.1.2.2.2.1, (d0.1.2.2.2.2.1, (d0.1.2.2.2.2.2.1, (d0.1.2.2.2.2.2.2.1, (d0.1.2.2.2.2.2.2.2.1, (d0.1.2.2.2.2.2.2.2.2.1, ()))))))))), (x7.1, (x7.2.1, (x7.2.2.1, (x7.2.2.2.1, (x7.2.2.2.2.1, (x7.2.2.2.2.2.1, ())))))))) fun (x8 : Bool) =>
 (bif (Dat.bnot x8) then some 8
 else (bif (Dat.ieq x7.1 0) then Dat.bnd (Dat.wrap .i64 (Dat.add s3.1 1)) fun (x9 : Int) =>
 k4 (x9, s3.2)
 else Dat.bnd (Dat.mget s3.2 x7.2.1) fun (x10 : Int) =>
 Dat.bnd (Dat.wrap .i64 (Dat.add x10 1)) fun (x11 : Int) =>
 Dat.bnd (Dat.mput s3.2 x7.2.1 x11) fun (x12 : List ((Int) × (Int))) =>
 Dat.bnd (Dat.mget x12 x7.2.1) fun (x13 : Int) =>
 (bif (Dat.igt x13 1) then some 8
 else Dat.bnd (Dat.wrap .i64 (Dat.add s3.1 1)) fun (x14 : Int) =>
 k4 (x14, x12))))
 else none
 else some 0)) (0, ([] : List ((Int) × (Int)))))))
noncomputable def p_frames_Check : PFn := { args := [(.pair (.int .i64) (.pair (.int .i64) (.pair (.int .i64) (.pair (.int .i64) (.pair (.int .i64) (.pair (.int .i64) (.pair (.int .i64) (.pair (.int .i64) (.pair (.int .i64) .unit))))))))), (.pair (.list (.pair (.int .u8) (.pair (.int .i64) (.pair (.list (.int .u8)) (.pair (.list (.int .i64)) (.pair .bool (.pair .bool .unit))))))) (.pair (.int .i64) .unit))], res := [(.int .i64)], fn := frames_Check }
def sp29_29 : List LSpec × List Nat := ([{ id := 2900, known := true, toks := [], items := [.slot 31 (.val (.int .i64)), .map 1000006 .i64 .i64], junk := [32, 33, 34, 8, 35, 36, 37, 38, 4, 39, 40, 41, 42, 43, 44, 45, 46, 47, 48, 49, 50, 51, 52], tails := [] }], [])
def spt29 : Tab (List LSpec × List Nat) := (.node (.node .leaf none (.node .leaf none (.node .leaf none (.node .leaf (some sp29_29) .leaf)))) none .leaf)
def spf29 (f : Nat) : List LSpec × List Nat := (spt29.get f).getD ([], [])
theorem pd_frames_Check : PureD Try.prog cfg 29 p_frames_Check := fnD spf29 (l := [(41, p_conf_Check), (42, p_frames_isPlace), (65, p_frames_mayBe)]) cfgOk cfgGlob (.cons pd_conf_Check (.cons pd_frames_isPlace (.cons pd_frames_mayBe .nil))) (fun d => by kernel_rfl)

/-- slices.Clone(()thimblerig/api.Frame,thimblerig/api.Frame) -/
noncomputable def slices_Clone_api_Frame_api_Frame (d0 : List ((Int) × ((Int) × ((List (Int)) × ((List (Int)) × ((Bool) × ((Bool) × (Unit)))))))) : Option (List ((Int) × ((Int) × ((List (Int)) × ((List (Int)) × ((Bool) × ((Bool) × (Unit)))))))) :=
 if (Dat.Le (Dat.addN 0 0) (Dat.len ([] : List ((Int) × ((Int) × ((List (Int)) × ((List (Int)) × ((Bool) × ((Bool) × (Unit)))))))))) then if (Dat.EqN (Dat.len d0) 0) then if (Dat.Le (Dat.addN 0 0) (Dat.len ([] : List ((Int) × ((Int) × ((List (Int)) × ((List (Int)) × ((Bool) × ((Bool) × (Unit)))))))))) then some (Dat.seg ([] : List ((Int) × ((Int) × ((List (Int)) × ((List (Int)) × ((Bool) × ((Bool) × (Unit)))))))) 0 0)
 else none
 else if (Dat.Big (Dat.len (Dat.seg ([] : List ((Int) × ((Int) × ((List (Int)) × ((List (Int)) × ((Bool) × ((Bool) × (Unit)))))))) 0 0)) (Dat.len d0) 72) then none
 else Dat.bnd (Dat.app (Dat.seg ([] : List ((Int) × ((Int) × ((List (Int)) × ((List (Int)) × ((Bool) × ((Bool) × (Unit)))))))) 0 0) d0) fun (x9 : List ((Int) × ((Int) × ((List (Int)) × ((List (Int)) × ((Bool) × ((Bool) × (Unit)))))))) =>
 if (Dat.Le (Dat.addN 0 (Dat.len x9)) (Dat.len x9)) then some (Dat.seg x9 0 (Dat.len x9))
 else none
 else none
noncomputable def p_slices_Clone_api_Frame_api_Frame : PFn := { args := [(.list (.pair (.int .u8) (.pair (.int .i64) (.pair (.list (.int .u8)) (.pair (.list (.int .i64)) (.pair .bool (.pair .bool .unit)))))))], res := [(.list (.pair (.int .u8) (.pair (.int .i64) (.pair (.list (.int .u8)) (.pair (.list (.int .i64)) (.pair .bool (.pair .bool .unit)))))))], fn := slices_Clone_api_Frame_api_Frame }
noncomputable def cx63 : CloneX Try.prog cfg 63 39 (.pair (.int .u8) (.pair (.int .i64) (.pair (.list (.int .u8)) (.pair (.list (.int .i64)) (.pair .bool (.pair .bool .unit)))))) := clx xf63 39 (xf63.body.cOps.getD 0 ⟨none, .move (.tmp 0), 0, "", #[], none⟩) (xf63.body.cOps.getD 1 ⟨none, .move (.tmp 0), 0, "", #[], none⟩) (by kernel_rfl) (by kernel_rfl) (by kernel_rfl) (by kernel_rfl) (by kernel_rfl) (by kernel_rfl) (by kernel_rfl) (by kernel_rfl) (by kernel_rfl)
def sp63_63 : List LSpec × List Nat := ([], [3])
def spt63 : Tab (List LSpec × List Nat) := (.node (.node (.node (.node (.node (.node (.node .leaf (some sp63_63) .leaf) none .leaf) none .leaf) none .leaf) none .leaf) none .leaf) none .leaf)
def spf63 (f : Nat) : List LSpec × List Nat := (spt63.get f).getD ([], [])
theorem pd_slices_Clone_api_Frame_api_Frame : PureD Try.prog cfg 63 p_slices_Clone_api_Frame_api_Frame := cloneD spf63 cfgOk cfgGlob cx63 (of_decide_eq_true (by kernel_rfl)) (by kernel_rfl) (by kernel_rfl) (by kernel_rfl) (fun d => by kernel_rfl) (fun d => by kernel_rfl) (by kernel_rfl) (fun d r h => by
  unfold slices_Clone_api_Frame_api_Frame at h
  split at h
  · split at h
    · rename_i e
      have h1 := Option.some.inj h
      rw [← h1]
      exact (List.length_eq_zero_iff.1 e).symm
    · split at h
      · cases h
      · simp only [Dat.bnd] at h
        split at h
        · have h1 : (d.drop 0).take d.length = r := Option.some.inj h
          rw [← h1]
          simp
        · cases h
  · cases h)
noncomputable def o_slices_Clone_api_Frame_api_Frame : OFn := { args := [(.list (.pair (.int .u8) (.pair (.int .i64) (.pair (.list (.int .u8)) (.pair (.list (.int .i64)) (.pair .bool (.pair .bool .unit)))))))], ores := [(.own (.pair (.int .u8) (.pair (.int .i64) (.pair (.list (.int .u8)) (.pair (.list (.int .i64)) (.pair .bool (.pair .bool .unit)))))))], fn := slices_Clone_api_Frame_api_Frame }
theorem od_slices_Clone_api_Frame_api_Frame : OwnD Try.prog cfg 63 o_slices_Clone_api_Frame_api_Frame ∧ True := ⟨cloneO spf63 cfgOk cfgGlob cx63 (of_decide_eq_true (by kernel_rfl)) (by kernel_rfl) (by kernel_rfl) (by kernel_rfl) (fun d => by kernel_rfl) (fun d => by kernel_rfl) (by kernel_rfl) (fun d r h => by
  unfold slices_Clone_api_Frame_api_Frame at h
  split at h
  · split at h
    · rename_i e
      have h1 := Option.some.inj h
      rw [← h1]
      exact (List.length_eq_zero_iff.1 e).symm
    · split at h
      · cases h
      · simp only [Dat.bnd] at h
        split at h
        · have h1 : (d.drop 0).take d.length = r := Option.some.inj h
          rw [← h1]
          simp
        · cases h
  · cases h), trivial⟩

/-- slices.Clone(()byte,byte) -/
noncomputable def slices_Clone_byte_byte (d0 : List (Int)) : Option (List (Int)) :=
 if (Dat.Le (Dat.addN 0 0) (Dat.len ([] : List (Int)))) then if (Dat.Big (Dat.len (Dat.seg ([] : List (Int)) 0 0)) (Dat.len d0) 1) then none
 else Dat.bnd (Dat.app (Dat.seg ([] : List (Int)) 0 0) d0) fun (x5 : List (Int)) =>
 some x5
 else none
noncomputable def p_slices_Clone_byte_byte : PFn := { args := [(.list (.int .u8))], res := [(.list (.int .u8))], fn := slices_Clone_byte_byte }
noncomputable def cx48 : CloneX Try.prog cfg 48 5 (.int .u8) := clx xf48 5 (xf48.body.cOps.getD 0 ⟨none, .move (.tmp 0), 0, "", #[], none⟩) (xf48.body.cOps.getD 1 ⟨none, .move (.tmp 0), 0, "", #[], none⟩) (by kernel_rfl) (by kernel_rfl) (by kernel_rfl) (by kernel_rfl) (by kernel_rfl) (by kernel_rfl) (by kernel_rfl) (by kernel_rfl) (by kernel_rfl)
theorem pd_slices_Clone_byte_byte : PureD Try.prog cfg 48 p_slices_Clone_byte_byte := cloneD sp0 cfgOk cfgGlob cx48 (of_decide_eq_true (by kernel_rfl)) (by kernel_rfl) (by kernel_rfl) (by kernel_rfl) (fun d => by kernel_rfl) (fun d => by kernel_rfl) (by kernel_rfl) (fun d r h => by
  unfold slices_Clone_byte_byte at h
  split at h
  · split at h
    · cases h
    · have h1 : some d = some r := h
      exact (Option.some.inj h1).symm
  · cases h)

/-- slices.Clone(()int,int) -/
noncomputable def slices_Clone_int_int (d0 : List (Int)) : Option (List (Int)) :=
 if (Dat.Le (Dat.addN 0 0) (Dat.len ([] : List (Int)))) then if (Dat.Big (Dat.len (Dat.seg ([] : List (Int)) 0 0)) (Dat.len d0) 8) then none
 else Dat.bnd (Dat.app (Dat.seg ([] : List (Int)) 0 0) d0) fun (x5 : List (Int)) =>
 some x5
 else none
noncomputable def p_slices_Clone_int_int : PFn := { args := [(.list (.int .i64))], res := [(.list (.int .i64))], fn := slices_Clone_int_int }
noncomputable def cx64 : CloneX Try.prog cfg 64 3 (.int .i64) := clx xf64 3 (xf64.body.cOps.getD 0 ⟨none, .move (.tmp 0), 0, "", #[], none⟩) (xf64.body.cOps.getD 1 ⟨none, .move (.tmp 0), 0, "", #[], none⟩) (by kernel_rfl) (by kernel_rfl) (by kernel_rfl) (by kernel_rfl) (by kernel_rfl) (by kernel_rfl) (by kernel_rfl) (by kernel_rfl) (by kernel_rfl)
theorem pd_slices_Clone_int_int : PureD Try.prog cfg 64 p_slices_Clone_int_int := cloneD sp0 cfgOk cfgGlob cx64 (of_decide_eq_true (by kernel_rfl)) (by kernel_rfl) (by kernel_rfl) (by kernel_rfl) (fun d => by kernel_rfl) (fun d => by kernel_rfl) (by kernel_rfl) (fun d r h => by
  unfold slices_Clone_int_int at h
  split at h
  · split at h
    · cases h
    · have h1 : some d = some r := h
      exact (Option.some.inj h1).symm
  · cases h)

/-- thimblerig/frames.Twin -/
noncomputable def frames_Twin (d0 : (List ((Int) × ((Int) × ((List (Int)) × ((List (Int)) × ((Bool) × ((Bool) × (Unit)))))))) × ((Int) × (Unit))) : Option ((List ((Int) × ((Int) × ((List (Int)) × ((List (Int)) × ((Bool) × ((Bool) × (Unit)))))))) × ((Int) × (Unit))) :=
 Dat.bind (slices_Clone_api_Frame_api_Frame d0.1) fun (x1 : List ((Int) × ((Int) × ((List (Int)) × ((List (Int)) × ((Bool) × ((Bool) × (Unit)))))))) =>
 if (Dat.EqN (Dat.len x1) 0) then Dat.loop (fun (s4 : Int) k5 =>
 (bif (Dat.ilt s4 (Dat.ofN (Dat.len x1))) then if (Dat.Ix s4 (Dat.len x1)) then Dat.bnd (Dat.get x1 (Dat.toN s4) (0, (0, (([] : List (Int)), (([] : List (Int)), (false, (false, ()))))))) fun (x8 : (Int) × ((Int) × ((List (Int)) × ((List (Int)) × ((Bool) × ((Bool) × (Unit))))))) =>
 Dat.bind (slices_Clone_byte_byte x8.2.2.1) fun (x9 : List (Int)) =>
 Dat.bind (slices_Clone_int_int x8.2.2.2.1) fun (x10 : List (Int)) =>
 if (Dat.Ix s4 (Dat.len x1)) then Dat.bnd (Dat.get x1 (Dat.toN s4) (0, (0, (([] : List (Int)), (([] : List (Int)), (false, (false, ()))))))) fun (x13 : (Int) × ((Int) × ((List (Int)) × ((List (Int)) × ((Bool) × ((Bool) × (Unit))))))) =>
 none
 else none
 else none
 else if (Dat.EqN (Dat.len x1) 0) then some (x1, (d0.2.1, ()))
 else none)) 0
 else Dat.loop (fun (s16 : (Int) × (List ((Int) × ((Int) × ((List (Int)) × ((List (Int)) × ((Bool) × ((Bool) × (Unit))))))))) k17 =>
 (bif (Dat.ilt s16.1 (Dat.ofN (Dat.len x1))) then if (Dat.In s16.1 (Dat.len x1)) then if (Dat.Lt (Dat.addN 0 (Dat.toN s16.1)) (Dat.len s16.2)) then Dat.bnd (Dat.get s16.2 (Dat.addN 0 (Dat.toN s16.1)) (0, (0, (([] : List (Int)), (([] : List (Int)), (false, (false, ()))))))) fun (x22 : (Int) × ((Int) × ((List (Int)) × ((List (Int)) × ((Bool) × ((Bool) × (Unit))))))) =>
 Dat.bind (slices_Clone_byte_byte x22.2.2.1) fun (x23 : List (Int)) =>
 Dat.bind (slices_Clone_int_int x22.2.2.2.1) fun (x24 : List (Int)) =>
 if (Dat.In s16.1 (Dat.len x1)) then if (Dat.Lt (Dat.addN 0 (Dat.toN s16.1)) (Dat.len s16.2)) then Dat.bnd (Dat.get s16.2 (Dat.addN 0 (Dat.toN s16.1)) (0, (0, (([] : List (Int)), (([] : List (Int)), (false, (false, ()))))))) fun (x29 : (Int) × ((Int) × ((List (Int)) × ((List (Int)) × ((Bool) × ((Bool) × (Unit))))))) =>
 Dat.bnd (Dat.set s16.2 (Dat.addN 0 (Dat.toN s16.1)) (x29.1, (x29.2.1, (x23, (x29.2.2.2.1, (x29.2.2.2.2.1, (x29.2.2.2.2.2.1, ()))))))) fun (x30 : List ((Int) × ((Int) × ((List (Int)) × ((List (Int)) × ((Bool) × ((Bool) × (Unit)))))))) =>
 if (Dat.In s16.1 (Dat.len x1)) then if (Dat.Lt (Dat.addN 0 (Dat.toN s16.1)) (Dat.len x30)) then Dat.bnd (Dat.get x30 (Dat.addN 0 (Dat.toN s16.1)) (0, (0, (([] : List (Int)), (([] : List (Int)), (false, (false, ()))))))) fun (x35 : (Int) × ((Int) × ((List (Int)) × ((List (Int)) × ((Bool) × ((Bool) × (Unit))))))) =>
 Dat.bnd (Dat.set x30 (Dat.addN 0 (Dat.toN s16.1)) (x35.1, (x35.2.1, (x35.2.2.1, (x24, (x35.2.2.2.2.1, (x35.2.2.2.2.2.1, ()))))))) fun (x36 : List ((Int) × ((Int) × ((List (Int)) × ((List (Int)) × ((Bool) × ((Bool) × (Unit)))))))) =>
 Dat.bnd (Dat.wrap .i64 (Dat.add s16.1 1)) fun (x37 : Int) =>
 k17 (x37, x36)
 else none
 else none
 else none
 else none
 else none
 else none
 else if (Dat.Le (Dat.addN 0 (Dat.len x1)) (Dat.len s16.2)) then some ((Dat.seg s16.2 0 (Dat.len x1)), (d0.2.1, ()))
 else none)) (0, x1)
noncomputable def p_frames_Twin : PFn := { args := [(.pair (.list (.pair (.int .u8) (.pair (.int .i64) (.pair (.list (.int .u8)) (.pair (.list (.int .i64)) (.pair .bool (.pair .bool .unit))))))) (.pair (.int .i64) .unit))], res := [(.pair (.list (.pair (.int .u8) (.pair (.int .i64) (.pair (.list (.int .u8)) (.pair (.list (.int .i64)) (.pair .bool (.pair .bool .unit))))))) (.pair (.int .i64) .unit))], fn := frames_Twin }
def sp27_27 : List LSpec × List Nat := ([{ id := 2700, known := true, toks := [], items := [.slot 15 (.val (.int .i64)), .vec 1000013 (.pair (.int .u8) (.pair (.int .i64) (.pair (.list (.int .u8)) (.pair (.list (.int .i64)) (.pair .bool (.pair .bool .unit))))))], junk := [16, 17, 18, 19, 5, 4, 20, 21, 22, 23, 24, 25, 26, 27, 28, 29, 30, 31, 32, 33, 34, 35, 36], tails := [] }], [])
def spt27 : Tab (List LSpec × List Nat) := (.node (.node (.node .leaf none (.node .leaf none (.node .leaf (some sp27_27) .leaf))) none .leaf) none .leaf)
def spf27 (f : Nat) : List LSpec × List Nat := (spt27.get f).getD ([], [])
noncomputable def o_frames_Twin : OFn := { args := [(.pair (.list (.pair (.int .u8) (.pair (.int .i64) (.pair (.list (.int .u8)) (.pair (.list (.int .i64)) (.pair .bool (.pair .bool .unit))))))) (.pair (.int .i64) .unit))], ores := [(.pair (.own (.pair (.int .u8) (.pair (.int .i64) (.pair (.list (.int .u8)) (.pair (.list (.int .i64)) (.pair .bool (.pair .bool .unit))))))) (.pair (.plain (.int .i64)) (.plain .unit)))], fn := frames_Twin }
theorem od_frames_Twin : OwnD Try.prog cfg 27 o_frames_Twin ∧ PureD Try.prog cfg 27 o_frames_Twin.pfn := fnO spf27 [] (l := [(63, p_slices_Clone_api_Frame_api_Frame), (48, p_slices_Clone_byte_byte), (64, p_slices_Clone_int_int)]) (lo := [(63, o_slices_Clone_api_Frame_api_Frame)]) cfgOk cfgGlob (.cons pd_slices_Clone_api_Frame_api_Frame (.cons pd_slices_Clone_byte_byte (.cons pd_slices_Clone_int_int .nil))) (.cons od_slices_Clone_api_Frame_api_Frame.1 .nil) (fun d => by kernel_rfl)
theorem pd_frames_Twin : PureD Try.prog cfg 27 p_frames_Twin := od_frames_Twin.2

/-- thimblerig/frames.Victim$1 -/
noncomputable def frames_Victim_1 (d0 : (Int) × ((Int) × ((List (Int)) × ((List (Int)) × ((Bool) × ((Bool) × (Unit))))))) : Option ((Int) × ((Int) × ((List (Int)) × ((List (Int)) × ((Bool) × ((Bool) × (Unit))))))) :=
 some (d0.1, (d0.2.1, (d0.2.2.1, (d0.2.2.2.1, (false, (d0.2.2.2.2.2.1, ()))))))
noncomputable def p_frames_Victim_1 : PFn := { args := [(.pair (.int .u8) (.pair (.int .i64) (.pair (.list (.int .u8)) (.pair (.list (.int .i64)) (.pair .bool (.pair .bool .unit))))))], res := [(.pair (.int .u8) (.pair (.int .i64) (.pair (.list (.int .u8)) (.pair (.list (.int .i64)) (.pair .bool (.pair .bool .unit))))))], fn := frames_Victim_1 }
theorem pd_frames_Victim_1 : PureD Try.prog cfg 61 p_frames_Victim_1 := fnD sp0 (l := []) cfgOk cfgGlob .nil (fun d => by kernel_rfl)

/-- thimblerig/frames.Victim -/
noncomputable def frames_Victim (d0 : ((Int) × ((Int) × ((Int) × ((Int) × ((Int) × ((Int) × ((Int) × ((Int) × ((Int) × (Unit)))))))))) × ((List ((Int) × ((Int) × ((List (Int)) × ((List (Int)) × ((Bool) × ((Bool) × (Unit)))))))) × ((Int) × (Unit)))) : Option (((List ((Int) × ((Int) × ((List (Int)) × ((List (Int)) × ((Bool) × ((Bool) × (Unit)))))))) × ((Int) × (Unit))) × ((Int) × (Int))) :=
 Dat.bind (frames_Check ((d0.1.1, (d0.1.2.1, (d0.1.2.2.1, (d0.1.2.2.2.1, (d0.1.2.2.2.2.1, (d0.1.2.2.2.2.2.1, (d0.1.2.2.2.2.2.2.1, (d0.1.2.2.2.2.2.2.2.1, (d0.1.2.2.2.2.2.2.2.2.1, ()))))))))), (d0.2.1, (d0.2.2.1, ())))) fun (x1 : Int) =>
 (bif (Dat.ine x1 0) then some ((([] : List ((Int) × ((Int) × ((List (Int)) × ((List (Int)) × ((Bool) × ((Bool) × (Unit)))))))), (0, ())), (0, x1))
 else Dat.bind (frames_Twin (d0.2.1, (d0.2.2.1, ()))) fun (x2 : (List ((Int) × ((Int) × ((List (Int)) × ((List (Int)) × ((Bool) × ((Bool) × (Unit)))))))) × ((Int) × (Unit))) =>
 if (Dat.EqN (Dat.len x2.1) 0) then Dat.bnd (Dat.wrap .i64 (Dat.mul 2 (Dat.ofN (Dat.len d0.2.1)))) fun (x5 : Int) =>
 Dat.loop (fun (s6 : (Int) × ((List ((Int) × ((Int) × ((List (Int)) × ((List (Int)) × ((Bool) × ((Bool) × (Unit)))))))) × (Int))) k7 =>
 (bif (Dat.ilt s6.1 x5) then Dat.bnd (Dat.wrap .i64 (Dat.add d0.2.2.1 s6.1)) fun (x8 : Int) =>
 if (Dat.IsZ (Dat.ofN (Dat.len d0.2.1))) then none
 else Dat.bnd (Dat.tmod x8 (Dat.ofN (Dat.len d0.2.1))) fun (x11 : Int) =>
 if (Dat.Ix x11 (Dat.len s6.2.1)) then Dat.bnd (Dat.get s6.2.1 (Dat.toN x11) (0, (0, (([] : List (Int)), (([] : List (Int)), (false, (false, ()))))))) fun (x14 : (Int) × ((Int) × ((List (Int)) × ((List (Int)) × ((Bool) × ((Bool) × (Unit))))))) =>
 (bif (Dat.ieq x14.1 1) then Dat.bnd (Dat.wrap .i64 (Dat.add s6.1 1)) fun (x15 : Int) =>
 k7 (x15, (s6.2.1, s6.2.2))
 else Dat.bind (frames_isPinned (x14.1, (x14.2.1, (x14.2.2.1, (x14.2.2.2.1, (x14.2.2.2.2.1, (x14.2.2.2.2.2.1, ()))))))) fun (x16 : Bool) =>
 (bif (Dat.pickB false true x16) then Dat.bnd (Dat.wrap .i64 (Dat.add s6.1 1)) fun (x17 : Int) =>
 k7 (x17, (s6.2.1, s6.2.2))
 else (bif x14.2.2.2.2.1 then Dat.bind (slices_Clone_api_Frame_api_Frame s6.2.1) fun (x18 : List ((Int) × ((Int) × ((List (Int)) × ((List (Int)) × ((Bool) × ((Bool) × (Unit)))))))) =>
 if (Dat.EqN (Dat.len x18) 0) then if (Dat.Ix x11 (Dat.len x18)) then Dat.bnd (Dat.get x18 (Dat.toN x11) (0, (0, (([] : List (Int)), (([] : List (Int)), (false, (false, ()))))))) fun (x23 : (Int) × ((Int) × ((List (Int)) × ((List (Int)) × ((Bool) × ((Bool) × (Unit))))))) =>
 Dat.bind (frames_Victim_1 (x23.1, (x23.2.1, (x23.2.2.1, (x23.2.2.2.1, (x23.2.2.2.2.1, (x23.2.2.2.2.2.1, ()))))))) fun (x24 : (Int) × ((Int) × ((List (Int)) × ((List (Int)) × ((Bool) × ((Bool) × (Unit))))))) =>
 if (Dat.Ix x11 (Dat.len x18)) then Dat.bnd (Dat.get x18 (Dat.toN x11) (0, (0, (([] : List (Int)), (([] : List (Int)), (false, (false, ()))))))) fun (x27 : (Int) × ((Int) × ((List (Int)) × ((List (Int)) × ((Bool) × ((Bool) × (Unit))))))) =>
 none
 else none
 else none
 else if (Dat.In x11 (Dat.len x18)) then if (Dat.Lt (Dat.addN 0 (Dat.toN x11)) (Dat.len x18)) then Dat.bnd (Dat.get x18 (Dat.addN 0 (Dat.toN x11)) (0, (0, (([] : List (Int)), (([] : List (Int)), (false, (false, ()))))))) fun (x32 : (Int) × ((Int) × ((List (Int)) × ((List (Int)) × ((Bool) × ((Bool) × (Unit))))))) =>
 Dat.bind (frames_Victim_1 (x32.1, (x32.2.1, (x32.2.2.1, (x32.2.2.2.1, (x32.2.2.2.2.1, (x32.2.2.2.2.2.1, ()))))))) fun (x33 : (Int) × ((Int) × ((List (Int)) × ((List (Int)) × ((Bool) × ((Bool) × (Unit))))))) =>
 if (Dat.In x11 (Dat.len x18)) then if (Dat.Lt (Dat.addN 0 (Dat.toN x11)) (Dat.len x18)) then Dat.bnd (Dat.set x18 (Dat.addN 0 (Dat.toN x11)) (x33.1, (x33.2.1, (x33.2.2.1, (x33.2.2.2.1, (x33.2.2.2.2.1, (x33.2.2.2.2.2.1, ()))))))) fun (x38 : List ((Int) × ((Int) × ((List (Int)) × ((List (Int)) × ((Bool) × ((Bool) × (Unit)))))))) =>
 Dat.bnd (Dat.wrap .i64 (Dat.add s6.1 1)) fun (x39 : Int) =>
 if (Dat.Le (Dat.addN 0 (Dat.len x18)) (Dat.len x38)) then k7 (x39, ((Dat.seg x38 0 (Dat.len x18)), s6.2.2))
 else none
 else none
 else none
 else none
 else none
 else Dat.bnd (Dat.wrap .i64 (Dat.add x11 1)) fun (x42 : Int) =>
 if (Dat.IsZ (Dat.ofN (Dat.len s6.2.1))) then none
 else Dat.bnd (Dat.tmod x42 (Dat.ofN (Dat.len s6.2.1))) fun (x45 : Int) =>
 some ((s6.2.1, (x45, ())), (x11, 0)))))
 else none
 else some ((([] : List ((Int) × ((Int) × ((List (Int)) × ((List (Int)) × ((Bool) × ((Bool) × (Unit)))))))), (0, ())), (0, 250)))) (0, (x2.1, x2.2.1))
 else Dat.bnd (Dat.wrap .i64 (Dat.mul 2 (Dat.ofN (Dat.len d0.2.1)))) fun (x46 : Int) =>
 if (Dat.Le (Dat.addN 0 (Dat.len x2.1)) (Dat.len x2.1)) then Dat.loop (fun (s49 : (Int) × ((List ((Int) × ((Int) × ((List (Int)) × ((List (Int)) × ((Bool) × ((Bool) × (Unit)))))))) × (Int))) k50 =>
 (bif (Dat.ilt s49.1 x46) then Dat.bnd (Dat.wrap .i64 (Dat.add d0.2.2.1 s49.1)) fun (x51 : Int) =>
 if (Dat.IsZ (Dat.ofN (Dat.len d0.2.1))) then none
 else Dat.bnd (Dat.tmod x51 (Dat.ofN (Dat.len d0.2.1))) fun (x54 : Int) =>
 if (Dat.Ix x54 (Dat.len s49.2.1)) then Dat.bnd (Dat.get s49.2.1 (Dat.toN x54) (0, (0, (([] : List (Int)), (([] : List (Int)), (false, (false, ()))))))) fun (x57 : (Int) × ((Int) × ((List (Int)) × ((List (Int)) × ((Bool) × ((Bool) × (Unit))))))) =>
 (bif (Dat.ieq x57.1 1) then Dat.bnd (Dat.wrap .i64 (Dat.add s49.1 1)) fun (x58 : Int) =>
 k50 (x58, (s49.2.1, s49.2.2))
 else Dat.bind (frames_isPinned (x57.1, (x57.2.1, (x57.2.2.1, (x57.2.2.2.1, (x57.2.2.2.2.1, (x57.2.2.2.2.2.1, ()))))))) fun (x59 : Bool) =>
 (bif (Dat.pickB false true x59) then Dat.bnd (Dat.wrap .i64 (Dat.add s49.1 1)) fun (x60 : Int) =>
 k50 (x60, (s49.2.1, s49.2.2))
 else (bif x57.2.2.2.2.1 then Dat.bind (slices_Clone_api_Frame_api_Frame s49.2.1) fun (x61 : List ((Int) × ((Int) × ((List (Int)) × ((List (Int)) × ((Bool) × ((Bool) × (Unit)))))))) =>
 if (Dat.EqN (Dat.len x61) 0) then if (Dat.Ix x54 (Dat.len x61)) then Dat.bnd (Dat.get x61 (Dat.toN x54) (0, (0, (([] : List (Int)), (([] : List (Int)), (false, (false, ()))))))) fun (x66 : (Int) × ((Int) × ((List (Int)) × ((List (Int)) × ((Bool) × ((Bool) × (Unit))))))) =>
 Dat.bind (frames_Victim_1 (x66.1, (x66.2.1, (x66.2.2.1, (x66.2.2.2.1, (x66.2.2.2.2.1, (x66.2.2.2.2.2.1, ()))))))) fun (x67 : (Int) × ((Int) × ((List (Int)) × ((List (Int)) × ((Bool) × ((Bool) × (Unit))))))) =>
 if (Dat.Ix x54 (Dat.len x61)) then Dat.bnd (Dat.get x61 (Dat.toN x54) (0, (0, (([] : List (Int)), (([] : List (Int)), (false, (false, ()))))))) fun (x70 : (Int) × ((Int) × ((List (Int)) × ((List (Int)) × ((Bool) × ((Bool) × (Unit))))))) =>
 none
 else none
 else none
 else if (Dat.In x54 (Dat.len x61)) then if (Dat.Lt (Dat.addN 0 (Dat.toN x54)) (Dat.len x61)) then Dat.bnd (Dat.get x61 (Dat.addN 0 (Dat.toN x54)) (0, (0, (([] : List (Int)), (([] : List (Int)), (false, (false, ()))))))) fun (x75 : (Int) × ((Int) × ((List (Int)) × ((List (Int)) × ((Bool) × ((Bool) × (Unit))))))) =>
 Dat.bind (frames_Victim_1 (x75.1, (x75.2.1, (x75.2.2.1, (x75.2.2.2.1, (x75.2.2.2.2.1, (x75.2.2.2.2.2.1, ()))))))) fun (x76 : (Int) × ((Int) × ((List (Int)) × ((List (Int)) × ((Bool) × ((Bool) × (Unit))))))) =>
 if (Dat.In x54 (Dat.len x61)) then if (Dat.Lt (Dat.addN 0 (Dat.toN x54)) (Dat.len x61)) then Dat.bnd (Dat.set x61 (Dat.addN 0 (Dat.toN x54)) (x76.1, (x76.2.1, (x76.2.2.1, (x76.2.2.2.1, (x76.2.2.2.2.1, (x76.2.2.2.2.2.1, ()))))))) fun (x81 : List ((Int) × ((Int) × ((List (Int)) × ((List (Int)) × ((Bool) × ((Bool) × (Unit)))))))) =>
 Dat.bnd (Dat.wrap .i64 (Dat.add s49.1 1)) fun (x82 : Int) =>
 if (Dat.Le (Dat.addN 0 (Dat.len x61)) (Dat.len x81)) then k50 (x82, ((Dat.seg x81 0 (Dat.len x61)), s49.2.2))
 else none
 else none
 else none
 else none
 else none
 else Dat.bnd (Dat.wrap .i64 (Dat.add x54 1)) fun (x85 : Int) =>
 if (Dat.IsZ (Dat.ofN (Dat.len s49.2.1))) then none
 else Dat.bnd (Dat.tmod x85 (Dat.ofN (Dat.len s49.2.1))) fun (x88 : Int) =>
 some ((s49.2.1, (x88, ())), (x54, 0)))))
 else none
 else some ((([] : List ((Int) × ((Int) × ((List (Int)) × ((List (Int)) × ((Bool) × ((Bool) × (Unit)))))))), (0, ())), (0, 250)))) (0, ((Dat.seg x2.1 0 (Dat.len x2.1)), x2.2.1))
 else none)
noncomputable def p_frames_Victim : PFn := { args := [(.pair (.int .i64) (.pair (.int .i64) (.pair (.int .i64) (.pair (.int .i64) (.pair (.int .i64) (.pair (.int .i64) (.pair (.int .i64) (.pair (.int .i64) (.pair (.int .i64) .unit))))))))), (.pair (.list (.pair (.int .u8) (.pair (.int .i64) (.pair (.list (.int .u8)) (.pair (.list (.int .i64)) (.pair .bool (.pair .bool .unit))))))) (.pair (.int .i64) .unit))], res := [(.pair (.list (.pair (.int .u8) (.pair (.int .i64) (.pair (.list (.int .u8)) (.pair (.list (.int .i64)) (.pair .bool (.pair .bool .unit))))))) (.pair (.int .i64) .unit)), (.int .i64), (.int .i64)], fn := frames_Victim }
def sp25_86 : List LSpec × List Nat := ([{ id := 8600, known := true, toks := [(6002000, .bool)], items := [.slot 7 (.val (.int .i64)), .cells 2 [.val (.list (.pair (.int .u8) (.pair (.int .i64) (.pair (.list (.int .u8)) (.pair (.list (.int .i64)) (.pair .bool (.pair .bool .unit))))))), .val (.int .i64)]], junk := [8, 9, 4, 10, 11, 12, 13, 14, 15, 16, 17, 18, 19], tails := [], frz := [(2, 0)] }], [])
def spt25 : Tab (List LSpec × List Nat) := (.node .leaf none (.node .leaf none (.node .leaf none (.node (.node .leaf none (.node (.node .leaf (some sp25_86) .leaf) none .leaf)) none .leaf))))
def spf25 (f : Nat) : List LSpec × List Nat := (spt25.get f).getD ([], [])
theorem pd_frames_Victim : PureD Try.prog cfg 25 p_frames_Victim := fnDa spf25 [] (l := [(29, p_frames_Check), (27, p_frames_Twin), (44, p_frames_isPinned), (63, p_slices_Clone_api_Frame_api_Frame), (61, p_frames_Victim_1)]) (lo := [(63, o_slices_Clone_api_Frame_api_Frame), (27, o_frames_Twin)]) cfgOk cfgGlob (.cons pd_frames_Check (.cons pd_frames_Twin (.cons pd_frames_isPinned (.cons pd_slices_Clone_api_Frame_api_Frame (.cons pd_frames_Victim_1 .nil))))) (.cons od_slices_Clone_api_Frame_api_Frame.1 (.cons od_frames_Twin.1 .nil)) (fun d => by kernel_rfl)

/-- thimblerig/thimbleriglaw25.alive -/
noncomputable def law25_alive (d0 : Unit) : Option (Bool) :=
 Dat.bind (law25_ready (0, 0)) fun (x1 : (Int) × ((Int) × ((List (Int)) × ((List (Int)) × ((Bool) × ((Bool) × (Unit))))))) =>
 Dat.bind (law25_ready (3, 0)) fun (x2 : (Int) × ((Int) × ((List (Int)) × ((List (Int)) × ((Bool) × ((Bool) × (Unit))))))) =>
 Dat.bind (law25_two ()) fun (x3 : (Int) × ((Int) × ((Int) × ((Int) × ((Int) × ((Int) × ((Int) × ((Int) × ((Int) × (Unit)))))))))) =>
 if (Dat.Le (Dat.addN 0 2) (Dat.len ((x1.1, (x1.2.1, (x1.2.2.1, (x1.2.2.2.1, (x1.2.2.2.2.1, (x1.2.2.2.2.2.1, ())))))) :: ((x2.1, (x2.2.1, (x2.2.2.1, (x2.2.2.2.1, (x2.2.2.2.2.1, (x2.2.2.2.2.2.1, ())))))) :: ([] : List ((Int) × ((Int) × ((List (Int)) × ((List (Int)) × ((Bool) × ((Bool) × (Unit)))))))))))) then Dat.bind (frames_Victim ((x3.1, (x3.2.1, (x3.2.2.1, (x3.2.2.2.1, (x3.2.2.2.2.1, (x3.2.2.2.2.2.1, (x3.2.2.2.2.2.2.1, (x3.2.2.2.2.2.2.2.1, (x3.2.2.2.2.2.2.2.2.1, ()))))))))), ((Dat.seg ((x1.1, (x1.2.1, (x1.2.2.1, (x1.2.2.2.1, (x1.2.2.2.2.1, (x1.2.2.2.2.2.1, ())))))) :: ((x2.1, (x2.2.1, (x2.2.2.1, (x2.2.2.2.1, (x2.2.2.2.2.1, (x2.2.2.2.2.2.1, ())))))) :: ([] : List ((Int) × ((Int) × ((List (Int)) × ((List (Int)) × ((Bool) × ((Bool) × (Unit)))))))))) 0 2), (1, ())))) fun (x6 : ((List ((Int) × ((Int) × ((List (Int)) × ((List (Int)) × ((Bool) × ((Bool) × (Unit)))))))) × ((Int) × (Unit))) × ((Int) × (Int))) =>
 Dat.bind (law25_ready (0, 0)) fun (x7 : (Int) × ((Int) × ((List (Int)) × ((List (Int)) × ((Bool) × ((Bool) × (Unit))))))) =>
 Dat.bind (law25_ready (3, 1)) fun (x8 : (Int) × ((Int) × ((List (Int)) × ((List (Int)) × ((Bool) × ((Bool) × (Unit))))))) =>
 Dat.bind (law25_two ()) fun (x9 : (Int) × ((Int) × ((Int) × ((Int) × ((Int) × ((Int) × ((Int) × ((Int) × ((Int) × (Unit)))))))))) =>
 if (Dat.Le (Dat.addN 0 2) (Dat.len ((x7.1, (x7.2.1, (x7.2.2.1, (x7.2.2.2.1, (x7.2.2.2.2.1, (x7.2.2.2.2.2.1, ())))))) :: ((x8.1, (x8.2.1, (x8.2.2.1, (x8.2.2.2.1, (x8.2.2.2.2.1, (x8.2.2.2.2.2.1, ())))))) :: ([] : List ((Int) × ((Int) × ((List (Int)) × ((List (Int)) × ((Bool) × ((Bool) × (Unit)))))))))))) then Dat.bind (frames_Victim ((x9.1, (x9.2.1, (x9.2.2.1, (x9.2.2.2.1, (x9.2.2.2.2.1, (x9.2.2.2.2.2.1, (x9.2.2.2.2.2.2.1, (x9.2.2.2.2.2.2.2.1, (x9.2.2.2.2.2.2.2.2.1, ()))))))))), ((Dat.seg ((x7.1, (x7.2.1, (x7.2.2.1, (x7.2.2.2.1, (x7.2.2.2.2.1, (x7.2.2.2.2.2.1, ())))))) :: ((x8.1, (x8.2.1, (x8.2.2.1, (x8.2.2.2.1, (x8.2.2.2.2.1, (x8.2.2.2.2.2.1, ())))))) :: ([] : List ((Int) × ((Int) × ((List (Int)) × ((List (Int)) × ((Bool) × ((Bool) × (Unit)))))))))) 0 2), (1, ())))) fun (x12 : ((List ((Int) × ((Int) × ((List (Int)) × ((List (Int)) × ((Bool) × ((Bool) × (Unit)))))))) × ((Int) × (Unit))) × ((Int) × (Int))) =>
 Dat.bind (law25_ready (0, 2)) fun (x13 : (Int) × ((Int) × ((List (Int)) × ((List (Int)) × ((Bool) × ((Bool) × (Unit))))))) =>
 Dat.bind (law25_ready (3, 1)) fun (x14 : (Int) × ((Int) × ((List (Int)) × ((List (Int)) × ((Bool) × ((Bool) × (Unit))))))) =>
 Dat.bind (law25_two ()) fun (x15 : (Int) × ((Int) × ((Int) × ((Int) × ((Int) × ((Int) × ((Int) × ((Int) × ((Int) × (Unit)))))))))) =>
 if (Dat.Le (Dat.addN 0 2) (Dat.len ((x13.1, (x13.2.1, (x13.2.2.1, (x13.2.2.2.1, (x13.2.2.2.2.1, (x13.2.2.2.2.2.1, ())))))) :: ((x14.1, (x14.2.1, (x14.2.2.1, (x14.2.2.2.1, (x14.2.2.2.2.1, (x14.2.2.2.2.2.1, ())))))) :: ([] : List ((Int) × ((Int) × ((List (Int)) × ((List (Int)) × ((Bool) × ((Bool) × (Unit)))))))))))) then Dat.bind (frames_Victim ((x15.1, (x15.2.1, (x15.2.2.1, (x15.2.2.2.1, (x15.2.2.2.2.1, (x15.2.2.2.2.2.1, (x15.2.2.2.2.2.2.1, (x15.2.2.2.2.2.2.2.1, (x15.2.2.2.2.2.2.2.2.1, ()))))))))), ((Dat.seg ((x13.1, (x13.2.1, (x13.2.2.1, (x13.2.2.2.1, (x13.2.2.2.2.1, (x13.2.2.2.2.2.1, ())))))) :: ((x14.1, (x14.2.1, (x14.2.2.1, (x14.2.2.2.1, (x14.2.2.2.2.1, (x14.2.2.2.2.2.1, ())))))) :: ([] : List ((Int) × ((Int) × ((List (Int)) × ((List (Int)) × ((Bool) × ((Bool) × (Unit)))))))))) 0 2), (1, ())))) fun (x18 : ((List ((Int) × ((Int) × ((List (Int)) × ((List (Int)) × ((Bool) × ((Bool) × (Unit)))))))) × ((Int) × (Unit))) × ((Int) × (Int))) =>
 (bif (Dat.ieq x6.2.2 0) then (bif (Dat.pickB true (Dat.ieq x6.2.1 1) false) then (bif (Dat.pickB true (Dat.ieq x6.1.2.1 0) false) then (bif (Dat.pickB true (Dat.ieq (Dat.ofN (Dat.len x6.1.1)) 2) false) then if (Dat.Ix 0 (Dat.len x6.1.1)) then Dat.bnd (Dat.get x6.1.1 (Dat.toN 0) (0, (0, (([] : List (Int)), (([] : List (Int)), (false, (false, ()))))))) fun (x21 : (Int) × ((Int) × ((List (Int)) × ((List (Int)) × ((Bool) × ((Bool) × (Unit))))))) =>
 (bif (Dat.pickB true (Dat.bnot x21.2.2.2.2.1) false) then if (Dat.Ix 1 (Dat.len x6.1.1)) then Dat.bnd (Dat.get x6.1.1 (Dat.toN 1) (0, (0, (([] : List (Int)), (([] : List (Int)), (false, (false, ()))))))) fun (x24 : (Int) × ((Int) × ((List (Int)) × ((List (Int)) × ((Bool) × ((Bool) × (Unit))))))) =>
 (bif (Dat.pickB true (Dat.bnot x24.2.2.2.2.1) false) then (bif (Dat.pickB true (Dat.ieq x12.2.2 0) false) then (bif (Dat.pickB true (Dat.ieq x12.2.1 0) false) then some (Dat.pickB true (Dat.ieq x18.2.2 250) false)
 else some false)
 else some false)
 else some false)
 else none
 else some false)
 else none
 else some false)
 else some false)
 else some false)
 else some false)
 else none
 else none
 else none
noncomputable def p_law25_alive : PFn := { args := [], res := [.bool], fn := law25_alive }
theorem pd_law25_alive : PureD Try.prog cfg 18 p_law25_alive := fnD sp0 (l := [(15, p_law25_ready), (9, p_law25_two), (25, p_frames_Victim)]) cfgOk cfgGlob (.cons pd_law25_ready (.cons pd_law25_two (.cons pd_frames_Victim .nil))) (fun d => by kernel_rfl)

/-- thimblerig/thimblerigref25.Great -/
noncomputable def ref25_Great (d0 : (List ((Int) × ((Int) × ((List (Int)) × ((List (Int)) × ((Bool) × ((Bool) × (Unit)))))))) × ((Int) × (Unit))) : Option (Bool) :=
 Dat.loop (fun (s1 : Int) k2 =>
 (bif (Dat.ilt s1 (Dat.ofN (Dat.len d0.1))) then (bif (Dat.pickB true (Dat.ilt s1 20) false) then if (Dat.Ix s1 (Dat.len d0.1)) then Dat.bnd (Dat.get d0.1 (Dat.toN s1) (0, (0, (([] : List (Int)), (([] : List (Int)), (false, (false, ()))))))) fun (x5 : (Int) × ((Int) × ((List (Int)) × ((List (Int)) × ((Bool) × ((Bool) × (Unit))))))) =>
 (bif (Dat.igt (Dat.ofN (Dat.len x5.2.2.1)) 100) then some true
 else if (Dat.Ix s1 (Dat.len d0.1)) then Dat.bnd (Dat.get d0.1 (Dat.toN s1) (0, (0, (([] : List (Int)), (([] : List (Int)), (false, (false, ()))))))) fun (x8 : (Int) × ((Int) × ((List (Int)) × ((List (Int)) × ((Bool) × ((Bool) × (Unit))))))) =>
 (bif (Dat.pickB false true (Dat.igt (Dat.ofN (Dat.len x8.2.2.2.1)) 20)) then some true
 else Dat.bnd (Dat.wrap .i64 (Dat.add s1 1)) fun (x9 : Int) =>
 k2 x9)
 else none)
 else none
 else some (Dat.igt (Dat.ofN (Dat.len d0.1)) 20))
 else some (Dat.igt (Dat.ofN (Dat.len d0.1)) 20))) 0
noncomputable def p_ref25_Great : PFn := { args := [(.pair (.list (.pair (.int .u8) (.pair (.int .i64) (.pair (.list (.int .u8)) (.pair (.list (.int .i64)) (.pair .bool (.pair .bool .unit))))))) (.pair (.int .i64) .unit))], res := [.bool], fn := ref25_Great }
def sp21_21 : List LSpec × List Nat := ([{ id := 2100, known := true, toks := [], items := [.slot 3 (.val (.int .i64))], junk := [4, 5, 6, 7, 8, 9, 10, 11, 12, 15, 16, 17, 18, 19, 20, 21, 22, 23, 24, 25, 26, 27, 28, 29, 30, 31, 32, 2, 13, 14], tails := [] }], [])
def spt21 : Tab (List LSpec × List Nat) := (.node (.node .leaf none (.node .leaf none (.node (.node .leaf (some sp21_21) .leaf) none .leaf))) none .leaf)
def spf21 (f : Nat) : List LSpec × List Nat := (spt21.get f).getD ([], [])
theorem pd_ref25_Great : PureD Try.prog cfg 21 p_ref25_Great := fnD spf21 (l := []) cfgOk cfgGlob .nil (fun d => by kernel_rfl)

/-- thimblerig/thimblerigref25.Pinned -/
noncomputable def ref25_Pinned (d0 : (Int) × ((Int) × ((List (Int)) × ((List (Int)) × ((Bool) × ((Bool) × (Unit))))))) : Option (Bool) :=
 Dat.loop (fun (s1 : Int) k2 =>
 (bif (Dat.ilt s1 (Dat.ofN (Dat.len d0.2.2.2.1))) then if (Dat.Ix s1 (Dat.len d0.2.2.2.1)) then Dat.bnd (Dat.get d0.2.2.2.1 (Dat.toN s1) 0) fun (x5 : Int) =>
 (bif (Dat.igt x5 0) then some true
 else Dat.bnd (Dat.wrap .i64 (Dat.add s1 1)) fun (x6 : Int) =>
 k2 x6)
 else none
 else some false)) 0
noncomputable def p_ref25_Pinned : PFn := { args := [(.pair (.int .u8) (.pair (.int .i64) (.pair (.list (.int .u8)) (.pair (.list (.int .i64)) (.pair .bool (.pair .bool .unit))))))], res := [.bool], fn := ref25_Pinned }
def sp72_72 : List LSpec × List Nat := ([{ id := 7200, known := true, toks := [], items := [.slot 3 (.val (.int .i64))], junk := [4, 5, 6, 7, 8, 11, 12, 13, 14, 15, 16, 2, 9, 10], tails := [] }], [])
def spt72 : Tab (List LSpec × List Nat) := (.node .leaf none (.node (.node (.node .leaf none (.node (.node (.node .leaf (some sp72_72) .leaf) none .leaf) none .leaf)) none .leaf) none .leaf))
def spf72 (f : Nat) : List LSpec × List Nat := (spt72.get f).getD ([], [])
theorem pd_ref25_Pinned : PureD Try.prog cfg 72 p_ref25_Pinned := fnD spf72 (l := []) cfgOk cfgGlob .nil (fun d => by kernel_rfl)

/-- thimblerig/thimbleriglaw25.free -/
noncomputable def law25_free (d0 : (Int) × ((Int) × ((List (Int)) × ((List (Int)) × ((Bool) × ((Bool) × (Unit))))))) : Option (Bool) :=
 (bif (Dat.ieq d0.1 0) then some true
 else (bif (Dat.ieq d0.1 2) then Dat.bind (ref25_Pinned (d0.1, (d0.2.1, (d0.2.2.1, (d0.2.2.2.1, (d0.2.2.2.2.1, (d0.2.2.2.2.2.1, ()))))))) fun (x1 : Bool) =>
 some (Dat.pickB false true (Dat.pickB true (Dat.bnot x1) false))
 else some (Dat.pickB false true false)))
noncomputable def p_law25_free : PFn := { args := [(.pair (.int .u8) (.pair (.int .i64) (.pair (.list (.int .u8)) (.pair (.list (.int .i64)) (.pair .bool (.pair .bool .unit))))))], res := [.bool], fn := law25_free }
theorem pd_law25_free : PureD Try.prog cfg 40 p_law25_free := fnD sp0 (l := [(72, p_ref25_Pinned)]) cfgOk cfgGlob (.cons pd_ref25_Pinned .nil) (fun d => by kernel_rfl)

/-- thimblerig/thimblerigref25.TwinFrame -/
noncomputable def ref25_TwinFrame (d0 : (Int) × ((Int) × ((List (Int)) × ((List (Int)) × ((Bool) × ((Bool) × (Unit))))))) : Option ((Int) × ((Int) × ((List (Int)) × ((List (Int)) × ((Bool) × ((Bool) × (Unit))))))) :=
 if (Dat.Le (Dat.addN 0 0) (Dat.len ([] : List (Int)))) then if (Dat.Big (Dat.len (Dat.seg ([] : List (Int)) 0 0)) (Dat.len d0.2.2.1) 1) then none
 else Dat.bnd (Dat.app (Dat.seg ([] : List (Int)) 0 0) d0.2.2.1) fun (x5 : List (Int)) =>
 if (Dat.Le (Dat.addN 0 0) (Dat.len ([] : List (Int)))) then if (Dat.Big (Dat.len (Dat.seg ([] : List (Int)) 0 0)) (Dat.len d0.2.2.2.1) 8) then none
 else Dat.bnd (Dat.app (Dat.seg ([] : List (Int)) 0 0) d0.2.2.2.1) fun (x10 : List (Int)) =>
 some (d0.1, (d0.2.1, (x5, (x10, (d0.2.2.2.2.1, (d0.2.2.2.2.2.1, ()))))))
 else none
 else none
noncomputable def p_ref25_TwinFrame : PFn := { args := [(.pair (.int .u8) (.pair (.int .i64) (.pair (.list (.int .u8)) (.pair (.list (.int .i64)) (.pair .bool (.pair .bool .unit))))))], res := [(.pair (.int .u8) (.pair (.int .i64) (.pair (.list (.int .u8)) (.pair (.list (.int .i64)) (.pair .bool (.pair .bool .unit))))))], fn := ref25_TwinFrame }
theorem pd_ref25_TwinFrame : PureD Try.prog cfg 55 p_ref25_TwinFrame := fnD sp0 (l := []) cfgOk cfgGlob .nil (fun d => by kernel_rfl)

/-- thimblerig/thimblerigref25.Twin -/
noncomputable def ref25_Twin (d0 : (List ((Int) × ((Int) × ((List (Int)) × ((List (Int)) × ((Bool) × ((Bool) × (Unit)))))))) × ((Int) × (Unit))) : Option ((List ((Int) × ((Int) × ((List (Int)) × ((List (Int)) × ((Bool) × ((Bool) × (Unit)))))))) × ((Int) × (Unit))) :=
 Dat.loop (fun (s1 : (Int) × ((List (List ((Int) × ((Int) × ((List (Int)) × ((List (Int)) × ((Bool) × ((Bool) × (Unit))))))))) × ((MixE ((Int) × ((Int) × ((List (Int)) × ((List (Int)) × ((Bool) × ((Bool) × (Unit)))))))) × (Int)))) k2 =>
 (bif (Dat.ilt s1.1 (Dat.ofN (Dat.len d0.1))) then if (Dat.Ix s1.1 (Dat.len d0.1)) then Dat.bnd (Dat.get d0.1 (Dat.toN s1.1) (0, (0, (([] : List (Int)), (([] : List (Int)), (false, (false, ()))))))) fun (x5 : (Int) × ((Int) × ((List (Int)) × ((List (Int)) × ((Bool) × ((Bool) × (Unit))))))) =>
 Dat.bind (ref25_TwinFrame (x5.1, (x5.2.1, (x5.2.2.1, (x5.2.2.2.1, (x5.2.2.2.2.1, (x5.2.2.2.2.2.1, ()))))))) fun (x6 : (Int) × ((Int) × ((List (Int)) × ((List (Int)) × ((Bool) × ((Bool) × (Unit))))))) =>
 if (Dat.Le (Dat.addN 0 1) (Dat.len ((x6.1, (x6.2.1, (x6.2.2.1, (x6.2.2.2.1, (x6.2.2.2.2.1, (x6.2.2.2.2.2.1, ())))))) :: ([] : List ((Int) × ((Int) × ((List (Int)) × ((List (Int)) × ((Bool) × ((Bool) × (Unit))))))))))) then if (Dat.XGr s1.2.1 s1.2.2.1) then if (Dat.EqN (Dat.len (Dat.seg ((x6.1, (x6.2.1, (x6.2.2.1, (x6.2.2.2.1, (x6.2.2.2.2.1, (x6.2.2.2.2.2.1, ())))))) :: ([] : List ((Int) × ((Int) × ((List (Int)) × ((List (Int)) × ((Bool) × ((Bool) × (Unit))))))))) 0 1)) 0) then Dat.bnd (Dat.wrap .i64 (Dat.add s1.1 1)) fun (x13 : Int) =>
 k2 (x13, (s1.2.1, (s1.2.2.1, s1.2.2.2)))
 else if (Dat.Big (Dat.xlen s1.2.2.1) (Dat.len (Dat.seg ((x6.1, (x6.2.1, (x6.2.2.1, (x6.2.2.2.1, (x6.2.2.2.2.1, (x6.2.2.2.2.2.1, ())))))) :: ([] : List ((Int) × ((Int) × ((List (Int)) × ((List (Int)) × ((Bool) × ((Bool) × (Unit))))))))) 0 1)) 72) then none
 else Dat.bnd (Dat.xapp s1.2.1 s1.2.2.1 (Dat.seg ((x6.1, (x6.2.1, (x6.2.2.1, (x6.2.2.2.1, (x6.2.2.2.2.1, (x6.2.2.2.2.2.1, ())))))) :: ([] : List ((Int) × ((Int) × ((List (Int)) × ((List (Int)) × ((Bool) × ((Bool) × (Unit))))))))) 0 1)) fun (x16 : List (List ((Int) × ((Int) × ((List (Int)) × ((List (Int)) × ((Bool) × ((Bool) × (Unit))))))))) =>
 Dat.bnd (Dat.xlong s1.2.2.1 (Dat.len (Dat.seg ((x6.1, (x6.2.1, (x6.2.2.1, (x6.2.2.2.1, (x6.2.2.2.2.1, (x6.2.2.2.2.2.1, ())))))) :: ([] : List ((Int) × ((Int) × ((List (Int)) × ((List (Int)) × ((Bool) × ((Bool) × (Unit))))))))) 0 1))) fun (x17 : MixE ((Int) × ((Int) × ((List (Int)) × ((List (Int)) × ((Bool) × ((Bool) × (Unit)))))))) =>
 Dat.bnd (Dat.wrap .i64 (Dat.add s1.1 1)) fun (x18 : Int) =>
 k2 (x18, (x16, (x17, s1.2.2.2)))
 else none
 else none
 else none
 else if (Dat.XW s1.2.1 s1.2.2.1) then Dat.bnd (Dat.xget s1.2.1 s1.2.2.1) fun (x21 : List ((Int) × ((Int) × ((List (Int)) × ((List (Int)) × ((Bool) × ((Bool) × (Unit)))))))) =>
 some (x21, (s1.2.2.2, ()))
 else none)) (0, ((([] : List ((Int) × ((Int) × ((List (Int)) × ((List (Int)) × ((Bool) × ((Bool) × (Unit)))))))) :: ([] : List (List ((Int) × ((Int) × ((List (Int)) × ((List (Int)) × ((Bool) × ((Bool) × (Unit)))))))))), ((Dat.xnew (α := (Int) × ((Int) × ((List (Int)) × ((List (Int)) × ((Bool) × ((Bool) × (Unit))))))) 0 0), d0.2.1)))
noncomputable def p_ref25_Twin : PFn := { args := [(.pair (.list (.pair (.int .u8) (.pair (.int .i64) (.pair (.list (.int .u8)) (.pair (.list (.int .i64)) (.pair .bool (.pair .bool .unit))))))) (.pair (.int .i64) .unit))], res := [(.pair (.list (.pair (.int .u8) (.pair (.int .i64) (.pair (.list (.int .u8)) (.pair (.list (.int .i64)) (.pair .bool (.pair .bool .unit))))))) (.pair (.int .i64) .unit))], fn := ref25_Twin }
def sp22_22 : List LSpec × List Nat := ([{ id := 2200, known := true, toks := [(7002000, (.pair (.int .u8) (.pair (.int .i64) (.pair (.list (.int .u8)) (.pair (.list (.int .i64)) (.pair .bool (.pair .bool .unit)))))))], items := [.slot 4 (.val (.int .i64)), .rows 2002000 (.pair (.int .u8) (.pair (.int .i64) (.pair (.list (.int .u8)) (.pair (.list (.int .i64)) (.pair .bool (.pair .bool .unit)))))), .cells 1000003 [.val (.mix 2002000 (.pair (.int .u8) (.pair (.int .i64) (.pair (.list (.int .u8)) (.pair (.list (.int .i64)) (.pair .bool (.pair .bool .unit))))))), .val (.int .i64)]], junk := [8, 9, 10, 11, 12, 15, 16, 17, 18, 19, 20, 21, 22, 23, 24, 25, 13, 14], tails := [] }], [])
def spt22 : Tab (List LSpec × List Nat) := (.node .leaf none (.node .leaf none (.node .leaf none (.node (.node .leaf (some sp22_22) .leaf) none .leaf))))
def spf22 (f : Nat) : List LSpec × List Nat := (spt22.get f).getD ([], [])
noncomputable def o_ref25_Twin : OFn := { args := [(.pair (.list (.pair (.int .u8) (.pair (.int .i64) (.pair (.list (.int .u8)) (.pair (.list (.int .i64)) (.pair .bool (.pair .bool .unit))))))) (.pair (.int .i64) .unit))], ores := [(.pair (.own (.pair (.int .u8) (.pair (.int .i64) (.pair (.list (.int .u8)) (.pair (.list (.int .i64)) (.pair .bool (.pair .bool .unit))))))) (.pair (.plain (.int .i64)) (.plain .unit)))], fn := ref25_Twin }
theorem od_ref25_Twin : OwnD Try.prog cfg 22 o_ref25_Twin ∧ PureD Try.prog cfg 22 o_ref25_Twin.pfn := fnO spf22 [] (l := [(55, p_ref25_TwinFrame)]) (lo := []) cfgOk cfgGlob (.cons pd_ref25_TwinFrame .nil) .nil (fun d => by kernel_rfl)
theorem pd_ref25_Twin : PureD Try.prog cfg 22 p_ref25_Twin := od_ref25_Twin.2

/-- thimblerig/thimblerigref01.Same -/
noncomputable def ref01_Same (d0 : (List (Int)) × (List (Int))) : Option (Bool) :=
 Dat.bnd (Dat.str d0.1) fun (x1 : List (UInt8)) =>
 Dat.bnd (Dat.str d0.2) fun (x2 : List (UInt8)) =>
 some (Dat.seq x1 x2)
noncomputable def p_ref01_Same : PFn := { args := [(.list (.int .u8)), (.list (.int .u8))], res := [.bool], fn := ref01_Same }
theorem pd_ref01_Same : PureD Try.prog cfg 39 p_ref01_Same := fnD sp0 (l := []) cfgOk cfgGlob .nil (fun d => by kernel_rfl)

/-- thimblerig/thimblerigref01.SameInts -/
noncomputable def ref01_SameInts (d0 : (List (Int)) × (List (Int))) : Option (Bool) :=
 (bif (Dat.ine (Dat.ofN (Dat.len d0.1)) (Dat.ofN (Dat.len d0.2))) then some false
 else Dat.loop (fun (s1 : Int) k2 =>
 (bif (Dat.ilt s1 (Dat.ofN (Dat.len d0.1))) then if (Dat.Ix s1 (Dat.len d0.1)) then Dat.bnd (Dat.get d0.1 (Dat.toN s1) 0) fun (x5 : Int) =>
 if (Dat.Ix s1 (Dat.len d0.2)) then Dat.bnd (Dat.get d0.2 (Dat.toN s1) 0) fun (x8 : Int) =>
 (bif (Dat.ine x5 x8) then some false
 else Dat.bnd (Dat.wrap .i64 (Dat.add s1 1)) fun (x9 : Int) =>
 k2 x9)
 else none
 else none
 else some true)) 0)
noncomputable def p_ref01_SameInts : PFn := { args := [(.list (.int .i64)), (.list (.int .i64))], res := [.bool], fn := ref01_SameInts }
def sp19_19 : List LSpec × List Nat := ([{ id := 1900, known := true, toks := [], items := [.slot 5 (.val (.int .i64))], junk := [11, 12, 13, 14, 17, 18, 19, 20, 21, 22, 23, 24, 25, 4, 15, 16], tails := [] }], [])
def spt19 : Tab (List LSpec × List Nat) := (.node (.node (.node .leaf none (.node (.node .leaf (some sp19_19) .leaf) none .leaf)) none .leaf) none .leaf)
def spf19 (f : Nat) : List LSpec × List Nat := (spt19.get f).getD ([], [])
theorem pd_ref01_SameInts : PureD Try.prog cfg 19 p_ref01_SameInts := fnD spf19 (l := []) cfgOk cfgGlob .nil (fun d => by kernel_rfl)

/-- thimblerig/thimblerigref25.Same -/
noncomputable def ref25_Same (d0 : ((List ((Int) × ((Int) × ((List (Int)) × ((List (Int)) × ((Bool) × ((Bool) × (Unit)))))))) × ((Int) × (Unit))) × ((List ((Int) × ((Int) × ((List (Int)) × ((List (Int)) × ((Bool) × ((Bool) × (Unit)))))))) × ((Int) × (Unit)))) : Option (Bool) :=
 (bif (Dat.ine (Dat.ofN (Dat.len d0.1.1)) (Dat.ofN (Dat.len d0.2.1))) then some false
 else (bif (Dat.pickB false true (Dat.ine d0.1.2.1 d0.2.2.1)) then some false
 else Dat.loop (fun (s1 : Int) k2 =>
 (bif (Dat.ilt s1 (Dat.ofN (Dat.len d0.1.1))) then if (Dat.Ix s1 (Dat.len d0.1.1)) then Dat.bnd (Dat.get d0.1.1 (Dat.toN s1) (0, (0, (([] : List (Int)), (([] : List (Int)), (false, (false, ()))))))) fun (x5 : (Int) × ((Int) × ((List (Int)) × ((List (Int)) × ((Bool) × ((Bool) × (Unit))))))) =>
 if (Dat.Ix s1 (Dat.len d0.2.1)) then Dat.bnd (Dat.get d0.2.1 (Dat.toN s1) (0, (0, (([] : List (Int)), (([] : List (Int)), (false, (false, ()))))))) fun (x8 : (Int) × ((Int) × ((List (Int)) × ((List (Int)) × ((Bool) × ((Bool) × (Unit))))))) =>
 (bif (Dat.ine x5.1 x8.1) then some false
 else (bif (Dat.pickB false true (Dat.ine x5.2.1 x8.2.1)) then some false
 else Dat.bind (ref01_Same (x5.2.2.1, x8.2.2.1)) fun (x9 : Bool) =>
 (bif (Dat.pickB false true (Dat.bnot x9)) then some false
 else Dat.bind (ref01_SameInts (x5.2.2.2.1, x8.2.2.2.1)) fun (x10 : Bool) =>
 (bif (Dat.pickB false true (Dat.bnot x10)) then some false
 else (bif (Dat.pickB false true (Dat.bnot (Dat.beq x5.2.2.2.2.1 x8.2.2.2.2.1))) then some false
 else (bif (Dat.pickB false true (Dat.bnot (Dat.beq x5.2.2.2.2.2.1 x8.2.2.2.2.2.1))) then some false
 else Dat.bnd (Dat.wrap .i64 (Dat.add s1 1)) fun (x11 : Int) =>
 k2 x11))))))
 else none
 else none
 else some true)) 0))
noncomputable def p_ref25_Same : PFn := { args := [(.pair (.list (.pair (.int .u8) (.pair (.int .i64) (.pair (.list (.int .u8)) (.pair (.list (.int .i64)) (.pair .bool (.pair .bool .unit))))))) (.pair (.int .i64) .unit)), (.pair (.list (.pair (.int .u8) (.pair (.int .i64) (.pair (.list (.int .u8)) (.pair (.list (.int .i64)) (.pair .bool (.pair .bool .unit))))))) (.pair (.int .i64) .unit))], res := [.bool], fn := ref25_Same }
def sp28_28 : List LSpec × List Nat := ([{ id := 2800, known := true, toks := [], items := [.slot 5 (.val (.int .i64))], junk := [22, 23, 24, 25, 26, 29, 30, 31, 32, 33, 34, 35, 36, 37, 38, 6, 7, 39, 40, 41, 42, 43, 44, 45, 46, 47, 48, 49, 50, 51, 52, 53, 54, 55, 56, 57, 58, 59, 60, 61, 62, 63, 64, 65, 66, 67, 68, 69, 70, 71, 72, 73, 74, 75, 76, 77, 78, 79, 80, 4, 27, 28], tails := [] }], [])
def spt28 : Tab (List LSpec × List Nat) := (.node .leaf none (.node (.node .leaf none (.node .leaf none (.node .leaf (some sp28_28) .leaf))) none .leaf))
def spf28 (f : Nat) : List LSpec × List Nat := (spt28.get f).getD ([], [])
theorem pd_ref25_Same : PureD Try.prog cfg 28 p_ref25_Same := fnD spf28 (l := [(39, p_ref01_Same), (19, p_ref01_SameInts)]) cfgOk cfgGlob (.cons pd_ref01_Same (.cons pd_ref01_SameInts .nil)) (fun d => by kernel_rfl)

/-- thimblerig/thimbleriglaw25.FramesClock -/
noncomputable def law25_FramesClock (d0 : ((Int) × ((Int) × ((Int) × ((Int) × ((Int) × ((Int) × ((Int) × ((Int) × ((Int) × (Unit)))))))))) × ((List ((Int) × ((Int) × ((List (Int)) × ((List (Int)) × ((Bool) × ((Bool) × (Unit)))))))) × ((Int) × (Unit)))) : Option (Bool) :=
 Dat.bind (law25_alive ()) fun (x1 : Bool) =>
 Dat.join (σ := Bool) (fun k2 =>
 Dat.bind (ref25_Great (d0.2.1, (d0.2.2.1, ()))) fun (x3 : Bool) =>
 (bif x3 then k2 true
 else Dat.bind (frames_Check ((d0.1.1, (d0.1.2.1, (d0.1.2.2.1, (d0.1.2.2.2.1, (d0.1.2.2.2.2.1, (d0.1.2.2.2.2.2.1, (d0.1.2.2.2.2.2.2.1, (d0.1.2.2.2.2.2.2.2.1, (d0.1.2.2.2.2.2.2.2.2.1, ()))))))))), (d0.2.1, (d0.2.2.1, ())))) fun (x4 : Int) =>
 (bif (Dat.pickB false true (Dat.ine x4 0)) then k2 true
 else k2 (Dat.pickB false true (Dat.bnot x1))))) fun (j5 : Bool) =>
 (bif j5 then some x1
 else Dat.bind (frames_Victim ((d0.1.1, (d0.1.2.1, (d0.1.2.2.1, (d0.1.2.2.2.1, (d0.1.2.2.2.2.1, (d0.1.2.2.2.2.2.1, (d0.1.2.2.2.2.2.2.1, (d0.1.2.2.2.2.2.2.2.1, (d0.1.2.2.2.2.2.2.2.2.1, ()))))))))), (d0.2.1, (d0.2.2.1, ())))) fun (x6 : ((List ((Int) × ((Int) × ((List (Int)) × ((List (Int)) × ((Bool) × ((Bool) × (Unit)))))))) × ((Int) × (Unit))) × ((Int) × (Int))) =>
 Dat.loop (fun (s7 : (Bool) × ((Bool) × (Int))) k8 =>
 (bif (Dat.ilt s7.2.2 (Dat.ofN (Dat.len d0.2.1))) then if (Dat.Ix s7.2.2 (Dat.len d0.2.1)) then Dat.bnd (Dat.get d0.2.1 (Dat.toN s7.2.2) (0, (0, (([] : List (Int)), (([] : List (Int)), (false, (false, ()))))))) fun (x11 : (Int) × ((Int) × ((List (Int)) × ((List (Int)) × ((Bool) × ((Bool) × (Unit))))))) =>
 Dat.bind (law25_free (x11.1, (x11.2.1, (x11.2.2.1, (x11.2.2.2.1, (x11.2.2.2.2.1, (x11.2.2.2.2.2.1, ()))))))) fun (x12 : Bool) =>
 Dat.join (σ := (Bool) × (Bool)) (fun k13 =>
 (bif x12 then Dat.join (σ := Bool) (fun k14 =>
 (bif s7.2.1 then if (Dat.Ix s7.2.2 (Dat.len d0.2.1)) then Dat.bnd (Dat.get d0.2.1 (Dat.toN s7.2.2) (0, (0, (([] : List (Int)), (([] : List (Int)), (false, (false, ()))))))) fun (x17 : (Int) × ((Int) × ((List (Int)) × ((List (Int)) × ((Bool) × ((Bool) × (Unit))))))) =>
 k14 (Dat.pickB true x17.2.2.2.2.1 false)
 else none
 else k14 false)) fun (j18 : Bool) =>
 k13 (true, j18)
 else k13 (s7.1, s7.2.1))) fun (j19 : (Bool) × (Bool)) =>
 Dat.bnd (Dat.wrap .i64 (Dat.add s7.2.2 1)) fun (x20 : Int) =>
 k8 (j19.1, (j19.2, x20))
 else none
 else (bif (Dat.ine x6.2.2 0) then Dat.join (σ := Bool) (fun k21 =>
 (bif x1 then (bif (Dat.pickB true (Dat.ieq x6.2.2 250) false) then k21 (Dat.pickB true (Dat.bnot s7.1) false)
 else k21 false)
 else k21 false)) fun (j22 : Bool) =>
 some j22
 else Dat.join (σ := Bool) (fun k23 =>
 (bif (Dat.bnot s7.1) then k23 true
 else (bif (Dat.pickB false true (Dat.ilt x6.2.1 0)) then k23 true
 else (bif (Dat.pickB false true (Dat.ige x6.2.1 (Dat.ofN (Dat.len d0.2.1)))) then k23 true
 else if (Dat.Ix x6.2.1 (Dat.len d0.2.1)) then Dat.bnd (Dat.get d0.2.1 (Dat.toN x6.2.1) (0, (0, (([] : List (Int)), (([] : List (Int)), (false, (false, ()))))))) fun (x26 : (Int) × ((Int) × ((List (Int)) × ((List (Int)) × ((Bool) × ((Bool) × (Unit))))))) =>
 Dat.bind (law25_free (x26.1, (x26.2.1, (x26.2.2.1, (x26.2.2.2.1, (x26.2.2.2.2.1, (x26.2.2.2.2.2.1, ()))))))) fun (x27 : Bool) =>
 (bif (Dat.pickB false true (Dat.bnot x27)) then k23 true
 else if (Dat.Ix x6.2.1 (Dat.len d0.2.1)) then Dat.bnd (Dat.get d0.2.1 (Dat.toN x6.2.1) (0, (0, (([] : List (Int)), (([] : List (Int)), (false, (false, ()))))))) fun (x30 : (Int) × ((Int) × ((List (Int)) × ((List (Int)) × ((Bool) × ((Bool) × (Unit))))))) =>
 (bif x30.2.2.2.2.1 then (bif (Dat.pickB false true (Dat.pickB true (Dat.bnot s7.2.1) false)) then k23 true
 else (bif (Dat.pickB false true (Dat.ine (Dat.ofN (Dat.len x6.1.1)) (Dat.ofN (Dat.len d0.2.1)))) then k23 true
 else Dat.bnd (Dat.wrap .i64 (Dat.add x6.2.1 1)) fun (x31 : Int) =>
 if (Dat.IsZ (Dat.ofN (Dat.len d0.2.1))) then none
 else Dat.bnd (Dat.tmod x31 (Dat.ofN (Dat.len d0.2.1))) fun (x34 : Int) =>
 (bif (Dat.pickB false true (Dat.ine x6.1.2.1 x34)) then k23 true
 else if (Dat.Ix x6.2.1 (Dat.len x6.1.1)) then Dat.bnd (Dat.get x6.1.1 (Dat.toN x6.2.1) (0, (0, (([] : List (Int)), (([] : List (Int)), (false, (false, ()))))))) fun (x37 : (Int) × ((Int) × ((List (Int)) × ((List (Int)) × ((Bool) × ((Bool) × (Unit))))))) =>
 k23 (Dat.pickB false true x37.2.2.2.2.1)
 else none)))
 else (bif (Dat.pickB false true (Dat.ine (Dat.ofN (Dat.len x6.1.1)) (Dat.ofN (Dat.len d0.2.1)))) then k23 true
 else Dat.bnd (Dat.wrap .i64 (Dat.add x6.2.1 1)) fun (x38 : Int) =>
 if (Dat.IsZ (Dat.ofN (Dat.len d0.2.1))) then none
 else Dat.bnd (Dat.tmod x38 (Dat.ofN (Dat.len d0.2.1))) fun (x41 : Int) =>
 (bif (Dat.pickB false true (Dat.ine x6.1.2.1 x41)) then k23 true
 else if (Dat.Ix x6.2.1 (Dat.len x6.1.1)) then Dat.bnd (Dat.get x6.1.1 (Dat.toN x6.2.1) (0, (0, (([] : List (Int)), (([] : List (Int)), (false, (false, ()))))))) fun (x44 : (Int) × ((Int) × ((List (Int)) × ((List (Int)) × ((Bool) × ((Bool) × (Unit))))))) =>
 k23 (Dat.pickB false true x44.2.2.2.2.1)
 else none)))
 else none)
 else none)))) fun (j45 : Bool) =>
 (bif j45 then some false
 else Dat.bind (ref25_Twin (x6.1.1, (x6.1.2.1, ()))) fun (x46 : (List ((Int) × ((Int) × ((List (Int)) × ((List (Int)) × ((Bool) × ((Bool) × (Unit)))))))) × ((Int) × (Unit))) =>
 if (Dat.EqN (Dat.len x46.1) 0) then Dat.loop (fun (s49 : Int) k50 =>
 (bif (Dat.ilt s49 (Dat.ofN (Dat.len d0.2.1))) then Dat.join (σ := Bool) (fun k51 =>
 if (Dat.Ix s49 (Dat.len d0.2.1)) then Dat.bnd (Dat.get d0.2.1 (Dat.toN s49) (0, (0, (([] : List (Int)), (([] : List (Int)), (false, (false, ()))))))) fun (x54 : (Int) × ((Int) × ((List (Int)) × ((List (Int)) × ((Bool) × ((Bool) × (Unit))))))) =>
 Dat.bind (law25_free (x54.1, (x54.2.1, (x54.2.2.1, (x54.2.2.2.1, (x54.2.2.2.2.1, (x54.2.2.2.2.2.1, ()))))))) fun (x55 : Bool) =>
 (bif (Dat.bnot x55) then if (Dat.Ix s49 (Dat.len x6.1.1)) then Dat.bnd (Dat.get x6.1.1 (Dat.toN s49) (0, (0, (([] : List (Int)), (([] : List (Int)), (false, (false, ()))))))) fun (x58 : (Int) × ((Int) × ((List (Int)) × ((List (Int)) × ((Bool) × ((Bool) × (Unit))))))) =>
 if (Dat.Ix s49 (Dat.len d0.2.1)) then Dat.bnd (Dat.get d0.2.1 (Dat.toN s49) (0, (0, (([] : List (Int)), (([] : List (Int)), (false, (false, ()))))))) fun (x61 : (Int) × ((Int) × ((List (Int)) × ((List (Int)) × ((Bool) × ((Bool) × (Unit))))))) =>
 (bif (Dat.pickB true (Dat.bnot (Dat.beq x58.2.2.2.2.1 x61.2.2.2.2.1)) false) then k51 true
 else if (Dat.Ix s49 (Dat.len x6.1.1)) then Dat.bnd (Dat.get x6.1.1 (Dat.toN s49) (0, (0, (([] : List (Int)), (([] : List (Int)), (false, (false, ()))))))) fun (x64 : (Int) × ((Int) × ((List (Int)) × ((List (Int)) × ((Bool) × ((Bool) × (Unit))))))) =>
 (bif x64.2.2.2.2.1 then if (Dat.Ix s49 (Dat.len d0.2.1)) then Dat.bnd (Dat.get d0.2.1 (Dat.toN s49) (0, (0, (([] : List (Int)), (([] : List (Int)), (false, (false, ()))))))) fun (x67 : (Int) × ((Int) × ((List (Int)) × ((List (Int)) × ((Bool) × ((Bool) × (Unit))))))) =>
 k51 (Dat.pickB false true (Dat.pickB true (Dat.bnot x67.2.2.2.2.1) false))
 else none
 else k51 (Dat.pickB false true false))
 else none)
 else none
 else none
 else if (Dat.Ix s49 (Dat.len x6.1.1)) then Dat.bnd (Dat.get x6.1.1 (Dat.toN s49) (0, (0, (([] : List (Int)), (([] : List (Int)), (false, (false, ()))))))) fun (x70 : (Int) × ((Int) × ((List (Int)) × ((List (Int)) × ((Bool) × ((Bool) × (Unit))))))) =>
 (bif x70.2.2.2.2.1 then if (Dat.Ix s49 (Dat.len d0.2.1)) then Dat.bnd (Dat.get d0.2.1 (Dat.toN s49) (0, (0, (([] : List (Int)), (([] : List (Int)), (false, (false, ()))))))) fun (x73 : (Int) × ((Int) × ((List (Int)) × ((List (Int)) × ((Bool) × ((Bool) × (Unit))))))) =>
 k51 (Dat.pickB false true (Dat.pickB true (Dat.bnot x73.2.2.2.2.1) false))
 else none
 else k51 (Dat.pickB false true false))
 else none)
 else none) fun (j74 : Bool) =>
 (bif j74 then some false
 else if (Dat.Ix s49 (Dat.len d0.2.1)) then Dat.bnd (Dat.get d0.2.1 (Dat.toN s49) (0, (0, (([] : List (Int)), (([] : List (Int)), (false, (false, ()))))))) fun (x77 : (Int) × ((Int) × ((List (Int)) × ((List (Int)) × ((Bool) × ((Bool) × (Unit))))))) =>
 if (Dat.Ix s49 (Dat.len x46.1)) then Dat.bnd (Dat.get x46.1 (Dat.toN s49) (0, (0, (([] : List (Int)), (([] : List (Int)), (false, (false, ()))))))) fun (x80 : (Int) × ((Int) × ((List (Int)) × ((List (Int)) × ((Bool) × ((Bool) × (Unit))))))) =>
 none
 else none
 else none)
 else Dat.join (σ := Bool) (fun k81 =>
 (bif x1 then Dat.bind (ref25_Same ((x46.1, (d0.2.2.1, ())), (d0.2.1, (d0.2.2.1, ())))) fun (x82 : Bool) =>
 (bif (Dat.pickB true x82 false) then Dat.bind (frames_Check ((d0.1.1, (d0.1.2.1, (d0.1.2.2.1, (d0.1.2.2.2.1, (d0.1.2.2.2.2.1, (d0.1.2.2.2.2.2.1, (d0.1.2.2.2.2.2.2.1, (d0.1.2.2.2.2.2.2.2.1, (d0.1.2.2.2.2.2.2.2.2.1, ()))))))))), (x6.1.1, (x6.1.2.1, ())))) fun (x83 : Int) =>
 k81 (Dat.pickB true (Dat.ieq x83 0) false)
 else k81 false)
 else k81 false)) fun (j84 : Bool) =>
 some j84)) 0
 else Dat.loop (fun (s85 : (Int) × (List ((Int) × ((Int) × ((List (Int)) × ((List (Int)) × ((Bool) × ((Bool) × (Unit))))))))) k86 =>
 (bif (Dat.ilt s85.1 (Dat.ofN (Dat.len d0.2.1))) then Dat.join (σ := Bool) (fun k87 =>
 if (Dat.Ix s85.1 (Dat.len d0.2.1)) then Dat.bnd (Dat.get d0.2.1 (Dat.toN s85.1) (0, (0, (([] : List (Int)), (([] : List (Int)), (false, (false, ()))))))) fun (x90 : (Int) × ((Int) × ((List (Int)) × ((List (Int)) × ((Bool) × ((Bool) × (Unit))))))) =>
 Dat.bind (law25_free (x90.1, (x90.2.1, (x90.2.2.1, (x90.2.2.2.1, (x90.2.2.2.2.1, (x90.2.2.2.2.2.1, ()))))))) fun (x91 : Bool) =>
 (bif (Dat.bnot x91) then if (Dat.Ix s85.1 (Dat.len x6.1.1)) then Dat.bnd (Dat.get x6.1.1 (Dat.toN s85.1) (0, (0, (([] : List (Int)), (([] : List (Int)), (false, (false, ()))))))) fun (x94 : (Int) × ((Int) × ((List (Int)) × ((List (Int)) × ((Bool) × ((Bool) × (Unit))))))) =>
 if (Dat.Ix s85.1 (Dat.len d0.2.1)) then Dat.bnd (Dat.get d0.2.1 (Dat.toN s85.1) (0, (0, (([] : List (Int)), (([] : List (Int)), (false, (false, ()))))))) fun (x97 : (Int) × ((Int) × ((List (Int)) × ((List (Int)) × ((Bool) × ((Bool) × (Unit))))))) =>
 (bif (Dat.pickB true (Dat.bnot (Dat.beq x94.2.2.2.2.1 x97.2.2.2.2.1)) false) then k87 true
 else if (Dat.Ix s85.1 (Dat.len x6.1.1)) then Dat.bnd (Dat.get x6.1.1 (Dat.toN s85.1) (0, (0, (([] : List (Int)), (([] : List (Int)), (false, (false, ()))))))) fun (x100 : (Int) × ((Int) × ((List (Int)) × ((List (Int)) × ((Bool) × ((Bool) × (Unit))))))) =>
 (bif x100.2.2.2.2.1 then if (Dat.Ix s85.1 (Dat.len d0.2.1)) then Dat.bnd (Dat.get d0.2.1 (Dat.toN s85.1) (0, (0, (([] : List (Int)), (([] : List (Int)), (false, (false, ()))))))) fun (x103 : (Int) × ((Int) × ((List (Int)) × ((List (Int)) × ((Bool) × ((Bool) × (Unit))))))) =>
 k87 (Dat.pickB false true (Dat.pickB true (Dat.bnot x103.2.2.2.2.1) false))
 else none
 else k87 (Dat.pickB false true false))
 else none)
 else none
 else none
 else if (Dat.Ix s85.1 (Dat.len x6.1.1)) then Dat.bnd (Dat.get x6.1.1 (Dat.toN s85.1) (0, (0, (([] : List (Int)), (([] : List (Int)), (false, (false, ()))))))) fun (x106 : (Int) × ((Int) × ((List (Int)) × ((List (Int)) × ((Bool) × ((Bool) × (Unit))))))) =>
 (bif x106.2.2.2.2.1 then if (Dat.Ix s85.1 (Dat.len d0.2.1)) then Dat.bnd (Dat.get d0.2.1 (Dat.toN s85.1) (0, (0, (([] : List (Int)), (([] : List (Int)), (false, (false, ()))))))) fun (x109 : (Int) × ((Int) × ((List (Int)) × ((List (Int)) × ((Bool) × ((Bool) × (Unit))))))) =>
 k87 (Dat.pickB false true (Dat.pickB true (Dat.bnot x109.2.2.2.2.1) false))
 else none
 else k87 (Dat.pickB false true false))
 else none)
 else none) fun (j110 : Bool) =>
 (bif j110 then some false
 else if (Dat.Ix s85.1 (Dat.len d0.2.1)) then Dat.bnd (Dat.get d0.2.1 (Dat.toN s85.1) (0, (0, (([] : List (Int)), (([] : List (Int)), (false, (false, ()))))))) fun (x113 : (Int) × ((Int) × ((List (Int)) × ((List (Int)) × ((Bool) × ((Bool) × (Unit))))))) =>
 if (Dat.In s85.1 (Dat.len x46.1)) then if (Dat.Lt (Dat.addN 0 (Dat.toN s85.1)) (Dat.len s85.2)) then Dat.bnd (Dat.get s85.2 (Dat.addN 0 (Dat.toN s85.1)) (0, (0, (([] : List (Int)), (([] : List (Int)), (false, (false, ()))))))) fun (x118 : (Int) × ((Int) × ((List (Int)) × ((List (Int)) × ((Bool) × ((Bool) × (Unit))))))) =>
 Dat.bnd (Dat.set s85.2 (Dat.addN 0 (Dat.toN s85.1)) (x118.1, (x118.2.1, (x118.2.2.1, (x118.2.2.2.1, (x113.2.2.2.2.1, (x118.2.2.2.2.2.1, ()))))))) fun (x119 : List ((Int) × ((Int) × ((List (Int)) × ((List (Int)) × ((Bool) × ((Bool) × (Unit)))))))) =>
 Dat.bnd (Dat.wrap .i64 (Dat.add s85.1 1)) fun (x120 : Int) =>
 k86 (x120, x119)
 else none
 else none
 else none)
 else Dat.join (σ := Bool) (fun k121 =>
 (bif x1 then if (Dat.Le (Dat.addN 0 (Dat.len x46.1)) (Dat.len s85.2)) then Dat.bind (ref25_Same (((Dat.seg s85.2 0 (Dat.len x46.1)), (d0.2.2.1, ())), (d0.2.1, (d0.2.2.1, ())))) fun (x124 : Bool) =>
 (bif (Dat.pickB true x124 false) then Dat.bind (frames_Check ((d0.1.1, (d0.1.2.1, (d0.1.2.2.1, (d0.1.2.2.2.1, (d0.1.2.2.2.2.1, (d0.1.2.2.2.2.2.1, (d0.1.2.2.2.2.2.2.1, (d0.1.2.2.2.2.2.2.2.1, (d0.1.2.2.2.2.2.2.2.2.1, ()))))))))), (x6.1.1, (x6.1.2.1, ())))) fun (x125 : Int) =>
 k121 (Dat.pickB true (Dat.ieq x125 0) false)
 else k121 false)
 else none
 else k121 false)) fun (j126 : Bool) =>
 some j126)) (0, x46.1))))) (false, (true, 0)))
noncomputable def p_law25_FramesClock : PFn := { args := [(.pair (.int .i64) (.pair (.int .i64) (.pair (.int .i64) (.pair (.int .i64) (.pair (.int .i64) (.pair (.int .i64) (.pair (.int .i64) (.pair (.int .i64) (.pair (.int .i64) .unit))))))))), (.pair (.list (.pair (.int .u8) (.pair (.int .i64) (.pair (.list (.int .u8)) (.pair (.list (.int .i64)) (.pair .bool (.pair .bool .unit))))))) (.pair (.int .i64) .unit))], res := [.bool], fn := law25_FramesClock }
def sp6_79 : List LSpec × List Nat := ([{ id := 5079000, known := false, toks := [], items := [], junk := [2], tails := [] }, { id := 5079001, known := true, toks := [], items := [.slot 2 (.val .bool)], junk := [3, 4, 5, 6, 7, 8, 9, 10, 11, 12, 13, 14], tails := [] }], [])
def sp6_98 : List LSpec × List Nat := ([{ id := 5098000, known := false, toks := [], items := [], junk := [2], tails := [] }, { id := 5098001, known := true, toks := [], items := [.slot 8 (.val .bool)], junk := [3, 4, 5, 6, 7], tails := [] }, { id := 5098002, known := false, toks := [], items := [], junk := [2], tails := [] }, { id := 5098003, known := false, toks := [], items := [.slot 2 (.val (.int .i64))], junk := [], tails := [] }, { id := 5098004, known := false, toks := [], items := [.slot 2 (.val (.int .i64))], junk := [], tails := [] }], [])
def sp6_95 : List LSpec × List Nat := ([{ id := 5095000, known := false, toks := [], items := [], junk := [2], tails := [] }, { id := 5095001, known := false, toks := [], items := [.slot 3 (.val (.int .i64))], junk := [], tails := [] }, { id := 9500, known := false, toks := [], items := [], junk := [], tails := [] }, { id := 5095002, known := false, toks := [], items := [.slot 4 (.val (.int .i64)), .slot 5 (.val (.int .i64))], junk := [9, 10, 8, 11, 12], tails := [] }, { id := 5095003, known := true, toks := [], items := [.slot 19 (.val .bool)], junk := [13, 14, 15, 16, 17, 18], tails := [] }, { id := 5095004, known := false, toks := [], items := [], junk := [20, 2], tails := [] }, { id := 5095005, known := false, toks := [], items := [.slot 2 (.val (.int .i64))], junk := [20], tails := [] }, { id := 5095006, known := false, toks := [], items := [.slot 3 (.val (.int .i64))], junk := [6, 7], tails := [] }], [])
def sp6_89 : List LSpec × List Nat := ([{ id := 5089000, known := false, toks := [], items := [], junk := [4, 5, 6, 7, 8, 9], tails := [] }, { id := 8900, known := false, toks := [], items := [], junk := [], tails := [] }, { id := 5089001, known := true, toks := [], items := [.slot 18 (.val .bool)], junk := [10, 11, 12, 13, 14, 15, 16, 17], tails := [] }, { id := 5089002, known := false, toks := [], items := [], junk := [], tails := [] }, { id := 5089003, known := false, toks := [], items := [], junk := [19, 20, 21, 22, 23, 24, 25, 26, 27, 28, 29, 30, 31, 32], tails := [] }], [])
def sp6_42 : List LSpec × List Nat := ([{ id := 5042000, known := false, toks := [], items := [], junk := [4], tails := [] }, { id := 5042001, known := true, toks := [], items := [.slot 4 (.val .bool)], junk := [5, 6, 7, 8, 9, 10, 11, 12, 13], tails := [] }], [])
def sp6_65 : List LSpec × List Nat := ([{ id := 5065000, known := false, toks := [], items := [], junk := [4], tails := [] }, { id := 5065001, known := false, toks := [], items := [.slot 13 (.val .bool)], junk := [8, 9, 10, 11, 12], tails := [] }, { id := 5065002, known := false, toks := [], items := [], junk := [4], tails := [] }, { id := 5065003, known := false, toks := [], items := [.slot 4 (.val .bool)], junk := [], tails := [] }, { id := 5065004, known := false, toks := [], items := [.slot 16 (.val (.int .i64)), .slot 17 (.val (.int .i64))], junk := [14], tails := [] }, { id := 6500, known := false, toks := [], items := [], junk := [], tails := [] }, { id := 5065005, known := false, toks := [], items := [], junk := [], tails := [] }, { id := 5065006, known := false, toks := [], items := [], junk := [], tails := [] }, { id := 5065007, known := false, toks := [], items := [.slot 6 (.val (.int .i64))], junk := [19, 20], tails := [] }, { id := 5065008, known := true, toks := [], items := [.slot 26 (.val .bool)], junk := [21, 22, 23, 24, 25], tails := [] }, { id := 5065009, known := false, toks := [], items := [], junk := [4], tails := [] }, { id := 5065010, known := false, toks := [], items := [.slot 4 (.val .bool)], junk := [], tails := [] }, { id := 5065011, known := false, toks := [], items := [.slot 17 (.val (.int .i64))], junk := [27], tails := [] }, { id := 5065012, known := true, toks := [], items := [.slot 7 (.val .bool)], junk := [28, 29, 30, 31, 32, 33, 34, 35, 36, 37], tails := [] }, { id := 5065013, known := false, toks := [], items := [.slot 39 (.val (.int .u8))], junk := [38], tails := [] }, { id := 5065014, known := false, toks := [], items := [.slot 40 (.val .bool)], junk := [41], tails := [] }, { id := 5065015, known := false, toks := [], items := [], junk := [42, 43, 44, 45, 46, 47, 48, 49, 50, 51, 52, 53, 54, 55, 56, 57, 58, 59, 60, 61, 62, 63, 64, 65, 4, 67, 66, 68, 69, 70, 71, 72, 73, 74, 75, 76, 77, 78, 79, 80, 81, 82, 83, 85, 84, 86, 87, 88, 89, 90, 91, 92, 93, 94], tails := [] }, { id := 5065016, known := true, toks := [], items := [.slot 4 (.val .bool)], junk := [42, 43, 44, 45, 46, 47, 48, 49, 50, 51, 52, 53, 54, 55, 56, 57, 58, 59, 60, 61, 62, 63, 64, 65], tails := [] }, { id := 5065017, known := false, toks := [], items := [.slot 66 (.val .bool)], junk := [67], tails := [] }, { id := 5065018, known := false, toks := [], items := [], junk := [68, 69, 70, 71, 72, 73, 74, 75, 76, 77, 78, 79, 80, 81, 82, 83, 4, 85, 84, 86, 87, 88, 89, 90, 91, 92, 93, 94], tails := [] }, { id := 5065019, known := true, toks := [], items := [.slot 4 (.val .bool)], junk := [68, 69, 70, 71, 72, 73, 74, 75, 76, 77, 78, 79, 80, 81, 82, 83], tails := [] }, { id := 5065020, known := false, toks := [], items := [.slot 84 (.val .bool)], junk := [85], tails := [] }, { id := 5065021, known := false, toks := [], items := [], junk := [86, 87, 88, 89, 90, 91, 92, 93, 94, 4], tails := [] }, { id := 5065022, known := true, toks := [], items := [.slot 4 (.val .bool)], junk := [86, 87, 88, 89, 90, 91, 92, 93, 94], tails := [] }, { id := 5065023, known := false, toks := [], items := [.slot 4 (.val .bool)], junk := [], tails := [] }], [])
def sp6_29 : List LSpec × List Nat := ([{ id := 5029000, known := false, toks := [], items := [], junk := [4], tails := [] }, { id := 5029001, known := false, toks := [], items := [.slot 5 (.val (.int .i64))], junk := [9, 10], tails := [] }, { id := 5029002, known := false, toks := [], items := [.slot 12 (.val .bool)], junk := [11], tails := [] }, { id := 5029003, known := false, toks := [], items := [], junk := [13, 4], tails := [] }, { id := 5029004, known := false, toks := [], items := [.slot 4 (.val (.int .i64))], junk := [13], tails := [] }, { id := 5029005, known := true, toks := [], items := [.slot 26 (.val .bool)], junk := [14, 15, 16, 17, 18, 19, 20, 21, 22, 23, 24, 25], tails := [] }, { id := 5029006, known := false, toks := [], items := [], junk := [4], tails := [] }, { id := 5029007, known := false, toks := [], items := [.slot 4 (.val (.int .i64))], junk := [], tails := [] }, { id := 5029008, known := false, toks := [], items := [], junk := [27], tails := [] }, { id := 5029009, known := false, toks := [], items := [.slot 30 (.val (.int .i64)), .slot 31 (.val (.int .i64))], junk := [28], tails := [] }, { id := 2900, known := false, toks := [], items := [], junk := [], tails := [] }, { id := 5029010, known := false, toks := [], items := [], junk := [], tails := [] }, { id := 5029011, known := false, toks := [], items := [], junk := [], tails := [] }, { id := 5029012, known := false, toks := [], items := [], junk := [33, 34], tails := [] }, { id := 5029013, known := false, toks := [], items := [.slot 38 (.val .bool)], junk := [35, 36, 37], tails := [] }, { id := 5029014, known := false, toks := [], items := [], junk := [4], tails := [] }, { id := 5029015, known := false, toks := [], items := [.slot 4 (.val (.int .i64))], junk := [], tails := [] }, { id := 5029016, known := false, toks := [], items := [.slot 41 (.val .bool)], junk := [39, 40], tails := [] }, { id := 5029017, known := false, toks := [], items := [], junk := [], tails := [] }, { id := 5029018, known := false, toks := [], items := [], junk := [42, 43, 44, 45, 46], tails := [] }, { id := 5029019, known := false, toks := [], items := [.slot 51 (.val .bool)], junk := [47, 48, 49, 50], tails := [] }, { id := 5029020, known := false, toks := [], items := [], junk := [4], tails := [] }, { id := 5029021, known := false, toks := [], items := [.slot 4 (.val (.int .i64))], junk := [], tails := [] }, { id := 5029022, known := false, toks := [], items := [.slot 31 (.val (.int .i64))], junk := [52], tails := [] }, { id := 5029023, known := false, toks := [], items := [.slot 4 (.val (.int .i64))], junk := [], tails := [] }], [])
def sp6_25 : List LSpec × List Nat := ([{ id := 5025000, known := false, toks := [], items := [], junk := [], tails := [] }, { id := 5025001, known := false, toks := [], items := [.slot 7 (.val (.int .i64))], junk := [10, 11, 12], tails := [] }, { id := 5025002, known := false, toks := [], items := [.slot 14 (.val .bool)], junk := [13], tails := [] }, { id := 5025003, known := false, toks := [], items := [], junk := [15, 16], tails := [] }, { id := 5025004, known := false, toks := [], items := [], junk := [15, 16], tails := [] }, { id := 5025005, known := false, toks := [], items := [], junk := [17, 18], tails := [] }, { id := 5025006, known := false, toks := [], items := [], junk := [19], tails := [] }, { id := 5025007, known := false, toks := [], items := [.slot 8 (.val (.int .i64))], junk := [], tails := [] }, { id := 5025008, known := false, toks := [], items := [], junk := [22, 23, 24, 25, 26], tails := [] }, { id := 5025009, known := true, toks := [], items := [.slot 27 (.val .bool)], junk := [28, 29, 30, 31, 32, 33, 34], tails := [] }, { id := 5025010, known := false, toks := [], items := [], junk := [36, 37, 35, 38, 39, 40, 41, 42], tails := [] }, { id := 5025011, known := false, toks := [], items := [.slot 35 (.val .bool)], junk := [36, 37], tails := [] }, { id := 5025012, known := false, toks := [], items := [], junk := [38, 39, 40, 41, 42], tails := [] }, { id := 5025013, known := false, toks := [], items := [], junk := [38, 39, 40, 41, 42], tails := [] }, { id := 5025014, known := false, toks := [], items := [], junk := [43, 44, 45, 46, 47, 48, 49], tails := [] }, { id := 5025015, known := false, toks := [], items := [], junk := [50, 51], tails := [] }, { id := 5025016, known := false, toks := [], items := [], junk := [52], tails := [] }], [])
def sp6_18 : List LSpec × List Nat := ([{ id := 5018000, known := false, toks := [], items := [], junk := [0], tails := [] }, { id := 5018001, known := false, toks := [], items := [], junk := [13, 14, 15, 16], tails := [] }, { id := 5018002, known := false, toks := [], items := [.slot 3 (.val (.int .i64)), .slot 4 (.val (.int .i64))], junk := [18, 19, 20, 17, 21, 22, 23], tails := [] }, { id := 5018003, known := false, toks := [], items := [], junk := [24, 25, 26, 27], tails := [] }, { id := 5018004, known := false, toks := [], items := [.slot 7 (.val (.int .i64)), .slot 8 (.val (.int .i64))], junk := [29, 30, 31, 28, 32, 33, 34, 6], tails := [] }, { id := 5018005, known := false, toks := [], items := [], junk := [35, 36, 37, 38], tails := [] }, { id := 5018006, known := false, toks := [], items := [.slot 12 (.val (.int .i64))], junk := [40, 41, 42, 39, 43, 44, 45, 10, 11], tails := [] }, { id := 5018007, known := true, toks := [], items := [.slot 0 (.val .bool)], junk := [46, 47, 48, 49, 50, 51, 52, 53, 54, 55, 56, 57, 58, 59, 60, 61, 62, 63, 64, 65, 66, 67, 68, 69, 70, 71, 72, 73, 74, 75, 76, 77, 78, 79, 80, 81, 82, 83, 84, 85, 86, 87, 88, 89, 90], tails := [] }], [])
def sp6_21 : List LSpec × List Nat := ([{ id := 5021000, known := false, toks := [], items := [], junk := [2], tails := [] }, { id := 5021001, known := false, toks := [], items := [.slot 3 (.val (.int .i64))], junk := [], tails := [] }, { id := 2100, known := false, toks := [], items := [], junk := [], tails := [] }, { id := 5021002, known := true, toks := [], items := [.slot 12 (.val .bool)], junk := [4, 5, 6, 7, 8, 9, 10, 11], tails := [] }, { id := 5021003, known := false, toks := [], items := [], junk := [], tails := [] }, { id := 5021004, known := true, toks := [], items := [.slot 32 (.val .bool)], junk := [15, 16, 17, 18, 19, 20, 21, 22, 23, 24, 25, 26, 27, 28, 29, 30, 31], tails := [] }, { id := 5021005, known := false, toks := [], items := [], junk := [2], tails := [] }, { id := 5021006, known := false, toks := [], items := [.slot 2 (.val .bool)], junk := [], tails := [] }, { id := 5021007, known := false, toks := [], items := [.slot 3 (.val (.int .i64))], junk := [13, 14], tails := [] }, { id := 5021008, known := false, toks := [], items := [.slot 2 (.val .bool)], junk := [33, 34, 35, 36], tails := [] }], [])
def sp6_40 : List LSpec × List Nat := ([{ id := 5040000, known := false, toks := [], items := [], junk := [2], tails := [] }, { id := 5040001, known := true, toks := [], items := [.slot 2 (.val .bool)], junk := [3, 4, 5, 6, 7, 8, 9, 10, 11, 12, 13, 14, 15], tails := [] }], [])
def sp6_28 : List LSpec × List Nat := ([{ id := 5028000, known := false, toks := [], items := [], junk := [4], tails := [] }, { id := 5028001, known := true, toks := [], items := [.slot 21 (.val .bool)], junk := [8, 9, 10, 11, 12, 13, 14, 15, 16, 17, 18, 19, 20], tails := [] }, { id := 5028002, known := false, toks := [], items := [], junk := [4], tails := [] }, { id := 5028003, known := false, toks := [], items := [.slot 4 (.val .bool)], junk := [], tails := [] }, { id := 5028004, known := false, toks := [], items := [.slot 5 (.val (.int .i64))], junk := [], tails := [] }, { id := 2800, known := false, toks := [], items := [], junk := [], tails := [] }, { id := 5028005, known := false, toks := [], items := [.slot 26 (.val .bool)], junk := [22, 23, 24, 25], tails := [] }, { id := 5028006, known := false, toks := [], items := [], junk := [], tails := [] }, { id := 5028007, known := false, toks := [], items := [], junk := [29, 30, 31, 32, 33, 34, 35, 36, 37, 38], tails := [] }, { id := 5028008, known := true, toks := [], items := [.slot 80 (.val .bool)], junk := [39, 40, 41, 42, 43, 44, 45, 46, 47, 48, 49, 50, 51, 52, 53, 54, 55, 56, 57, 58, 59, 60, 61, 62, 63, 64, 65, 66, 67, 68, 69, 70, 71, 72, 73, 74, 75, 76, 77, 78, 79], tails := [] }, { id := 5028009, known := false, toks := [], items := [], junk := [4], tails := [] }, { id := 5028010, known := false, toks := [], items := [.slot 4 (.val .bool)], junk := [], tails := [] }, { id := 5028011, known := false, toks := [], items := [.slot 5 (.val (.int .i64))], junk := [27, 28], tails := [] }, { id := 5028012, known := false, toks := [], items := [.slot 4 (.val .bool)], junk := [], tails := [] }], [])
def sp6_6 : List LSpec × List Nat := ([{ id := 5006000, known := false, toks := [], items := [], junk := [4], tails := [] }, { id := 5006001, known := false, toks := [], items := [.slot 5 (.val .bool)], junk := [14], tails := [] }, { id := 5006002, known := true, toks := [], items := [.slot 26 (.val .bool)], junk := [15, 16, 17, 18, 19, 20, 21, 22, 23, 24, 25], tails := [] }, { id := 5006003, known := false, toks := [], items := [], junk := [27, 4], tails := [] }, { id := 5006004, known := false, toks := [], items := [.slot 4 (.val .bool)], junk := [27], tails := [] }, { id := 5006005, known := false, toks := [], items := [.slot 7 (.val (.int .i64)), .slot 8 (.val (.int .i64))], junk := [29, 30, 31, 28, 32, 33, 34], tails := [] }, { id := 5006006, known := false, toks := [], items := [.slot 9 (.val .bool), .slot 10 (.val .bool)], junk := [], tails := [] }, { id := 5006007, known := false, toks := [], items := [.slot 11 (.val (.int .i64))], junk := [], tails := [] }, { id := 600, known := true, toks := [], items := [.slot 9 (.val .bool), .slot 10 (.val .bool), .slot 11 (.val (.int .i64))], junk := [35, 36, 37, 38, 39, 42, 43, 44, 45, 46, 47, 48, 49, 50, 51, 52, 53, 54, 55, 56, 40, 41], tails := [] }, { id := 5006008, known := false, toks := [], items := [.slot 39 (.val .bool)], junk := [35, 36, 37, 38], tails := [] }, { id := 5006009, known := false, toks := [], items := [], junk := [], tails := [] }, { id := 5006010, known := false, toks := [], items := [.slot 47 (.val .bool)], junk := [42, 43, 44, 45, 46], tails := [] }, { id := 5006011, known := true, toks := [], items := [.slot 9 (.val .bool), .slot 10 (.val .bool)], junk := [48, 49, 50, 51, 52, 53, 54, 55, 56], tails := [] }, { id := 5006012, known := false, toks := [], items := [.slot 9 (.val .bool)], junk := [], tails := [] }, { id := 5006013, known := true, toks := [], items := [.slot 10 (.val .bool)], junk := [48, 49, 50, 51, 52, 53, 54, 55, 56], tails := [] }, { id := 5006014, known := false, toks := [], items := [.slot 11 (.val (.int .i64))], junk := [40, 41], tails := [] }, { id := 5006015, known := false, toks := [], items := [.slot 58 (.val .bool)], junk := [57], tails := [] }, { id := 5006016, known := false, toks := [], items := [], junk := [59, 60, 61, 62, 63, 64, 65, 66, 67, 4], tails := [] }, { id := 5006017, known := true, toks := [], items := [.slot 4 (.val .bool)], junk := [59, 60, 61, 62, 63, 64, 65, 66, 67], tails := [] }, { id := 5006018, known := true, toks := [], items := [.slot 129 (.val .bool)], junk := [68, 69, 70, 71, 72, 73, 74, 75, 76, 77, 78, 79, 80, 81, 82, 83, 84, 85, 86, 87, 88, 89, 90, 91, 92, 93, 94, 95, 96, 97, 98, 99, 100, 101, 102, 103, 104, 105, 106, 107, 108, 109, 110, 111, 112, 113, 114, 115, 116, 117, 118, 119, 120, 121, 122, 123, 124, 125, 126, 127, 128], tails := [] }, { id := 5006019, known := false, toks := [], items := [], junk := [4], tails := [] }, { id := 5006020, known := false, toks := [], items := [.slot 4 (.val .bool)], junk := [], tails := [] }, { id := 5006021, known := false, toks := [], items := [], junk := [130, 131], tails := [] }, { id := 5006022, known := false, toks := [], items := [], junk := [132, 133, 134], tails := [] }, { id := 5006023, known := false, toks := [], items := [.slot 13 (.val (.int .i64))], junk := [], tails := [] }, { id := 601, known := true, toks := [], items := [.slot 13 (.val (.int .i64)), .vec 2004000 (.pair (.int .u8) (.pair (.int .i64) (.pair (.list (.int .u8)) (.pair (.list (.int .i64)) (.pair .bool (.pair .bool .unit))))))], junk := [135, 136, 137, 138, 139, 142, 143, 144, 145, 146, 147, 148, 149, 150, 151, 152, 153, 154, 155, 156, 157, 158, 159, 160, 161, 162, 163, 164, 165, 166, 167, 168, 169, 170, 171, 172, 173, 174, 175, 176, 177, 178, 179, 180, 4, 181, 182, 183, 184, 185, 186, 187, 188, 189, 190, 191, 140, 141], tails := [] }, { id := 5006024, known := false, toks := [], items := [.slot 139 (.val .bool)], junk := [135, 136, 137, 138], tails := [] }, { id := 5006025, known := false, toks := [], items := [], junk := [], tails := [] }, { id := 5006026, known := true, toks := [], items := [.slot 180 (.val .bool)], junk := [142, 143, 144, 145, 146, 147, 148, 149, 150, 151, 152, 153, 154, 155, 156, 157, 158, 159, 160, 161, 162, 163, 164, 165, 166, 167, 168, 169, 170, 171, 172, 173, 174, 175, 176, 177, 178, 179], tails := [] }, { id := 5006027, known := false, toks := [], items := [], junk := [4], tails := [] }, { id := 5006028, known := false, toks := [], items := [.slot 4 (.val .bool)], junk := [], tails := [] }, { id := 5006029, known := false, toks := [], items := [], junk := [181, 182, 183, 184, 185, 186, 187, 188, 189, 190, 191], tails := [] }, { id := 5006030, known := false, toks := [], items := [.slot 13 (.val (.int .i64))], junk := [140, 141], tails := [] }, { id := 5006031, known := true, toks := [], items := [.slot 4 (.val .bool)], junk := [192, 193, 194, 195, 196, 197, 198, 199, 200, 201, 202, 203], tails := [] }], [])
def spt6 : Tab (List LSpec × List Nat) := (.node (.node (.node (.node (.node (.node .leaf none (.node .leaf (some sp6_95) .leaf)) none (.node (.node .leaf (some sp6_79) .leaf) none .leaf)) none .leaf) none .leaf) none (.node (.node (.node (.node (.node .leaf (some sp6_65) .leaf) none .leaf) none .leaf) none (.node .leaf (some sp6_25) (.node (.node .leaf (some sp6_89) .leaf) none .leaf))) none (.node (.node .leaf (some sp6_21) .leaf) none (.node .leaf (some sp6_29) .leaf)))) none (.node (.node (.node .leaf none (.node (.node .leaf (some sp6_40) .leaf) none .leaf)) none (.node .leaf none (.node .leaf (some sp6_28) .leaf))) none (.node (.node (.node (.node .leaf none (.node .leaf (some sp6_98) .leaf)) (some sp6_18) .leaf) none (.node (.node .leaf (some sp6_42) .leaf) none .leaf)) (some sp6_6) .leaf)))
def spf6 (f : Nat) : List LSpec × List Nat := (spt6.get f).getD ([], [])
theorem pd_law25_FramesClock : PureD Try.prog cfg 6 p_law25_FramesClock := fnDa spf6 [] (l := [(18, p_law25_alive), (21, p_ref25_Great), (29, p_frames_Check), (25, p_frames_Victim), (40, p_law25_free), (22, p_ref25_Twin), (28, p_ref25_Same)]) (lo := [(22, o_ref25_Twin)]) cfgOk cfgGlob (.cons pd_law25_alive (.cons pd_ref25_Great (.cons pd_frames_Check (.cons pd_frames_Victim (.cons pd_law25_free (.cons pd_ref25_Twin (.cons pd_ref25_Same .nil))))))) (.cons od_ref25_Twin.1 .nil) (fun d => by kernel_rfl)
end Go.Proofs.Ytablhcjjfiepaaa
