/- The functions of the program, as functions on plain data. -/
import Derived.Test.YtaphpgkaammeiaaCfg
import Derived.Test.YtaphpgkaammeiaaM5
import Derived.ProofKit
namespace Go.Proofs.Ytaphpgkaammeiaa
open Go.Eng
set_option linter.unusedVariables false
set_option maxRecDepth 100000
def sp29 : List LSpec × List Nat := ([{ id := 2900, known := true, toks := [], items := [.slot 3 (.val (.int .i64)), .slot 4 (.val (.int .i64))], junk := [5, 6, 7, 10, 11, 8, 9], tails := [] }], [])
def sp8 : List LSpec × List Nat := ([{ id := 800, known := true, toks := [], items := [.slot 16 (.val (.int .i64)), .cells 1000003 [.val (.int .u64)], .cells 1000007 [.val (.int .i64)]], junk := [17, 18, 19, 20], tails := [] }], [])
def sp30 : List LSpec × List Nat := ([{ id := 3000, known := true, toks := [], items := [.slot 6 (.val (.int .i64)), .slot 5 (.val (.int .i64)), .slot 7 (.val (.int .i64))], junk := [14, 15, 16, 19, 20, 21, 22, 23, 24, 25, 17, 18], tails := [] }], [])
def sp34 : List LSpec × List Nat := ([{ id := 3400, known := true, toks := [], items := [], junk := [], tails := [] }], [])
def sp23 : List LSpec × List Nat := ([{ id := 2300, known := true, toks := [], items := [.slot 5 (.val (.int .i64))], junk := [11, 12, 13, 14, 17, 18, 19, 20, 21, 22, 23, 24, 25, 4, 15, 16], tails := [] }], [])
def sp6 : List LSpec × List Nat := ([{ id := 600, known := true, toks := [], items := [.slot 9 (.val (.int .i64)), .vec 1000008 (.int .i64)], junk := [30, 31, 32, 33, 34, 35, 36, 40, 41, 42, 43, 44, 45, 39, 46, 47, 10, 11, 48, 49, 50, 51, 52, 53, 54, 55, 56, 57, 58, 59, 60, 61, 62, 63, 64, 65, 4, 66, 67, 68, 69, 70, 71, 37, 38], tails := [] }], [])
def spt : Tab (List LSpec × List Nat) := (.node (.node (.node (.node .leaf none (.node .leaf (some sp23) .leaf)) none .leaf) none (.node .leaf none (.node .leaf none (.node .leaf (some sp29) .leaf)))) none (.node (.node (.node .leaf (some sp8) .leaf) none .leaf) none (.node (.node (.node (.node .leaf (some sp34) .leaf) none .leaf) none .leaf) (some sp6) (.node .leaf none (.node .leaf (some sp30) .leaf)))))
def spf (f : Nat) : List LSpec × List Nat := (spt.get f).getD ([], [])

/-- thimblerig/geo.Check -/
noncomputable def geo_Check (d0 : Int) : Option (Int) :=
 (bif (Dat.ilt d0 1) then some 2
 else (bif (Dat.pickB false true (Dat.igt d0 6)) then some 2
 else some 0))
noncomputable def p_geo_Check : PFn := { args := [(.int .i64)], res := [(.int .i64)], fn := geo_Check }
theorem pd_geo_Check : PureD Try.prog cfg 15 p_geo_Check := fnD spf (l := []) cfgOk rfl .nil (fun d => by kernel_rfl)

/-- thimblerig/geo.Leaves -/
noncomputable def geo_Leaves (d0 : Int) : Option ((Int) × (Int)) :=
 Dat.bind (geo_Check d0) fun (x1 : Int) =>
 (bif (Dat.ine x1 0) then some (0, x1)
 else if (Dat.Neg d0) then none
 else Dat.bnd (Dat.shl .i64 1 d0) fun (x4 : Int) =>
 some (x4, 0))
noncomputable def p_geo_Leaves : PFn := { args := [(.int .i64)], res := [(.int .i64), (.int .i64)], fn := geo_Leaves }
theorem pd_geo_Leaves : PureD Try.prog cfg 11 p_geo_Leaves := fnD spf (l := [(15, p_geo_Check)]) cfgOk rfl (.cons pd_geo_Check .nil) (fun d => by kernel_rfl)

/-- thimblerig/thimblerigref07.May -/
noncomputable def ref07_May (d0 : Int) : Option (Bool) :=
 (bif (Dat.ige d0 1) then some (Dat.pickB true (Dat.ile d0 6) false)
 else some false)
noncomputable def p_ref07_May : PFn := { args := [(.int .i64)], res := [.bool], fn := ref07_May }
theorem pd_ref07_May : PureD Try.prog cfg 28 p_ref07_May := fnD spf (l := []) cfgOk rfl .nil (fun d => by kernel_rfl)

/-- thimblerig/thimblerigref07.Many -/
noncomputable def ref07_Many (d0 : Int) : Option (Int) :=
 Dat.loop (fun (s1 : (Int) × (Int)) k2 =>
 (bif (Dat.ilt s1.2 d0) then Dat.bnd (Dat.wrap .i64 (Dat.mul 2 s1.1)) fun (x3 : Int) =>
 Dat.bnd (Dat.wrap .i64 (Dat.add s1.2 1)) fun (x4 : Int) =>
 k2 (x3, x4)
 else some s1.1)) (1, 0)
noncomputable def p_ref07_Many : PFn := { args := [(.int .i64)], res := [(.int .i64)], fn := ref07_Many }
theorem pd_ref07_Many : PureD Try.prog cfg 29 p_ref07_Many := fnD spf (l := []) cfgOk rfl .nil (fun d => by kernel_rfl)

/-- thimblerig/thimblerigref07.Leaves -/
noncomputable def ref07_Leaves (d0 : Int) : Option ((Int) × (Int)) :=
 Dat.bind (ref07_May d0) fun (x1 : Bool) =>
 (bif (Dat.bnot x1) then some (0, 2)
 else Dat.bind (ref07_Many d0) fun (x2 : Int) =>
 some (x2, 0))
noncomputable def p_ref07_Leaves : PFn := { args := [(.int .i64)], res := [(.int .i64), (.int .i64)], fn := ref07_Leaves }
theorem pd_ref07_Leaves : PureD Try.prog cfg 16 p_ref07_Leaves := fnD spf (l := [(28, p_ref07_May), (29, p_ref07_Many)]) cfgOk rfl (.cons pd_ref07_May (.cons pd_ref07_Many .nil)) (fun d => by kernel_rfl)

/-- thimblerig/geo.Buckets -/
noncomputable def geo_Buckets (d0 : Int) : Option ((Int) × (Int)) :=
 Dat.bind (geo_Check d0) fun (x1 : Int) =>
 (bif (Dat.ine x1 0) then some (0, x1)
 else if (Dat.Neg d0) then none
 else Dat.bnd (Dat.shl .i64 2 d0) fun (x4 : Int) =>
 Dat.bnd (Dat.wrap .i64 (Dat.sub x4 1)) fun (x5 : Int) =>
 some (x5, 0))
noncomputable def p_geo_Buckets : PFn := { args := [(.int .i64)], res := [(.int .i64), (.int .i64)], fn := geo_Buckets }
theorem pd_geo_Buckets : PureD Try.prog cfg 12 p_geo_Buckets := fnD spf (l := [(15, p_geo_Check)]) cfgOk rfl (.cons pd_geo_Check .nil) (fun d => by kernel_rfl)

/-- thimblerig/thimblerigref07.Buckets -/
noncomputable def ref07_Buckets (d0 : Int) : Option ((Int) × (Int)) :=
 Dat.bind (ref07_May d0) fun (x1 : Bool) =>
 (bif (Dat.bnot x1) then some (0, 2)
 else Dat.bind (ref07_Many d0) fun (x2 : Int) =>
 Dat.bnd (Dat.wrap .i64 (Dat.mul 2 x2)) fun (x3 : Int) =>
 Dat.bnd (Dat.wrap .i64 (Dat.sub x3 1)) fun (x4 : Int) =>
 some (x4, 0))
noncomputable def p_ref07_Buckets : PFn := { args := [(.int .i64)], res := [(.int .i64), (.int .i64)], fn := ref07_Buckets }
theorem pd_ref07_Buckets : PureD Try.prog cfg 17 p_ref07_Buckets := fnD spf (l := [(28, p_ref07_May), (29, p_ref07_Many)]) cfgOk rfl (.cons pd_ref07_May (.cons pd_ref07_Many .nil)) (fun d => by kernel_rfl)

/-- thimblerig/geo.Reverse -/
noncomputable def geo_Reverse (d0 : (Int) × (Int)) : Option ((Int) × (Int)) :=
 Dat.bind (geo_Check d0.1) fun (x1 : Int) =>
 (bif (Dat.ine x1 0) then some (0, x1)
 else Dat.loop (fun (s2 : (Int) × ((Int) × (Int))) k3 =>
 (bif (Dat.ilt s2.1 d0.1) then Dat.bnd (Dat.wrap .i64 (Dat.mul 2 s2.2.2)) fun (x4 : Int) =>
 if (Dat.IsZ 2) then none
 else Dat.bnd (Dat.tmod s2.2.1 2) fun (x7 : Int) =>
 Dat.bnd (Dat.wrap .i64 x7) fun (x8 : Int) =>
 Dat.bnd (Dat.wrap .i64 (Dat.add x4 x8)) fun (x9 : Int) =>
 if (Dat.IsZ 2) then none
 else Dat.bnd (Dat.wrap .u64 (Dat.tdiv s2.2.1 2)) fun (x12 : Int) =>
 Dat.bnd (Dat.wrap .i64 (Dat.add s2.1 1)) fun (x13 : Int) =>
 k3 (x13, (x12, x9))
 else some (s2.2.2, 0))) (0, (d0.2, 0)))
noncomputable def p_geo_Reverse : PFn := { args := [(.int .i64), (.int .u64)], res := [(.int .i64), (.int .i64)], fn := geo_Reverse }
theorem pd_geo_Reverse : PureD Try.prog cfg 8 p_geo_Reverse := fnD spf (l := [(15, p_geo_Check)]) cfgOk rfl (.cons pd_geo_Check .nil) (fun d => by kernel_rfl)

/-- thimblerig/thimblerigref07.Turned -/
noncomputable def ref07_Turned (d0 : (Int) × (Int)) : Option (Int) :=
 Dat.bind (ref07_Many d0.1) fun (x1 : Int) =>
 Dat.bnd (Dat.wrap .u64 x1) fun (x2 : Int) =>
 if (Dat.IsZ x2) then none
 else Dat.bnd (Dat.tmod d0.2 x2) fun (x5 : Int) =>
 Dat.bnd (Dat.wrap .i64 x5) fun (x6 : Int) =>
 Dat.loop (fun (s7 : (Int) × ((Int) × (Int))) k8 =>
 (bif (Dat.ilt s7.2.2 d0.1) then Dat.bnd (Dat.wrap .i64 (Dat.mul 2 s7.1)) fun (x9 : Int) =>
 if (Dat.IsZ 2) then none
 else Dat.bnd (Dat.tmod s7.2.1 2) fun (x12 : Int) =>
 Dat.bnd (Dat.wrap .i64 (Dat.add x9 x12)) fun (x13 : Int) =>
 if (Dat.IsZ 2) then none
 else Dat.bnd (Dat.wrap .i64 (Dat.tdiv s7.2.1 2)) fun (x16 : Int) =>
 Dat.bnd (Dat.wrap .i64 (Dat.add s7.2.2 1)) fun (x17 : Int) =>
 k8 (x13, (x16, x17))
 else some s7.1)) (0, (x6, 0))
noncomputable def p_ref07_Turned : PFn := { args := [(.int .i64), (.int .u64)], res := [(.int .i64)], fn := ref07_Turned }
theorem pd_ref07_Turned : PureD Try.prog cfg 30 p_ref07_Turned := fnD spf (l := [(29, p_ref07_Many)]) cfgOk rfl (.cons pd_ref07_Many .nil) (fun d => by kernel_rfl)

/-- thimblerig/thimblerigref07.Reverse -/
noncomputable def ref07_Reverse (d0 : (Int) × (Int)) : Option ((Int) × (Int)) :=
 Dat.bind (ref07_May d0.1) fun (x1 : Bool) =>
 (bif (Dat.bnot x1) then some (0, 2)
 else Dat.bind (ref07_Turned (d0.1, d0.2)) fun (x2 : Int) =>
 some (x2, 0))
noncomputable def p_ref07_Reverse : PFn := { args := [(.int .i64), (.int .u64)], res := [(.int .i64), (.int .i64)], fn := ref07_Reverse }
theorem pd_ref07_Reverse : PureD Try.prog cfg 18 p_ref07_Reverse := fnD spf (l := [(28, p_ref07_May), (30, p_ref07_Turned)]) cfgOk rfl (.cons pd_ref07_May (.cons pd_ref07_Turned .nil)) (fun d => by kernel_rfl)

/-- thimblerig/thimblerigref07.Check -/
noncomputable def ref07_Check (d0 : Int) : Option (Int) :=
 Dat.bind (ref07_May d0) fun (x1 : Bool) =>
 (bif (Dat.bnot x1) then some 2
 else some 0)
noncomputable def p_ref07_Check : PFn := { args := [(.int .i64)], res := [(.int .i64)], fn := ref07_Check }
theorem pd_ref07_Check : PureD Try.prog cfg 19 p_ref07_Check := fnD spf (l := [(28, p_ref07_May)]) cfgOk rfl (.cons pd_ref07_May .nil) (fun d => by kernel_rfl)

/-- thimblerig/thimbleriglaw07.GeoCounts -/
noncomputable def law07_GeoCounts (d0 : (Int) × (Int)) : Option (Bool) :=
 Dat.bind (geo_Leaves d0.1) fun (x1 : (Int) × (Int)) =>
 Dat.bind (ref07_Leaves d0.1) fun (x2 : (Int) × (Int)) =>
 Dat.bind (geo_Buckets d0.1) fun (x3 : (Int) × (Int)) =>
 Dat.bind (ref07_Buckets d0.1) fun (x4 : (Int) × (Int)) =>
 Dat.bind (geo_Reverse (d0.1, d0.2)) fun (x5 : (Int) × (Int)) =>
 Dat.bind (ref07_Reverse (d0.1, d0.2)) fun (x6 : (Int) × (Int)) =>
 (bif (Dat.ieq x1.1 x2.1) then (bif (Dat.pickB true (Dat.ieq x1.2 x2.2) false) then (bif (Dat.pickB true (Dat.ieq x3.1 x4.1) false) then (bif (Dat.pickB true (Dat.ieq x3.2 x4.2) false) then (bif (Dat.pickB true (Dat.ieq x5.1 x6.1) false) then (bif (Dat.pickB true (Dat.ieq x5.2 x6.2) false) then Dat.bind (geo_Check d0.1) fun (x7 : Int) =>
 Dat.bind (ref07_Check d0.1) fun (x8 : Int) =>
 some (Dat.pickB true (Dat.ieq x7 x8) false)
 else some false)
 else some false)
 else some false)
 else some false)
 else some false)
 else some false)
noncomputable def p_law07_GeoCounts : PFn := { args := [(.int .i64), (.int .u64)], res := [.bool], fn := law07_GeoCounts }
theorem pd_law07_GeoCounts : PureD Try.prog cfg 4 p_law07_GeoCounts := fnD spf (l := [(11, p_geo_Leaves), (16, p_ref07_Leaves), (12, p_geo_Buckets), (17, p_ref07_Buckets), (8, p_geo_Reverse), (18, p_ref07_Reverse), (15, p_geo_Check), (19, p_ref07_Check)]) cfgOk rfl (.cons pd_geo_Leaves (.cons pd_ref07_Leaves (.cons pd_geo_Buckets (.cons pd_ref07_Buckets (.cons pd_geo_Reverse (.cons pd_ref07_Reverse (.cons pd_geo_Check (.cons pd_ref07_Check .nil)))))))) (fun d => by kernel_rfl)

/-- thimblerig/geo.isLeaf -/
noncomputable def geo_isLeaf (d0 : (Int) × (Int)) : Option (Bool) :=
 Dat.bind (geo_Check d0.1) fun (x1 : Int) =>
 (bif (Dat.ieq x1 0) then (bif (Dat.pickB true (Dat.ige d0.2 0) false) then if (Dat.Neg d0.1) then none
 else Dat.bnd (Dat.shl .i64 1 d0.1) fun (x4 : Int) =>
 some (Dat.pickB true (Dat.ilt d0.2 x4) false)
 else some false)
 else some false)
noncomputable def p_geo_isLeaf : PFn := { args := [(.int .i64), (.int .i64)], res := [.bool], fn := geo_isLeaf }
theorem pd_geo_isLeaf : PureD Try.prog cfg 25 p_geo_isLeaf := fnD spf (l := [(15, p_geo_Check)]) cfgOk rfl (.cons pd_geo_Check .nil) (fun d => by kernel_rfl)

/-- thimblerig/geo.onRow -/
noncomputable def geo_onRow (d0 : (Int) × ((Int) × (Int))) : Option (Int) :=
 if (Dat.Neg d0.1) then none
 else Dat.bnd (Dat.shl .i64 1 d0.1) fun (x3 : Int) =>
 Dat.bnd (Dat.wrap .i64 (Dat.add x3 d0.2.2)) fun (x4 : Int) =>
 Dat.bnd (Dat.wrap .i64 (Dat.sub d0.1 d0.2.1)) fun (x5 : Int) =>
 if (Dat.Neg x5) then none
 else Dat.bnd (Dat.shr .i64 x4 x5) fun (x8 : Int) =>
 some x8
noncomputable def p_geo_onRow : PFn := { args := [(.int .i64), (.int .i64), (.int .i64)], res := [(.int .i64)], fn := geo_onRow }
theorem pd_geo_onRow : PureD Try.prog cfg 27 p_geo_onRow := fnD spf (l := []) cfgOk rfl .nil (fun d => by kernel_rfl)

/-- thimblerig/geo.Path -/
noncomputable def geo_Path (d0 : (Int) × (Int)) : Option ((List (Int)) × (Int)) :=
 Dat.bind (geo_isLeaf (d0.1, d0.2)) fun (x1 : Bool) =>
 (bif (Dat.bnot x1) then some (([] : List (Int)), 2)
 else Dat.bnd (Dat.wrap .i64 (Dat.add d0.1 1)) fun (x2 : Int) =>
 if (Dat.MkOk 0 x2 8) then none
 else none)
noncomputable def p_geo_Path : PFn := { args := [(.int .i64), (.int .i64)], res := [(.list (.int .i64)), (.int .i64)], fn := geo_Path }
theorem pd_geo_Path : PureD Try.prog cfg 13 p_geo_Path := fnD spf (l := [(25, p_geo_isLeaf)]) cfgOk rfl (.cons pd_geo_isLeaf .nil) (fun d => by kernel_rfl)

/-- thimblerig/geo.Deep -/
noncomputable def geo_Deep (d0 : (Int) × ((Int) × (Int))) : Option ((Int) × (Int)) :=
 Dat.bind (geo_isLeaf (d0.1, d0.2.1)) fun (x1 : Bool) =>
 (bif (Dat.bnot x1) then some (0, 2)
 else Dat.bind (geo_isLeaf (d0.1, d0.2.2)) fun (x2 : Bool) =>
 (bif (Dat.pickB false true (Dat.bnot x2)) then some (0, 2)
 else none))
noncomputable def p_geo_Deep : PFn := { args := [(.int .i64), (.int .i64), (.int .i64)], res := [(.int .i64), (.int .i64)], fn := geo_Deep }
theorem pd_geo_Deep : PureD Try.prog cfg 9 p_geo_Deep := fnD spf (l := [(25, p_geo_isLeaf)]) cfgOk rfl (.cons pd_geo_isLeaf .nil) (fun d => by kernel_rfl)

/-- thimblerig/thimblerigref01.SameInts -/
noncomputable def ref01_SameInts (d0 : (List (Int)) × (List (Int))) : Option (Bool) :=
 (bif (Dat.ine (Dat.ofN (Dat.len d0.1)) (Dat.ofN (Dat.len d0.2))) then some false
 else Dat.loop (fun (s1 : Int) k2 =>
 (bif (Dat.ilt s1 (Dat.ofN (Dat.len d0.1))) then if (Dat.Ix s1 (Dat.len d0.1)) then Dat.bnd (Dat.get d0.1 (Dat.toN s1) 0) fun (x5 : Int) =>
 if (Dat.Ix s1 (Dat.len d0.2)) then Dat.bnd (Dat.get d0.2 (Dat.toN s1) 0) fun (x8 : Int) =>
 (bif (Dat.ine x5 x8) then some false
 else Dat.bnd (Dat.wrap .i64 (Dat.add s1 1)) fun (x9 : Int) =>
 k2 x9)
 else none
 else none
 else some true)) 0)
noncomputable def p_ref01_SameInts : PFn := { args := [(.list (.int .i64)), (.list (.int .i64))], res := [.bool], fn := ref01_SameInts }
theorem pd_ref01_SameInts : PureD Try.prog cfg 23 p_ref01_SameInts := fnD spf (l := []) cfgOk rfl .nil (fun d => by kernel_rfl)

/-- thimblerig/thimbleriglaw07.alive -/
noncomputable def law07_alive (d0 : Unit) : Option (Bool) := some true
noncomputable def p_law07_alive : PFn := { args := [], res := [.bool], fn := law07_alive }
theorem pd_law07_alive : PureD Try.prog cfg 14 p_law07_alive := closedD (n := 4000) cfgOk (by kernel_rfl)

/-- thimblerig/thimbleriglaw07.GeoRound -/
noncomputable def law07_GeoRound (d0 : (Int) × (Int)) : Option (Bool) :=
 Dat.bind (law07_alive ()) fun (x1 : Bool) =>
 Dat.bind (geo_Leaves d0.1) fun (x2 : (Int) × (Int)) =>
 (bif (Dat.ine x2.2 0) then (bif x1 then some (Dat.pickB true (Dat.ieq x2.1 0) false)
 else some false)
 else (bif (Dat.pickB false true (Dat.bnot x1)) then (bif x1 then some (Dat.pickB true (Dat.ieq x2.1 0) false)
 else some false)
 else if (Dat.MkOk 128 128 8) then Dat.loop (fun (s5 : (Int) × (List (Int))) k6 =>
 (bif (Dat.ilt s5.1 x2.1) then (bif (Dat.pickB true (Dat.ile x2.1 64) false) then Dat.bnd (Dat.wrap .u64 s5.1) fun (x7 : Int) =>
 Dat.bnd (Dat.wrap .u64 (Dat.add d0.2 x7)) fun (x8 : Int) =>
 Dat.bind (geo_Reverse (d0.1, x8)) fun (x9 : (Int) × (Int)) =>
 (bif (Dat.ine x9.2 0) then some false
 else (bif (Dat.pickB false true (Dat.ilt x9.1 0)) then some false
 else (bif (Dat.pickB false true (Dat.ige x9.1 x2.1)) then some false
 else if (Dat.In x9.1 (Dat.toN 128)) then if (Dat.Lt (Dat.addN 0 (Dat.toN x9.1)) (Dat.len s5.2)) then Dat.bnd (Dat.get s5.2 (Dat.addN 0 (Dat.toN x9.1)) 0) fun (x14 : Int) =>
 (bif (Dat.pickB false true (Dat.igt x14 0)) then some false
 else if (Dat.In x9.1 (Dat.toN 128)) then if (Dat.Lt (Dat.addN 0 (Dat.toN x9.1)) (Dat.len s5.2)) then Dat.bnd (Dat.get s5.2 (Dat.addN 0 (Dat.toN x9.1)) 0) fun (x19 : Int) =>
 Dat.bnd (Dat.wrap .i64 (Dat.add x19 1)) fun (x20 : Int) =>
 if (Dat.In x9.1 (Dat.toN 128)) then if (Dat.Lt (Dat.addN 0 (Dat.toN x9.1)) (Dat.len s5.2)) then Dat.bnd (Dat.set s5.2 (Dat.addN 0 (Dat.toN x9.1)) x20) fun (x25 : List (Int)) =>
 Dat.bnd (Dat.wrap .i64 (Dat.add s5.1 1)) fun (x26 : Int) =>
 k6 (x26, x25)
 else none
 else none
 else none
 else none)
 else none
 else none)))
 else (bif x1 then some (Dat.pickB true (Dat.ile x2.1 64) false)
 else some false))
 else (bif x1 then some (Dat.pickB true (Dat.ile x2.1 64) false)
 else some false))) (0, (Dat.rep (Dat.toN 128) 0))
 else none))
noncomputable def p_law07_GeoRound : PFn := { args := [(.int .i64), (.int .u64)], res := [.bool], fn := law07_GeoRound }
theorem pd_law07_GeoRound : PureD Try.prog cfg 6 p_law07_GeoRound := fnD spf (l := [(14, p_law07_alive), (11, p_geo_Leaves), (8, p_geo_Reverse)]) cfgOk rfl (.cons pd_law07_alive (.cons pd_geo_Leaves (.cons pd_geo_Reverse .nil))) (fun d => by kernel_rfl)
end Go.Proofs.Ytaphpgkaammeiaa
