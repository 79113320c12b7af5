/- The functions of the program, as functions on plain data. -/
import Derived.Test.YtnfiamgpebkhfaaCfg
import Derived.Test.YtnfiamgpebkhfaaM5
import Derived.ProofKit
namespace Go.Proofs.Ytnfiamgpebkhfaa
open Go.Eng
set_option linter.unusedVariables false
set_option maxRecDepth 100000
def sp0 (f : Nat) : List LSpec × List Nat := ([], [])

/-- thimblerig/thimblerigref05.Twin -/
noncomputable def ref05_Twin (d0 : (List (Int)) × ((Int) × (Unit))) : Option ((List (Int)) × ((Int) × (Unit))) :=
 if (Dat.Le (Dat.addN 0 0) (Dat.len ([] : List (Int)))) then if (Dat.Big (Dat.len (Dat.seg ([] : List (Int)) 0 0)) (Dat.len d0.1) 4) then none
 else Dat.bnd (Dat.app (Dat.seg ([] : List (Int)) 0 0) d0.1) fun (x5 : List (Int)) =>
 some (x5, (d0.2.1, ()))
 else none
noncomputable def p_ref05_Twin : PFn := { args := [(.pair (.list (.int .u32)) (.pair (.int .i64) .unit))], res := [(.pair (.list (.int .u32)) (.pair (.int .i64) .unit))], fn := ref05_Twin }
theorem pd_ref05_Twin : PureD Try.prog cfg 4 p_ref05_Twin := fnD sp0 (l := []) cfgOk rfl .nil (fun d => by kernel_rfl)

/-- thimblerig/lane.Check -/
noncomputable def lane_Check (d0 : (List (Int)) × ((Int) × (Unit))) : Option (Int) :=
 (bif (Dat.igt (Dat.ofN (Dat.len d0.1)) 4096) then some 8
 else (bif (Dat.pickB false true (Dat.ilt d0.2.1 0)) then some 8
 else (bif (Dat.pickB false true (Dat.igt d0.2.1 (Dat.ofN (Dat.len d0.1)))) then some 8
 else some 0)))
noncomputable def p_lane_Check : PFn := { args := [(.pair (.list (.int .u32)) (.pair (.int .i64) .unit))], res := [(.int .i64)], fn := lane_Check }
theorem pd_lane_Check : PureD Try.prog cfg 8 p_lane_Check := fnD sp0 (l := []) cfgOk rfl .nil (fun d => by kernel_rfl)

/-- thimblerig/lane.Left -/
noncomputable def lane_Left (d0 : (List (Int)) × ((Int) × (Unit))) : Option (Int) :=
 Dat.bind (lane_Check (d0.1, (d0.2.1, ()))) fun (x1 : Int) =>
 (bif (Dat.ine x1 0) then some 0
 else Dat.bnd (Dat.wrap .i64 (Dat.sub (Dat.ofN (Dat.len d0.1)) d0.2.1)) fun (x2 : Int) =>
 some x2)
noncomputable def p_lane_Left : PFn := { args := [(.pair (.list (.int .u32)) (.pair (.int .i64) .unit))], res := [(.int .i64)], fn := lane_Left }
theorem pd_lane_Left : PureD Try.prog cfg 10 p_lane_Left := fnD sp0 (l := [(8, p_lane_Check)]) cfgOk rfl (.cons pd_lane_Check .nil) (fun d => by kernel_rfl)

/-- slices.Clone(()uint32,uint32) -/
noncomputable def slices_Clone_uint32_uint32 (d0 : List (Int)) : Option (List (Int)) :=
 if (Dat.Le (Dat.addN 0 0) (Dat.len ([] : List (Int)))) then if (Dat.Big (Dat.len (Dat.seg ([] : List (Int)) 0 0)) (Dat.len d0) 4) then none
 else Dat.bnd (Dat.app (Dat.seg ([] : List (Int)) 0 0) d0) fun (x5 : List (Int)) =>
 some x5
 else none
noncomputable def p_slices_Clone_uint32_uint32 : PFn := { args := [(.list (.int .u32))], res := [(.list (.int .u32))], fn := slices_Clone_uint32_uint32 }
noncomputable def cx12 : CloneX Try.prog cfg 12 26 (.int .u32) := clx xf12 26 (xf12.body.cOps.getD 0 ⟨none, .move (.tmp 0), 0, "", #[], none⟩) (xf12.body.cOps.getD 1 ⟨none, .move (.tmp 0), 0, "", #[], none⟩) (by kernel_rfl) (by kernel_rfl) (by kernel_rfl) (by kernel_rfl) (by kernel_rfl) (by kernel_rfl) (by kernel_rfl) (by kernel_rfl) (by kernel_rfl)
theorem pd_slices_Clone_uint32_uint32 : PureD Try.prog cfg 12 p_slices_Clone_uint32_uint32 := cloneD sp0 cfgOk rfl cx12 (of_decide_eq_true (by kernel_rfl)) (by kernel_rfl) (by kernel_rfl) (by kernel_rfl) (fun d => by kernel_rfl) (fun d => by kernel_rfl) (by kernel_rfl) (fun d r h => by
  unfold slices_Clone_uint32_uint32 at h
  split at h
  · split at h
    · cases h
    · have h1 : some d = some r := h
      exact (Option.some.inj h1).symm
  · cases h)

/-- thimblerig/lane.Two -/
noncomputable def lane_Two (d0 : (List (Int)) × ((Int) × (Unit))) : Option (((List (Int)) × ((Int) × (Unit))) × ((Int) × ((Int) × (Int)))) :=
 Dat.bind (lane_Check (d0.1, (d0.2.1, ()))) fun (x1 : Int) =>
 (bif (Dat.ine x1 0) then some ((([] : List (Int)), (0, ())), (0, (0, x1)))
 else Dat.bind (lane_Left (d0.1, (d0.2.1, ()))) fun (x2 : Int) =>
 (bif (Dat.ilt x2 2) then some ((([] : List (Int)), (0, ())), (0, (0, 50)))
 else if (Dat.EqN (Dat.len d0.1) 0) then Dat.bind (slices_Clone_uint32_uint32 d0.1) fun (x5 : List (Int)) =>
 if (Dat.Ix d0.2.1 (Dat.len x5)) then Dat.bnd (Dat.get x5 (Dat.toN d0.2.1) 0) fun (x8 : Int) =>
 Dat.bnd (Dat.wrap .i64 (Dat.add d0.2.1 1)) fun (x9 : Int) =>
 if (Dat.Ix x9 (Dat.len x5)) then Dat.bnd (Dat.get x5 (Dat.toN x9) 0) fun (x12 : Int) =>
 Dat.bnd (Dat.wrap .i64 (Dat.add x9 1)) fun (x13 : Int) =>
 if (Dat.EqN (Dat.len x5) 0) then some ((x5, (x13, ())), (x8, (x12, 0)))
 else none
 else none
 else none
 else if (Dat.EqN (Dat.len d0.1) 0) then none
 else if (Dat.Le (Dat.addN 0 0) (Dat.len ([] : List (Int)))) then if (Dat.EqN (Dat.len d0.1) 0) then if (Dat.In d0.2.1 0) then if (Dat.Lt (Dat.addN 0 (Dat.toN d0.2.1)) (Dat.len ([] : List (Int)))) then Dat.bnd (Dat.get ([] : List (Int)) (Dat.addN 0 (Dat.toN d0.2.1)) 0) fun (x26 : Int) =>
 Dat.bnd (Dat.wrap .i64 (Dat.add d0.2.1 1)) fun (x27 : Int) =>
 if (Dat.In x27 0) then if (Dat.Lt (Dat.addN 0 (Dat.toN x27)) (Dat.len ([] : List (Int)))) then Dat.bnd (Dat.get ([] : List (Int)) (Dat.addN 0 (Dat.toN x27)) 0) fun (x32 : Int) =>
 Dat.bnd (Dat.wrap .i64 (Dat.add x27 1)) fun (x33 : Int) =>
 if (Dat.Le (Dat.addN 0 0) (Dat.len ([] : List (Int)))) then some (((Dat.seg ([] : List (Int)) 0 0), (x33, ())), (x26, (x32, 0)))
 else none
 else none
 else none
 else none
 else none
 else if (Dat.Big (Dat.len (Dat.seg ([] : List (Int)) 0 0)) (Dat.len d0.1) 4) then none
 else Dat.bnd (Dat.app (Dat.seg ([] : List (Int)) 0 0) d0.1) fun (x38 : List (Int)) =>
 if (Dat.In d0.2.1 (Dat.len x38)) then if (Dat.Lt (Dat.addN 0 (Dat.toN d0.2.1)) (Dat.len x38)) then Dat.bnd (Dat.get x38 (Dat.addN 0 (Dat.toN d0.2.1)) 0) fun (x43 : Int) =>
 Dat.bnd (Dat.wrap .i64 (Dat.add d0.2.1 1)) fun (x44 : Int) =>
 if (Dat.In x44 (Dat.len x38)) then if (Dat.Lt (Dat.addN 0 (Dat.toN x44)) (Dat.len x38)) then Dat.bnd (Dat.get x38 (Dat.addN 0 (Dat.toN x44)) 0) fun (x49 : Int) =>
 Dat.bnd (Dat.wrap .i64 (Dat.add x44 1)) fun (x50 : Int) =>
 if (Dat.Le (Dat.addN 0 (Dat.len x38)) (Dat.len x38)) then some (((Dat.seg x38 0 (Dat.len x38)), (x50, ())), (x43, (x49, 0)))
 else none
 else none
 else none
 else none
 else none
 else none))
noncomputable def p_lane_Two : PFn := { args := [(.pair (.list (.int .u32)) (.pair (.int .i64) .unit))], res := [(.pair (.list (.int .u32)) (.pair (.int .i64) .unit)), (.int .u32), (.int .u32), (.int .i64)], fn := lane_Two }
def sp5_12 : List LSpec × List Nat := ([], [3])
def spt5 : Tab (List LSpec × List Nat) := (.node .leaf none (.node (.node .leaf none (.node .leaf (some sp5_12) .leaf)) none .leaf))
def spf5 (f : Nat) : List LSpec × List Nat := (spt5.get f).getD ([], [])
noncomputable def o_lane_Two : OFn := { args := [(.pair (.list (.int .u32)) (.pair (.int .i64) .unit))], ores := [(.pair (.own (.int .u32)) (.pair (.plain (.int .i64)) (.plain .unit))), (.plain (.int .u32)), (.plain (.int .u32)), (.plain (.int .i64))], fn := lane_Two }
theorem od_lane_Two : OwnD Try.prog cfg 5 o_lane_Two ∧ PureD Try.prog cfg 5 o_lane_Two.pfn := fnO spf5 [12] (l := [(8, p_lane_Check), (10, p_lane_Left), (12, p_slices_Clone_uint32_uint32)]) (lo := []) cfgOk rfl (.cons pd_lane_Check (.cons pd_lane_Left (.cons pd_slices_Clone_uint32_uint32 .nil))) .nil (fun d => by kernel_rfl)
theorem pd_lane_Two : PureD Try.prog cfg 5 p_lane_Two := od_lane_Two.2

/-- thimblerig/thimblerigref05.May -/
noncomputable def ref05_May (d0 : (List (Int)) × ((Int) × (Unit))) : Option (Bool) :=
 (bif (Dat.ile (Dat.ofN (Dat.len d0.1)) 4096) then (bif (Dat.pickB true (Dat.ige d0.2.1 0) false) then some (Dat.pickB true (Dat.ile d0.2.1 (Dat.ofN (Dat.len d0.1))) false)
 else some false)
 else some false)
noncomputable def p_ref05_May : PFn := { args := [(.pair (.list (.int .u32)) (.pair (.int .i64) .unit))], res := [.bool], fn := ref05_May }
theorem pd_ref05_May : PureD Try.prog cfg 14 p_ref05_May := fnD sp0 (l := []) cfgOk rfl .nil (fun d => by kernel_rfl)

/-- thimblerig/thimblerigref05.Left -/
noncomputable def ref05_Left (d0 : (List (Int)) × ((Int) × (Unit))) : Option (Int) :=
 Dat.bind (ref05_May (d0.1, (d0.2.1, ()))) fun (x1 : Bool) =>
 (bif (Dat.bnot x1) then some 0
 else Dat.bnd (Dat.wrap .i64 (Dat.sub (Dat.ofN (Dat.len d0.1)) d0.2.1)) fun (x2 : Int) =>
 some x2)
noncomputable def p_ref05_Left : PFn := { args := [(.pair (.list (.int .u32)) (.pair (.int .i64) .unit))], res := [(.int .i64)], fn := ref05_Left }
theorem pd_ref05_Left : PureD Try.prog cfg 11 p_ref05_Left := fnD sp0 (l := [(14, p_ref05_May)]) cfgOk rfl (.cons pd_ref05_May .nil) (fun d => by kernel_rfl)

/-- thimblerig/thimblerigref05.Two -/
noncomputable def ref05_Two (d0 : (List (Int)) × ((Int) × (Unit))) : Option (((List (Int)) × ((Int) × (Unit))) × ((Int) × ((Int) × (Int)))) :=
 Dat.bind (ref05_May (d0.1, (d0.2.1, ()))) fun (x1 : Bool) =>
 (bif (Dat.bnot x1) then some ((([] : List (Int)), (0, ())), (0, (0, 8)))
 else Dat.bind (ref05_Left (d0.1, (d0.2.1, ()))) fun (x2 : Int) =>
 (bif (Dat.ilt x2 2) then some ((([] : List (Int)), (0, ())), (0, (0, 50)))
 else Dat.bind (ref05_Twin (d0.1, (d0.2.1, ()))) fun (x3 : (List (Int)) × ((Int) × (Unit))) =>
 Dat.bnd (Dat.wrap .i64 (Dat.add d0.2.1 2)) fun (x4 : Int) =>
 if (Dat.Ix d0.2.1 (Dat.len d0.1)) then Dat.bnd (Dat.get d0.1 (Dat.toN d0.2.1) 0) fun (x7 : Int) =>
 Dat.bnd (Dat.wrap .i64 (Dat.add d0.2.1 1)) fun (x8 : Int) =>
 if (Dat.Ix x8 (Dat.len d0.1)) then Dat.bnd (Dat.get d0.1 (Dat.toN x8) 0) fun (x11 : Int) =>
 some ((x3.1, (x4, ())), (x7, (x11, 0)))
 else none
 else none))
noncomputable def p_ref05_Two : PFn := { args := [(.pair (.list (.int .u32)) (.pair (.int .i64) .unit))], res := [(.pair (.list (.int .u32)) (.pair (.int .i64) .unit)), (.int .u32), (.int .u32), (.int .i64)], fn := ref05_Two }
theorem pd_ref05_Two : PureD Try.prog cfg 6 p_ref05_Two := fnD sp0 (l := [(14, p_ref05_May), (11, p_ref05_Left), (4, p_ref05_Twin)]) cfgOk rfl (.cons pd_ref05_May (.cons pd_ref05_Left (.cons pd_ref05_Twin .nil))) (fun d => by kernel_rfl)

/-- thimblerig/thimblerigref05.Same -/
noncomputable def ref05_Same (d0 : ((List (Int)) × ((Int) × (Unit))) × ((List (Int)) × ((Int) × (Unit)))) : Option (Bool) :=
 (bif (Dat.ine (Dat.ofN (Dat.len d0.1.1)) (Dat.ofN (Dat.len d0.2.1))) then some false
 else Dat.loop (fun (s1 : Int) k2 =>
 (bif (Dat.ilt s1 (Dat.ofN (Dat.len d0.1.1))) then if (Dat.Ix s1 (Dat.len d0.1.1)) then Dat.bnd (Dat.get d0.1.1 (Dat.toN s1) 0) fun (x5 : Int) =>
 if (Dat.Ix s1 (Dat.len d0.2.1)) then Dat.bnd (Dat.get d0.2.1 (Dat.toN s1) 0) fun (x8 : Int) =>
 (bif (Dat.ine x5 x8) then some false
 else Dat.bnd (Dat.wrap .i64 (Dat.add s1 1)) fun (x9 : Int) =>
 k2 x9)
 else none
 else none
 else some (Dat.ieq d0.1.2.1 d0.2.2.1))) 0)
noncomputable def p_ref05_Same : PFn := { args := [(.pair (.list (.int .u32)) (.pair (.int .i64) .unit)), (.pair (.list (.int .u32)) (.pair (.int .i64) .unit))], res := [.bool], fn := ref05_Same }
def sp7_7 : List LSpec × List Nat := ([{ id := 700, known := true, toks := [], items := [.slot 5 (.val (.int .i64))], junk := [13, 14, 15, 16, 17, 20, 21, 22, 23, 24, 25, 26, 27, 28, 29, 30, 4, 18, 19], tails := [] }], [])
def spt7 : Tab (List LSpec × List Nat) := (.node (.node (.node (.node .leaf (some sp7_7) .leaf) none .leaf) none .leaf) none .leaf)
def spf7 (f : Nat) : List LSpec × List Nat := (spt7.get f).getD ([], [])
theorem pd_ref05_Same : PureD Try.prog cfg 7 p_ref05_Same := fnD spf7 (l := []) cfgOk rfl .nil (fun d => by kernel_rfl)

/-- thimblerig/thimblerigref05.Check -/
noncomputable def ref05_Check (d0 : (List (Int)) × ((Int) × (Unit))) : Option (Int) :=
 Dat.bind (ref05_May (d0.1, (d0.2.1, ()))) fun (x1 : Bool) =>
 (bif (Dat.bnot x1) then some 8
 else some 0)
noncomputable def p_ref05_Check : PFn := { args := [(.pair (.list (.int .u32)) (.pair (.int .i64) .unit))], res := [(.int .i64)], fn := ref05_Check }
theorem pd_ref05_Check : PureD Try.prog cfg 9 p_ref05_Check := fnD sp0 (l := [(14, p_ref05_May)]) cfgOk rfl (.cons pd_ref05_May .nil) (fun d => by kernel_rfl)

/-- thimblerig/thimbleriglaw05.LaneTakes -/
noncomputable def law05_LaneTakes (d0 : (List (Int)) × ((Int) × (Unit))) : Option (Bool) :=
 (bif (Dat.igt (Dat.ofN (Dat.len d0.1)) 100) then (bif (Dat.pickB true (Dat.ilt (Dat.ofN (Dat.len d0.1)) 4096) false) then some true
 else (bif (Dat.pickB false true (Dat.igt (Dat.ofN (Dat.len d0.1)) 4100)) then some true
 else Dat.bind (ref05_Twin (d0.1, (d0.2.1, ()))) fun (x1 : (List (Int)) × ((Int) × (Unit))) =>
 Dat.bind (lane_Two (x1.1, (x1.2.1, ()))) fun (x2 : ((List (Int)) × ((Int) × (Unit))) × ((Int) × ((Int) × (Int)))) =>
 if (Dat.EqN (Dat.len x2.1.1) 0) then Dat.bind (ref05_Two (d0.1, (d0.2.1, ()))) fun (x5 : ((List (Int)) × ((Int) × (Unit))) × ((Int) × ((Int) × (Int)))) =>
 Dat.bind (ref05_Same ((x2.1.1, (x2.1.2.1, ())), (x5.1.1, (x5.1.2.1, ())))) fun (x6 : Bool) =>
 (bif x6 then (bif (Dat.pickB true (Dat.ieq x2.2.1 x5.2.1) false) then (bif (Dat.pickB true (Dat.ieq x2.2.2.1 x5.2.2.1) false) then (bif (Dat.pickB true (Dat.ieq x2.2.2.2 x5.2.2.2) false) then Dat.bind (lane_Check (x1.1, (x1.2.1, ()))) fun (x7 : Int) =>
 Dat.bind (ref05_Check (d0.1, (d0.2.1, ()))) fun (x8 : Int) =>
 (bif (Dat.pickB true (Dat.ieq x7 x8) false) then Dat.bind (lane_Left (x1.1, (x1.2.1, ()))) fun (x9 : Int) =>
 Dat.bind (ref05_Left (d0.1, (d0.2.1, ()))) fun (x10 : Int) =>
 Dat.loop (fun (s11 : Int) k12 =>
 (bif (Dat.ilt s11 (Dat.ofN (Dat.len x2.1.1))) then if (Dat.Ix s11 (Dat.len x2.1.1)) then Dat.bnd (Dat.get x2.1.1 (Dat.toN s11) 0) fun (x15 : Int) =>
 Dat.bnd (Dat.wrap .u32 (Dat.add x15 1)) fun (x16 : Int) =>
 if (Dat.Ix s11 (Dat.len x2.1.1)) then Dat.bnd (Dat.get x2.1.1 (Dat.toN s11) 0) fun (x19 : Int) =>
 none
 else none
 else none
 else (bif (Dat.pickB true (Dat.ieq x9 x10) false) then Dat.bind (ref05_Same ((x1.1, (x1.2.1, ())), (d0.1, (d0.2.1, ())))) fun (x20 : Bool) =>
 some (Dat.pickB true x20 false)
 else some false))) 0
 else Dat.loop (fun (s21 : Int) k22 =>
 (bif (Dat.ilt s21 (Dat.ofN (Dat.len x2.1.1))) then if (Dat.Ix s21 (Dat.len x2.1.1)) then Dat.bnd (Dat.get x2.1.1 (Dat.toN s21) 0) fun (x25 : Int) =>
 Dat.bnd (Dat.wrap .u32 (Dat.add x25 1)) fun (x26 : Int) =>
 if (Dat.Ix s21 (Dat.len x2.1.1)) then Dat.bnd (Dat.get x2.1.1 (Dat.toN s21) 0) fun (x29 : Int) =>
 none
 else none
 else none
 else some false)) 0)
 else Dat.loop (fun (s30 : Int) k31 =>
 (bif (Dat.ilt s30 (Dat.ofN (Dat.len x2.1.1))) then if (Dat.Ix s30 (Dat.len x2.1.1)) then Dat.bnd (Dat.get x2.1.1 (Dat.toN s30) 0) fun (x34 : Int) =>
 Dat.bnd (Dat.wrap .u32 (Dat.add x34 1)) fun (x35 : Int) =>
 if (Dat.Ix s30 (Dat.len x2.1.1)) then Dat.bnd (Dat.get x2.1.1 (Dat.toN s30) 0) fun (x38 : Int) =>
 none
 else none
 else none
 else some false)) 0)
 else Dat.loop (fun (s39 : Int) k40 =>
 (bif (Dat.ilt s39 (Dat.ofN (Dat.len x2.1.1))) then if (Dat.Ix s39 (Dat.len x2.1.1)) then Dat.bnd (Dat.get x2.1.1 (Dat.toN s39) 0) fun (x43 : Int) =>
 Dat.bnd (Dat.wrap .u32 (Dat.add x43 1)) fun (x44 : Int) =>
 if (Dat.Ix s39 (Dat.len x2.1.1)) then Dat.bnd (Dat.get x2.1.1 (Dat.toN s39) 0) fun (x47 : Int) =>
 none
 else none
 else none
 else some false)) 0)
 else Dat.loop (fun (s48 : Int) k49 =>
 (bif (Dat.ilt s48 (Dat.ofN (Dat.len x2.1.1))) then if (Dat.Ix s48 (Dat.len x2.1.1)) then Dat.bnd (Dat.get x2.1.1 (Dat.toN s48) 0) fun (x52 : Int) =>
 Dat.bnd (Dat.wrap .u32 (Dat.add x52 1)) fun (x53 : Int) =>
 if (Dat.Ix s48 (Dat.len x2.1.1)) then Dat.bnd (Dat.get x2.1.1 (Dat.toN s48) 0) fun (x56 : Int) =>
 none
 else none
 else none
 else some false)) 0)
 else Dat.loop (fun (s57 : Int) k58 =>
 (bif (Dat.ilt s57 (Dat.ofN (Dat.len x2.1.1))) then if (Dat.Ix s57 (Dat.len x2.1.1)) then Dat.bnd (Dat.get x2.1.1 (Dat.toN s57) 0) fun (x61 : Int) =>
 Dat.bnd (Dat.wrap .u32 (Dat.add x61 1)) fun (x62 : Int) =>
 if (Dat.Ix s57 (Dat.len x2.1.1)) then Dat.bnd (Dat.get x2.1.1 (Dat.toN s57) 0) fun (x65 : Int) =>
 none
 else none
 else none
 else some false)) 0)
 else Dat.bind (ref05_Two (d0.1, (d0.2.1, ()))) fun (x66 : ((List (Int)) × ((Int) × (Unit))) × ((Int) × ((Int) × (Int)))) =>
 if (Dat.Le (Dat.addN 0 (Dat.len x2.1.1)) (Dat.len x2.1.1)) then Dat.bind (ref05_Same (((Dat.seg x2.1.1 0 (Dat.len x2.1.1)), (x2.1.2.1, ())), (x66.1.1, (x66.1.2.1, ())))) fun (x69 : Bool) =>
 (bif x69 then (bif (Dat.pickB true (Dat.ieq x2.2.1 x66.2.1) false) then (bif (Dat.pickB true (Dat.ieq x2.2.2.1 x66.2.2.1) false) then (bif (Dat.pickB true (Dat.ieq x2.2.2.2 x66.2.2.2) false) then Dat.bind (lane_Check (x1.1, (x1.2.1, ()))) fun (x70 : Int) =>
 Dat.bind (ref05_Check (d0.1, (d0.2.1, ()))) fun (x71 : Int) =>
 (bif (Dat.pickB true (Dat.ieq x70 x71) false) then Dat.bind (lane_Left (x1.1, (x1.2.1, ()))) fun (x72 : Int) =>
 Dat.bind (ref05_Left (d0.1, (d0.2.1, ()))) fun (x73 : Int) =>
 Dat.loop (fun (s74 : (Int) × (List (Int))) k75 =>
 (bif (Dat.ilt s74.1 (Dat.ofN (Dat.len x2.1.1))) then if (Dat.In s74.1 (Dat.len x2.1.1)) then if (Dat.Lt (Dat.addN 0 (Dat.toN s74.1)) (Dat.len s74.2)) then Dat.bnd (Dat.get s74.2 (Dat.addN 0 (Dat.toN s74.1)) 0) fun (x80 : Int) =>
 Dat.bnd (Dat.wrap .u32 (Dat.add x80 1)) fun (x81 : Int) =>
 if (Dat.In s74.1 (Dat.len x2.1.1)) then if (Dat.Lt (Dat.addN 0 (Dat.toN s74.1)) (Dat.len s74.2)) then Dat.bnd (Dat.set s74.2 (Dat.addN 0 (Dat.toN s74.1)) x81) fun (x86 : List (Int)) =>
 Dat.bnd (Dat.wrap .i64 (Dat.add s74.1 1)) fun (x87 : Int) =>
 k75 (x87, x86)
 else none
 else none
 else none
 else none
 else (bif (Dat.pickB true (Dat.ieq x72 x73) false) then Dat.bind (ref05_Same ((x1.1, (x1.2.1, ())), (d0.1, (d0.2.1, ())))) fun (x88 : Bool) =>
 some (Dat.pickB true x88 false)
 else some false))) (0, x2.1.1)
 else Dat.loop (fun (s89 : (Int) × (List (Int))) k90 =>
 (bif (Dat.ilt s89.1 (Dat.ofN (Dat.len x2.1.1))) then if (Dat.In s89.1 (Dat.len x2.1.1)) then if (Dat.Lt (Dat.addN 0 (Dat.toN s89.1)) (Dat.len s89.2)) then Dat.bnd (Dat.get s89.2 (Dat.addN 0 (Dat.toN s89.1)) 0) fun (x95 : Int) =>
 Dat.bnd (Dat.wrap .u32 (Dat.add x95 1)) fun (x96 : Int) =>
 if (Dat.In s89.1 (Dat.len x2.1.1)) then if (Dat.Lt (Dat.addN 0 (Dat.toN s89.1)) (Dat.len s89.2)) then Dat.bnd (Dat.set s89.2 (Dat.addN 0 (Dat.toN s89.1)) x96) fun (x101 : List (Int)) =>
 Dat.bnd (Dat.wrap .i64 (Dat.add s89.1 1)) fun (x102 : Int) =>
 k90 (x102, x101)
 else none
 else none
 else none
 else none
 else some false)) (0, x2.1.1))
 else Dat.loop (fun (s103 : (Int) × (List (Int))) k104 =>
 (bif (Dat.ilt s103.1 (Dat.ofN (Dat.len x2.1.1))) then if (Dat.In s103.1 (Dat.len x2.1.1)) then if (Dat.Lt (Dat.addN 0 (Dat.toN s103.1)) (Dat.len s103.2)) then Dat.bnd (Dat.get s103.2 (Dat.addN 0 (Dat.toN s103.1)) 0) fun (x109 : Int) =>
 Dat.bnd (Dat.wrap .u32 (Dat.add x109 1)) fun (x110 : Int) =>
 if (Dat.In s103.1 (Dat.len x2.1.1)) then if (Dat.Lt (Dat.addN 0 (Dat.toN s103.1)) (Dat.len s103.2)) then Dat.bnd (Dat.set s103.2 (Dat.addN 0 (Dat.toN s103.1)) x110) fun (x115 : List (Int)) =>
 Dat.bnd (Dat.wrap .i64 (Dat.add s103.1 1)) fun (x116 : Int) =>
 k104 (x116, x115)
 else none
 else none
 else none
 else none
 else some false)) (0, x2.1.1))
 else Dat.loop (fun (s117 : (Int) × (List (Int))) k118 =>
 (bif (Dat.ilt s117.1 (Dat.ofN (Dat.len x2.1.1))) then if (Dat.In s117.1 (Dat.len x2.1.1)) then if (Dat.Lt (Dat.addN 0 (Dat.toN s117.1)) (Dat.len s117.2)) then Dat.bnd (Dat.get s117.2 (Dat.addN 0 (Dat.toN s117.1)) 0) fun (x123 : Int) =>
 Dat.bnd (Dat.wrap .u32 (Dat.add x123 1)) fun (x124 : Int) =>
 if (Dat.In s117.1 (Dat.len x2.1.1)) then if (Dat.Lt (Dat.addN 0 (Dat.toN s117.1)) (Dat.len s117.2)) then Dat.bnd (Dat.set s117.2 (Dat.addN 0 (Dat.toN s117.1)) x124) fun (x129 : List (Int)) =>
 Dat.bnd (Dat.wrap .i64 (Dat.add s117.1 1)) fun (x130 : Int) =>
 k118 (x130, x129)
 else none
 else none
 else none
 else none
 else some false)) (0, x2.1.1))
 else Dat.loop (fun (s131 : (Int) × (List (Int))) k132 =>
 (bif (Dat.ilt s131.1 (Dat.ofN (Dat.len x2.1.1))) then if (Dat.In s131.1 (Dat.len x2.1.1)) then if (Dat.Lt (Dat.addN 0 (Dat.toN s131.1)) (Dat.len s131.2)) then Dat.bnd (Dat.get s131.2 (Dat.addN 0 (Dat.toN s131.1)) 0) fun (x137 : Int) =>
 Dat.bnd (Dat.wrap .u32 (Dat.add x137 1)) fun (x138 : Int) =>
 if (Dat.In s131.1 (Dat.len x2.1.1)) then if (Dat.Lt (Dat.addN 0 (Dat.toN s131.1)) (Dat.len s131.2)) then Dat.bnd (Dat.set s131.2 (Dat.addN 0 (Dat.toN s131.1)) x138) fun (x143 : List (Int)) =>
 Dat.bnd (Dat.wrap .i64 (Dat.add s131.1 1)) fun (x144 : Int) =>
 k132 (x144, x143)
 else none
 else none
 else none
 else none
 else some false)) (0, x2.1.1))
 else Dat.loop (fun (s145 : (Int) × (List (Int))) k146 =>
 (bif (Dat.ilt s145.1 (Dat.ofN (Dat.len x2.1.1))) then if (Dat.In s145.1 (Dat.len x2.1.1)) then if (Dat.Lt (Dat.addN 0 (Dat.toN s145.1)) (Dat.len s145.2)) then Dat.bnd (Dat.get s145.2 (Dat.addN 0 (Dat.toN s145.1)) 0) fun (x151 : Int) =>
 Dat.bnd (Dat.wrap .u32 (Dat.add x151 1)) fun (x152 : Int) =>
 if (Dat.In s145.1 (Dat.len x2.1.1)) then if (Dat.Lt (Dat.addN 0 (Dat.toN s145.1)) (Dat.len s145.2)) then Dat.bnd (Dat.set s145.2 (Dat.addN 0 (Dat.toN s145.1)) x152) fun (x157 : List (Int)) =>
 Dat.bnd (Dat.wrap .i64 (Dat.add s145.1 1)) fun (x158 : Int) =>
 k146 (x158, x157)
 else none
 else none
 else none
 else none
 else some false)) (0, x2.1.1))
 else none))
 else (bif (Dat.pickB false true (Dat.igt (Dat.ofN (Dat.len d0.1)) 4100)) then some true
 else Dat.bind (ref05_Twin (d0.1, (d0.2.1, ()))) fun (x159 : (List (Int)) × ((Int) × (Unit))) =>
 Dat.bind (lane_Two (x159.1, (x159.2.1, ()))) fun (x160 : ((List (Int)) × ((Int) × (Unit))) × ((Int) × ((Int) × (Int)))) =>
 if (Dat.EqN (Dat.len x160.1.1) 0) then Dat.bind (ref05_Two (d0.1, (d0.2.1, ()))) fun (x163 : ((List (Int)) × ((Int) × (Unit))) × ((Int) × ((Int) × (Int)))) =>
 Dat.bind (ref05_Same ((x160.1.1, (x160.1.2.1, ())), (x163.1.1, (x163.1.2.1, ())))) fun (x164 : Bool) =>
 (bif x164 then (bif (Dat.pickB true (Dat.ieq x160.2.1 x163.2.1) false) then (bif (Dat.pickB true (Dat.ieq x160.2.2.1 x163.2.2.1) false) then (bif (Dat.pickB true (Dat.ieq x160.2.2.2 x163.2.2.2) false) then Dat.bind (lane_Check (x159.1, (x159.2.1, ()))) fun (x165 : Int) =>
 Dat.bind (ref05_Check (d0.1, (d0.2.1, ()))) fun (x166 : Int) =>
 (bif (Dat.pickB true (Dat.ieq x165 x166) false) then Dat.bind (lane_Left (x159.1, (x159.2.1, ()))) fun (x167 : Int) =>
 Dat.bind (ref05_Left (d0.1, (d0.2.1, ()))) fun (x168 : Int) =>
 Dat.loop (fun (s169 : Int) k170 =>
 (bif (Dat.ilt s169 (Dat.ofN (Dat.len x160.1.1))) then if (Dat.Ix s169 (Dat.len x160.1.1)) then Dat.bnd (Dat.get x160.1.1 (Dat.toN s169) 0) fun (x173 : Int) =>
 Dat.bnd (Dat.wrap .u32 (Dat.add x173 1)) fun (x174 : Int) =>
 if (Dat.Ix s169 (Dat.len x160.1.1)) then Dat.bnd (Dat.get x160.1.1 (Dat.toN s169) 0) fun (x177 : Int) =>
 none
 else none
 else none
 else (bif (Dat.pickB true (Dat.ieq x167 x168) false) then Dat.bind (ref05_Same ((x159.1, (x159.2.1, ())), (d0.1, (d0.2.1, ())))) fun (x178 : Bool) =>
 some (Dat.pickB true x178 false)
 else some false))) 0
 else Dat.loop (fun (s179 : Int) k180 =>
 (bif (Dat.ilt s179 (Dat.ofN (Dat.len x160.1.1))) then if (Dat.Ix s179 (Dat.len x160.1.1)) then Dat.bnd (Dat.get x160.1.1 (Dat.toN s179) 0) fun (x183 : Int) =>
 Dat.bnd (Dat.wrap .u32 (Dat.add x183 1)) fun (x184 : Int) =>
 if (Dat.Ix s179 (Dat.len x160.1.1)) then Dat.bnd (Dat.get x160.1.1 (Dat.toN s179) 0) fun (x187 : Int) =>
 none
 else none
 else none
 else some false)) 0)
 else Dat.loop (fun (s188 : Int) k189 =>
 (bif (Dat.ilt s188 (Dat.ofN (Dat.len x160.1.1))) then if (Dat.Ix s188 (Dat.len x160.1.1)) then Dat.bnd (Dat.get x160.1.1 (Dat.toN s188) 0) fun (x192 : Int) =>
 Dat.bnd (Dat.wrap .u32 (Dat.add x192 1)) fun (x193 : Int) =>
 if (Dat.Ix s188 (Dat.len x160.1.1)) then Dat.bnd (Dat.get x160.1.1 (Dat.toN s188) 0) fun (x196 : Int) =>
 none
 else none
 else none
 else some false)) 0)
 else Dat.loop (fun (s197 : Int) k198 =>
 (bif (Dat.ilt s197 (Dat.ofN (Dat.len x160.1.1))) then if (Dat.Ix s197 (Dat.len x160.1.1)) then Dat.bnd (Dat.get x160.1.1 (Dat.toN s197) 0) fun (x201 : Int) =>
 Dat.bnd (Dat.wrap .u32 (Dat.add x201 1)) fun (x202 : Int) =>
 if (Dat.Ix s197 (Dat.len x160.1.1)) then Dat.bnd (Dat.get x160.1.1 (Dat.toN s197) 0) fun (x205 : Int) =>
 none
 else none
 else none
 else some false)) 0)
 else Dat.loop (fun (s206 : Int) k207 =>
 (bif (Dat.ilt s206 (Dat.ofN (Dat.len x160.1.1))) then if (Dat.Ix s206 (Dat.len x160.1.1)) then Dat.bnd (Dat.get x160.1.1 (Dat.toN s206) 0) fun (x210 : Int) =>
 Dat.bnd (Dat.wrap .u32 (Dat.add x210 1)) fun (x211 : Int) =>
 if (Dat.Ix s206 (Dat.len x160.1.1)) then Dat.bnd (Dat.get x160.1.1 (Dat.toN s206) 0) fun (x214 : Int) =>
 none
 else none
 else none
 else some false)) 0)
 else Dat.loop (fun (s215 : Int) k216 =>
 (bif (Dat.ilt s215 (Dat.ofN (Dat.len x160.1.1))) then if (Dat.Ix s215 (Dat.len x160.1.1)) then Dat.bnd (Dat.get x160.1.1 (Dat.toN s215) 0) fun (x219 : Int) =>
 Dat.bnd (Dat.wrap .u32 (Dat.add x219 1)) fun (x220 : Int) =>
 if (Dat.Ix s215 (Dat.len x160.1.1)) then Dat.bnd (Dat.get x160.1.1 (Dat.toN s215) 0) fun (x223 : Int) =>
 none
 else none
 else none
 else some false)) 0)
 else Dat.bind (ref05_Two (d0.1, (d0.2.1, ()))) fun (x224 : ((List (Int)) × ((Int) × (Unit))) × ((Int) × ((Int) × (Int)))) =>
 if (Dat.Le (Dat.addN 0 (Dat.len x160.1.1)) (Dat.len x160.1.1)) then Dat.bind (ref05_Same (((Dat.seg x160.1.1 0 (Dat.len x160.1.1)), (x160.1.2.1, ())), (x224.1.1, (x224.1.2.1, ())))) fun (x227 : Bool) =>
 (bif x227 then (bif (Dat.pickB true (Dat.ieq x160.2.1 x224.2.1) false) then (bif (Dat.pickB true (Dat.ieq x160.2.2.1 x224.2.2.1) false) then (bif (Dat.pickB true (Dat.ieq x160.2.2.2 x224.2.2.2) false) then Dat.bind (lane_Check (x159.1, (x159.2.1, ()))) fun (x228 : Int) =>
 Dat.bind (ref05_Check (d0.1, (d0.2.1, ()))) fun (x229 : Int) =>
 (bif (Dat.pickB true (Dat.ieq x228 x229) false) then Dat.bind (lane_Left (x159.1, (x159.2.1, ()))) fun (x230 : Int) =>
 Dat.bind (ref05_Left (d0.1, (d0.2.1, ()))) fun (x231 : Int) =>
 Dat.loop (fun (s232 : (Int) × (List (Int))) k233 =>
 (bif (Dat.ilt s232.1 (Dat.ofN (Dat.len x160.1.1))) then if (Dat.In s232.1 (Dat.len x160.1.1)) then if (Dat.Lt (Dat.addN 0 (Dat.toN s232.1)) (Dat.len s232.2)) then Dat.bnd (Dat.get s232.2 (Dat.addN 0 (Dat.toN s232.1)) 0) fun (x238 : Int) =>
 Dat.bnd (Dat.wrap .u32 (Dat.add x238 1)) fun (x239 : Int) =>
 if (Dat.In s232.1 (Dat.len x160.1.1)) then if (Dat.Lt (Dat.addN 0 (Dat.toN s232.1)) (Dat.len s232.2)) then Dat.bnd (Dat.set s232.2 (Dat.addN 0 (Dat.toN s232.1)) x239) fun (x244 : List (Int)) =>
 Dat.bnd (Dat.wrap .i64 (Dat.add s232.1 1)) fun (x245 : Int) =>
 k233 (x245, x244)
 else none
 else none
 else none
 else none
 else (bif (Dat.pickB true (Dat.ieq x230 x231) false) then Dat.bind (ref05_Same ((x159.1, (x159.2.1, ())), (d0.1, (d0.2.1, ())))) fun (x246 : Bool) =>
 some (Dat.pickB true x246 false)
 else some false))) (0, x160.1.1)
 else Dat.loop (fun (s247 : (Int) × (List (Int))) k248 =>
 (bif (Dat.ilt s247.1 (Dat.ofN (Dat.len x160.1.1))) then if (Dat.In s247.1 (Dat.len x160.1.1)) then if (Dat.Lt (Dat.addN 0 (Dat.toN s247.1)) (Dat.len s247.2)) then Dat.bnd (Dat.get s247.2 (Dat.addN 0 (Dat.toN s247.1)) 0) fun (x253 : Int) =>
 Dat.bnd (Dat.wrap .u32 (Dat.add x253 1)) fun (x254 : Int) =>
 if (Dat.In s247.1 (Dat.len x160.1.1)) then if (Dat.Lt (Dat.addN 0 (Dat.toN s247.1)) (Dat.len s247.2)) then Dat.bnd (Dat.set s247.2 (Dat.addN 0 (Dat.toN s247.1)) x254) fun (x259 : List (Int)) =>
 Dat.bnd (Dat.wrap .i64 (Dat.add s247.1 1)) fun (x260 : Int) =>
 k248 (x260, x259)
 else none
 else none
 else none
 else none
 else some false)) (0, x160.1.1))
 else Dat.loop (fun (s261 : (Int) × (List (Int))) k262 =>
 (bif (Dat.ilt s261.1 (Dat.ofN (Dat.len x160.1.1))) then if (Dat.In s261.1 (Dat.len x160.1.1)) then if (Dat.Lt (Dat.addN 0 (Dat.toN s261.1)) (Dat.len s261.2)) then Dat.bnd (Dat.get s261.2 (Dat.addN 0 (Dat.toN s261.1)) 0) fun (x267 : Int) =>
 Dat.bnd (Dat.wrap .u32 (Dat.add x267 1)) fun (x268 : Int) =>
 if (Dat.In s261.1 (Dat.len x160.1.1)) then if (Dat.Lt (Dat.addN 0 (Dat.toN s261.1)) (Dat.len s261.2)) then Dat.bnd (Dat.set s261.2 (Dat.addN 0 (Dat.toN s261.1)) x268) fun (x273 : List (Int)) =>
 Dat.bnd (Dat.wrap .i64 (Dat.add s261.1 1)) fun (x274 : Int) =>
 k262 (x274, x273)
 else none
 else none
 else none
 else none
 else some false)) (0, x160.1.1))
 else Dat.loop (fun (s275 : (Int) × (List (Int))) k276 =>
 (bif (Dat.ilt s275.1 (Dat.ofN (Dat.len x160.1.1))) then if (Dat.In s275.1 (Dat.len x160.1.1)) then if (Dat.Lt (Dat.addN 0 (Dat.toN s275.1)) (Dat.len s275.2)) then Dat.bnd (Dat.get s275.2 (Dat.addN 0 (Dat.toN s275.1)) 0) fun (x281 : Int) =>
 Dat.bnd (Dat.wrap .u32 (Dat.add x281 1)) fun (x282 : Int) =>
 if (Dat.In s275.1 (Dat.len x160.1.1)) then if (Dat.Lt (Dat.addN 0 (Dat.toN s275.1)) (Dat.len s275.2)) then Dat.bnd (Dat.set s275.2 (Dat.addN 0 (Dat.toN s275.1)) x282) fun (x287 : List (Int)) =>
 Dat.bnd (Dat.wrap .i64 (Dat.add s275.1 1)) fun (x288 : Int) =>
 k276 (x288, x287)
 else none
 else none
 else none
 else none
 else some false)) (0, x160.1.1))
 else Dat.loop (fun (s289 : (Int) × (List (Int))) k290 =>
 (bif (Dat.ilt s289.1 (Dat.ofN (Dat.len x160.1.1))) then if (Dat.In s289.1 (Dat.len x160.1.1)) then if (Dat.Lt (Dat.addN 0 (Dat.toN s289.1)) (Dat.len s289.2)) then Dat.bnd (Dat.get s289.2 (Dat.addN 0 (Dat.toN s289.1)) 0) fun (x295 : Int) =>
 Dat.bnd (Dat.wrap .u32 (Dat.add x295 1)) fun (x296 : Int) =>
 if (Dat.In s289.1 (Dat.len x160.1.1)) then if (Dat.Lt (Dat.addN 0 (Dat.toN s289.1)) (Dat.len s289.2)) then Dat.bnd (Dat.set s289.2 (Dat.addN 0 (Dat.toN s289.1)) x296) fun (x301 : List (Int)) =>
 Dat.bnd (Dat.wrap .i64 (Dat.add s289.1 1)) fun (x302 : Int) =>
 k290 (x302, x301)
 else none
 else none
 else none
 else none
 else some false)) (0, x160.1.1))
 else Dat.loop (fun (s303 : (Int) × (List (Int))) k304 =>
 (bif (Dat.ilt s303.1 (Dat.ofN (Dat.len x160.1.1))) then if (Dat.In s303.1 (Dat.len x160.1.1)) then if (Dat.Lt (Dat.addN 0 (Dat.toN s303.1)) (Dat.len s303.2)) then Dat.bnd (Dat.get s303.2 (Dat.addN 0 (Dat.toN s303.1)) 0) fun (x309 : Int) =>
 Dat.bnd (Dat.wrap .u32 (Dat.add x309 1)) fun (x310 : Int) =>
 if (Dat.In s303.1 (Dat.len x160.1.1)) then if (Dat.Lt (Dat.addN 0 (Dat.toN s303.1)) (Dat.len s303.2)) then Dat.bnd (Dat.set s303.2 (Dat.addN 0 (Dat.toN s303.1)) x310) fun (x315 : List (Int)) =>
 Dat.bnd (Dat.wrap .i64 (Dat.add s303.1 1)) fun (x316 : Int) =>
 k304 (x316, x315)
 else none
 else none
 else none
 else none
 else some false)) (0, x160.1.1))
 else none))
noncomputable def p_law05_LaneTakes : PFn := { args := [(.pair (.list (.int .u32)) (.pair (.int .i64) .unit))], res := [.bool], fn := law05_LaneTakes }
def sp3_3 : List LSpec × List Nat := ([{ id := 300, known := true, toks := [], items := [.slot 13 (.val (.int .i64)), .vec 2003000 (.int .u32)], junk := [78, 79, 80, 81, 82, 85, 86, 87, 88, 89, 90, 91, 92, 93, 94, 83, 84], tails := [] }], [])
def spt3 : Tab (List LSpec × List Nat) := (.node (.node (.node .leaf (some sp3_3) .leaf) none .leaf) none .leaf)
def spf3 (f : Nat) : List LSpec × List Nat := (spt3.get f).getD ([], [])
theorem pd_law05_LaneTakes : PureD Try.prog cfg 3 p_law05_LaneTakes := fnDa spf3 [] (l := [(4, p_ref05_Twin), (5, p_lane_Two), (6, p_ref05_Two), (7, p_ref05_Same), (8, p_lane_Check), (9, p_ref05_Check), (10, p_lane_Left), (11, p_ref05_Left)]) (lo := [(5, o_lane_Two)]) cfgOk rfl (.cons pd_ref05_Twin (.cons pd_lane_Two (.cons pd_ref05_Two (.cons pd_ref05_Same (.cons pd_lane_Check (.cons pd_ref05_Check (.cons pd_lane_Left (.cons pd_ref05_Left .nil)))))))) (.cons od_lane_Two.1 .nil) (fun d => by kernel_rfl)
end Go.Proofs.Ytnfiamgpebkhfaa
