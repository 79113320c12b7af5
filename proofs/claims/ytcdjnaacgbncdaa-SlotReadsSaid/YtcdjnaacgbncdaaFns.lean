/- The functions of the program, as functions on plain data. -/
import Derived.Test.YtcdjnaacgbncdaaCfg
import Derived.Test.YtcdjnaacgbncdaaM6
import Derived.ProofKit
namespace Go.Proofs.Ytcdjnaacgbncdaa
open Go.Eng
set_option linter.unusedVariables false
set_option maxRecDepth 100000
def sp0 (f : Nat) : List LSpec × List Nat := ([], [])

/-- thimblerig/geo.Check -/
noncomputable def geo_Check (d0 : Int) : Option (Int) :=
 (bif (Dat.ilt d0 1) then some 2
 else (bif (Dat.pickB false true (Dat.igt d0 6)) then some 2
 else some 0))
noncomputable def p_geo_Check : PFn := { args := [(.int .i64)], res := [(.int .i64)], fn := geo_Check }
theorem pd_geo_Check : PureD Try.prog cfg 40 p_geo_Check := fnD sp0 (l := []) cfgOk cfgGlob .nil (fun d => by kernel_rfl)

/-- thimblerig/geo.Leaves -/
noncomputable def geo_Leaves (d0 : Int) : Option ((Int) × (Int)) :=
 Dat.bind (geo_Check d0) fun (x1 : Int) =>
 (bif (Dat.ine x1 0) then some (0, x1)
 else if (Dat.Neg d0) then none
 else Dat.bnd (Dat.shl .i64 1 d0) fun (x4 : Int) =>
 some (x4, 0))
noncomputable def p_geo_Leaves : PFn := { args := [(.int .i64)], res := [(.int .i64), (.int .i64)], fn := geo_Leaves }
theorem pd_geo_Leaves : PureD Try.prog cfg 31 p_geo_Leaves := fnD sp0 (l := [(40, p_geo_Check)]) cfgOk cfgGlob (.cons pd_geo_Check .nil) (fun d => by kernel_rfl)

/-- thimblerig/slot.size -/
noncomputable def slot_size (d0 : (Int) × ((Int) × ((Int) × ((Int) × (Unit))))) : Option (Int) :=
 Dat.bnd (Dat.wrap .i64 (Dat.add 8 d0.2.1)) fun (x1 : Int) =>
 some x1
noncomputable def p_slot_size : PFn := { args := [(.pair (.int .i64) (.pair (.int .i64) (.pair (.int .i64) (.pair (.int .i64) .unit))))], res := [(.int .i64)], fn := slot_size }
theorem pd_slot_size : PureD Try.prog cfg 25 p_slot_size := fnD sp0 (l := []) cfgOk cfgGlob .nil (fun d => by kernel_rfl)

/-- thimblerig/slot.Slots -/
noncomputable def slot_Slots (d0 : (Int) × ((Int) × ((Int) × ((Int) × (Unit))))) : Option ((Int) × (Int)) :=
 (bif (Dat.ilt d0.1 1) then some (0, 8)
 else (bif (Dat.pickB false true (Dat.igt d0.1 64)) then some (0, 8)
 else (bif (Dat.pickB false true (Dat.ilt d0.2.1 1)) then some (0, 8)
 else (bif (Dat.pickB false true (Dat.igt d0.2.1 32)) then some (0, 8)
 else Dat.bind (geo_Leaves d0.2.2.1) fun (x1 : (Int) × (Int)) =>
 (bif (Dat.ine x1.2 0) then some (0, 8)
 else (bif (Dat.pickB false true (Dat.ilt x1.1 d0.1)) then some (0, 8)
 else Dat.loop (fun (s2 : Int) k3 =>
 (bif (Dat.ile s2 4) then Dat.bind (slot_size (d0.1, (d0.2.1, (d0.2.2.1, (d0.2.2.2.1, ()))))) fun (x4 : Int) =>
 Dat.bnd (Dat.wrap .i64 (Dat.mul s2 x4)) fun (x5 : Int) =>
 Dat.bnd (Dat.wrap .i64 (Dat.add x5 64)) fun (x6 : Int) =>
 (bif (Dat.ieq d0.2.2.2.1 x6) then some (s2, 0)
 else Dat.bnd (Dat.wrap .i64 (Dat.add s2 1)) fun (x7 : Int) =>
 k3 x7)
 else some (0, 8))) 1))))))
noncomputable def p_slot_Slots : PFn := { args := [(.pair (.int .i64) (.pair (.int .i64) (.pair (.int .i64) (.pair (.int .i64) .unit))))], res := [(.int .i64), (.int .i64)], fn := slot_Slots }
def sp10_10 : List LSpec × List Nat := ([{ id := 1000, known := true, toks := [], items := [.slot 6 (.val (.int .i64))], junk := [39, 40, 43, 44, 45, 46, 47, 48, 49, 50, 51, 2, 3, 41, 42], tails := [] }], [])
def spt10 : Tab (List LSpec × List Nat) := (.node .leaf none (.node .leaf none (.node (.node .leaf (some sp10_10) .leaf) none .leaf)))
def spf10 (f : Nat) : List LSpec × List Nat := (spt10.get f).getD ([], [])
theorem pd_slot_Slots : PureD Try.prog cfg 10 p_slot_Slots := fnD spf10 (l := [(31, p_geo_Leaves), (25, p_slot_size)]) cfgOk cfgGlob (.cons pd_geo_Leaves (.cons pd_slot_size .nil)) (fun d => by kernel_rfl)

/-- thimblerig/slot.None -/
noncomputable def slot_None (d0 : (Int) × ((Int) × ((Int) × ((Int) × (Unit))))) : Option ((List (Int)) × (Int)) :=
 Dat.bind (slot_Slots (d0.1, (d0.2.1, (d0.2.2.1, (d0.2.2.2.1, ()))))) fun (x1 : (Int) × (Int)) =>
 (bif (Dat.ine x1.2 0) then some (([] : List (Int)), x1.2)
 else Dat.bind (slot_size (d0.1, (d0.2.1, (d0.2.2.1, (d0.2.2.2.1, ()))))) fun (x2 : Int) =>
 if (Dat.MkOk x2 x2 1) then if (Dat.Le (Dat.addN 0 (Dat.toN x2)) (Dat.len (Dat.rep (α := Int) (Dat.toN x2) 0))) then some ((Dat.seg (Dat.rep (α := Int) (Dat.toN x2) 0) 0 (Dat.toN x2)), 0)
 else none
 else none)
noncomputable def p_slot_None : PFn := { args := [(.pair (.int .i64) (.pair (.int .i64) (.pair (.int .i64) (.pair (.int .i64) .unit))))], res := [(.list (.int .u8)), (.int .i64)], fn := slot_None }
theorem pd_slot_None : PureD Try.prog cfg 7 p_slot_None := fnD sp0 (l := [(10, p_slot_Slots), (25, p_slot_size)]) cfgOk cfgGlob (.cons pd_slot_Slots (.cons pd_slot_size .nil)) (fun d => by kernel_rfl)

/-- thimblerig/slot.parts -/
noncomputable def slot_parts (d0 : (Int) × ((Int) × ((Int) × ((Int) × (Unit))))) : Option (List (Int)) :=
 if (Dat.EqN (Dat.len (Dat.rep 3 0)) (Dat.len (4 :: (4 :: (d0.2.1 :: ([] : List (Int))))))) then if (Dat.EqN (Dat.len (4 :: (4 :: (d0.2.1 :: ([] : List (Int)))))) 3) then some (4 :: (4 :: (d0.2.1 :: ([] : List (Int)))))
 else none
 else none
noncomputable def p_slot_parts : PFn := { args := [(.pair (.int .i64) (.pair (.int .i64) (.pair (.int .i64) (.pair (.int .i64) .unit))))], res := [(.arr 3 (.int .i64))], fn := slot_parts }
theorem pd_slot_parts : PureD Try.prog cfg 26 p_slot_parts := fnD sp0 (l := []) cfgOk cfgGlob .nil (fun d => by kernel_rfl)

/-- thimblerig/num.together -/
noncomputable def num_together (d0 : (List (Int)) × ((Int) × (Int))) : Option ((Int) × (Int)) :=
 (bif (Dat.igt (Dat.ofN (Dat.len d0.1)) 64) then some (0, 2)
 else Dat.loop (fun (s1 : (Int) × (Int)) k2 =>
 (bif (Dat.ilt s1.1 (Dat.ofN (Dat.len d0.1))) then if (Dat.Ix s1.1 (Dat.len d0.1)) then Dat.bnd (Dat.get d0.1 (Dat.toN s1.1) 0) fun (x5 : Int) =>
 (bif (Dat.ilt x5 d0.2.1) then some (0, 2)
 else (bif (Dat.pickB false true (Dat.igt x5 d0.2.2)) then some (0, 2)
 else Dat.bnd (Dat.wrap .i64 (Dat.add s1.2 x5)) fun (x6 : Int) =>
 (bif (Dat.bnot (Dat.ile x6 65536)) then some (0, 2)
 else Dat.bnd (Dat.wrap .i64 (Dat.add s1.1 1)) fun (x7 : Int) =>
 k2 (x7, x6))))
 else none
 else some (s1.2, 0))) (0, 0))
noncomputable def p_num_together : PFn := { args := [(.list (.int .i64)), (.int .i64), (.int .i64)], res := [(.int .i64), (.int .i64)], fn := num_together }
def sp43_43 : List LSpec × List Nat := ([{ id := 4300, known := true, toks := [], items := [.slot 18 (.val (.int .i64)), .cells 1000008 [.val (.int .i64)]], junk := [19, 20, 21, 11, 22, 23, 24, 25, 6, 7, 26], tails := [] }], [])
def spt43 : Tab (List LSpec × List Nat) := (.node (.node (.node .leaf none (.node .leaf none (.node (.node .leaf (some sp43_43) .leaf) none .leaf))) none .leaf) none .leaf)
def spf43 (f : Nat) : List LSpec × List Nat := (spt43.get f).getD ([], [])
theorem pd_num_together : PureD Try.prog cfg 43 p_num_together := fnD spf43 (l := []) cfgOk cfgGlob .nil (fun d => by kernel_rfl)

/-- thimblerig/num.Size -/
noncomputable def num_Size (d0 : List (Int)) : Option ((Int) × (Int)) :=
 Dat.bind (num_together (d0, (0, 65536))) fun (x1 : (Int) × (Int)) =>
 some (x1.1, x1.2)
noncomputable def p_num_Size : PFn := { args := [(.list (.int .i64))], res := [(.int .i64), (.int .i64)], fn := num_Size }
theorem pd_num_Size : PureD Try.prog cfg 38 p_num_Size := fnD sp0 (l := [(43, p_num_together)]) cfgOk cfgGlob (.cons pd_num_together .nil) (fun d => by kernel_rfl)

/-- slices.Clone(()byte,byte) -/
noncomputable def slices_Clone_byte_byte (d0 : List (Int)) : Option (List (Int)) :=
 if (Dat.Le (Dat.addN 0 0) (Dat.len ([] : List (Int)))) then if (Dat.EqN (Dat.len d0) 0) then if (Dat.Le (Dat.addN 0 0) (Dat.len ([] : List (Int)))) then some (Dat.seg ([] : List (Int)) 0 0)
 else none
 else if (Dat.Big (Dat.len (Dat.seg ([] : List (Int)) 0 0)) (Dat.len d0) 1) then none
 else Dat.bnd (Dat.app (Dat.seg ([] : List (Int)) 0 0) d0) fun (x9 : List (Int)) =>
 if (Dat.Le (Dat.addN 0 (Dat.len x9)) (Dat.len x9)) then some (Dat.seg x9 0 (Dat.len x9))
 else none
 else none
noncomputable def p_slices_Clone_byte_byte : PFn := { args := [(.list (.int .u8))], res := [(.list (.int .u8))], fn := slices_Clone_byte_byte }
noncomputable def cx36 : CloneX Try.prog cfg 36 5 (.int .u8) := clx xf36 5 (xf36.body.cOps.getD 0 ⟨none, .move (.tmp 0), 0, "", #[], none⟩) (xf36.body.cOps.getD 1 ⟨none, .move (.tmp 0), 0, "", #[], none⟩) (by kernel_rfl) (by kernel_rfl) (by kernel_rfl) (by kernel_rfl) (by kernel_rfl) (by kernel_rfl) (by kernel_rfl) (by kernel_rfl) (by kernel_rfl)
def sp36_36 : List LSpec × List Nat := ([], [3])
def spt36 : Tab (List LSpec × List Nat) := (.node .leaf none (.node (.node .leaf none (.node (.node (.node .leaf (some sp36_36) .leaf) none .leaf) none .leaf)) none .leaf))
def spf36 (f : Nat) : List LSpec × List Nat := (spt36.get f).getD ([], [])
theorem pd_slices_Clone_byte_byte : PureD Try.prog cfg 36 p_slices_Clone_byte_byte := cloneD spf36 cfgOk cfgGlob cx36 (of_decide_eq_true (by kernel_rfl)) (by kernel_rfl) (by kernel_rfl) (by kernel_rfl) (fun d => by kernel_rfl) (fun d => by kernel_rfl) (by kernel_rfl) (fun d r h => by
  unfold slices_Clone_byte_byte at h
  split at h
  · split at h
    · rename_i e
      have h1 := Option.some.inj h
      rw [← h1]
      exact (List.length_eq_zero_iff.1 e).symm
    · split at h
      · cases h
      · simp only [Dat.bnd] at h
        split at h
        · have h1 : (d.drop 0).take d.length = r := Option.some.inj h
          rw [← h1]
          simp
        · cases h
  · cases h)
noncomputable def o_slices_Clone_byte_byte : OFn := { args := [(.list (.int .u8))], ores := [(.own (.int .u8))], fn := slices_Clone_byte_byte }
theorem od_slices_Clone_byte_byte : OwnD Try.prog cfg 36 o_slices_Clone_byte_byte ∧ True := ⟨cloneO spf36 cfgOk cfgGlob cx36 (of_decide_eq_true (by kernel_rfl)) (by kernel_rfl) (by kernel_rfl) (by kernel_rfl) (fun d => by kernel_rfl) (fun d => by kernel_rfl) (by kernel_rfl) (fun d r h => by
  unfold slices_Clone_byte_byte at h
  split at h
  · split at h
    · rename_i e
      have h1 := Option.some.inj h
      rw [← h1]
      exact (List.length_eq_zero_iff.1 e).symm
    · split at h
      · cases h
      · simp only [Dat.bnd] at h
        split at h
        · have h1 : (d.drop 0).take d.length = r := Option.some.inj h
          rw [← h1]
          simp
        · cases h
  · cases h), trivial⟩

/-- thimblerig/num.Cut -/
noncomputable def num_Cut (d0 : (List (Int)) × (List (Int))) : Option ((List (List (Int))) × (Int)) :=
 Dat.bind (num_Size d0.2) fun (x1 : (Int) × (Int)) =>
 (bif (Dat.ine x1.2 0) then some (([] : List (List (Int))), x1.2)
 else (bif (Dat.ine (Dat.ofN (Dat.len d0.1)) x1.1) then some (([] : List (List (Int))), 10)
 else Dat.bind (slices_Clone_byte_byte d0.1) fun (x2 : List (Int)) =>
 if (Dat.MkOk (Dat.ofN (Dat.len d0.2)) (Dat.ofN (Dat.len d0.2)) 24) then Dat.loop (fun (s5 : (Int) × ((Int) × (List (List (Int))))) k6 =>
 (bif (Dat.ilt s5.2.1 (Dat.ofN (Dat.len d0.2))) then if (Dat.Ix s5.2.1 (Dat.len d0.2)) then Dat.bnd (Dat.get d0.2 (Dat.toN s5.2.1) 0) fun (x9 : Int) =>
 Dat.bnd (Dat.wrap .i64 (Dat.add s5.1 x9)) fun (x10 : Int) =>
 Dat.bnd (Dat.wrap .i64 (Dat.add s5.1 x9)) fun (x11 : Int) =>
 if (Dat.Bd x11 (Dat.len x2)) then if (Dat.Bd x10 (Dat.toN x11)) then if (Dat.Bd s5.1 (Dat.toN x10)) then Dat.bnd (Dat.slice x2 (Dat.toN s5.1) (Dat.toN x10)) fun (x18 : List (Int)) =>
 if (Dat.In s5.2.1 (Dat.toN (Dat.ofN (Dat.len d0.2)))) then if (Dat.Lt (Dat.addN 0 (Dat.toN s5.2.1)) (Dat.len s5.2.2)) then Dat.bnd (Dat.set s5.2.2 (Dat.addN 0 (Dat.toN s5.2.1)) x18) fun (x23 : List (List (Int))) =>
 Dat.bnd (Dat.wrap .i64 (Dat.add s5.1 x9)) fun (x24 : Int) =>
 Dat.bnd (Dat.wrap .i64 (Dat.add s5.2.1 1)) fun (x25 : Int) =>
 k6 (x24, (x25, x23))
 else none
 else none
 else none
 else none
 else none
 else none
 else if (Dat.Le (Dat.addN 0 (Dat.toN (Dat.ofN (Dat.len d0.2)))) (Dat.len s5.2.2)) then some ((Dat.seg s5.2.2 0 (Dat.toN (Dat.ofN (Dat.len d0.2)))), 0)
 else none)) (0, (0, (Dat.rep (α := List (Int)) (Dat.toN (Dat.ofN (Dat.len d0.2))) ([] : List (Int)))))
 else none))
noncomputable def p_num_Cut : PFn := { args := [(.list (.int .u8)), (.list (.int .i64))], res := [(.list (.list (.int .u8))), (.int .i64)], fn := num_Cut }
def sp27_27 : List LSpec × List Nat := ([{ id := 2700, known := true, toks := [], items := [.slot 10 (.val (.int .i64)), .slot 32 (.val (.int .i64)), .vec 1000009 (.list (.int .u8))], junk := [33, 34, 35, 36, 11, 12, 37, 38, 39, 40, 41, 42, 43, 44, 45, 46, 47, 48, 49, 50, 51, 52], tails := [] }], [])
def spt27 : Tab (List LSpec × List Nat) := (.node (.node (.node .leaf none (.node .leaf none (.node .leaf (some sp27_27) .leaf))) none .leaf) none .leaf)
def spf27 (f : Nat) : List LSpec × List Nat := (spt27.get f).getD ([], [])
theorem pd_num_Cut : PureD Try.prog cfg 27 p_num_Cut := fnD spf27 (l := [(38, p_num_Size), (36, p_slices_Clone_byte_byte)]) cfgOk cfgGlob (.cons pd_num_Size (.cons pd_slices_Clone_byte_byte .nil)) (fun d => by kernel_rfl)

/-- thimblerig/num.Cut -/
noncomputable def num_Cut_r (d0 : (List (Int)) × (List (Int))) : Option (((List (List (Int))) × (List (List (MixE (Int))))) × ((MixE (MixE (Int))) × (Int))) :=
 Dat.bind (num_Size d0.2) fun (x1 : (Int) × (Int)) =>
 (bif (Dat.ine x1.2 0) then some ((([] : List (List (Int))), ([] : List (List (MixE (Int))))), ((Dat.xnil (α := MixE (Int)) ), x1.2))
 else (bif (Dat.ine (Dat.ofN (Dat.len d0.1)) x1.1) then some ((([] : List (List (Int))), ([] : List (List (MixE (Int))))), ((Dat.xnil (α := MixE (Int)) ), 10))
 else Dat.bind (slices_Clone_byte_byte d0.1) fun (x2 : List (Int)) =>
 if (Dat.EqN (Dat.len x2) 0) then if (Dat.MkOk (Dat.ofN (Dat.len d0.2)) (Dat.ofN (Dat.len d0.2)) 24) then if (Dat.Le (Dat.addN 0 (Dat.toN (Dat.ofN (Dat.len d0.2)))) (Dat.len (Dat.rep (α := List (Int)) (Dat.toN (Dat.ofN (Dat.len d0.2))) ([] : List (Int))))) then Dat.bind (Dat.mapO (fun (e9 : List (Int)) =>
 some (Dat.xdata e9)) (Dat.seg (Dat.rep (α := List (Int)) (Dat.toN (Dat.ofN (Dat.len d0.2))) ([] : List (Int))) 0 (Dat.toN (Dat.ofN (Dat.len d0.2))))) fun (x10 : List (MixE (Int))) =>
 Dat.loop (fun (s11 : (Int) × ((Int) × ((MixE (Int)) × ((List (List (Int))) × ((MixE (MixE (Int))) × (List (List (MixE (Int))))))))) k12 =>
 (bif (Dat.ilt s11.2.1 (Dat.ofN (Dat.len d0.2))) then if (Dat.Ix s11.2.1 (Dat.len d0.2)) then Dat.bnd (Dat.get d0.2 (Dat.toN s11.2.1) 0) fun (x15 : Int) =>
 Dat.bnd (Dat.wrap .i64 (Dat.add s11.1 x15)) fun (x16 : Int) =>
 Dat.bnd (Dat.wrap .i64 (Dat.add s11.1 x15)) fun (x17 : Int) =>
 if (Dat.XCut s11.2.2.2.1 s11.2.2.1) then if (Dat.Bd x17 (Dat.xlen s11.2.2.1)) then if (Dat.Bd x16 (Dat.toN x17)) then if (Dat.Bd s11.1 (Dat.toN x16)) then Dat.bnd (Dat.xcut s11.2.2.1 (Dat.toN s11.1) (Dat.toN x16)) fun (x26 : MixE (Int)) =>
 if (Dat.Ix s11.2.1 (Dat.xlen s11.2.2.2.2.1)) then if (Dat.XPt s11.2.2.2.2.2 s11.2.2.2.2.1 (Dat.toN s11.2.1)) then if (Dat.XPt s11.2.2.2.2.2 s11.2.2.2.2.1 (Dat.toN s11.2.1)) then Dat.bnd (Dat.xset s11.2.2.2.2.2 s11.2.2.2.2.1 (Dat.toN s11.2.1) x26) fun (x33 : List (List (MixE (Int)))) =>
 Dat.bnd (Dat.wrap .i64 (Dat.add s11.1 x15)) fun (x34 : Int) =>
 Dat.bnd (Dat.wrap .i64 (Dat.add s11.2.1 1)) fun (x35 : Int) =>
 k12 (x34, (x35, (s11.2.2.1, (s11.2.2.2.1, (s11.2.2.2.2.1, x33)))))
 else none
 else none
 else none
 else none
 else none
 else none
 else none
 else none
 else some ((s11.2.2.2.1, s11.2.2.2.2.2), (s11.2.2.2.2.1, 0)))) (0, (0, ((Dat.xdata x2), (([] : List (List (Int))), ((Dat.xnew (α := MixE (Int)) 0 (Dat.toN (Dat.ofN (Dat.len d0.2)))), (x10 :: ([] : List (List (MixE (Int))))))))))
 else none
 else none
 else if (Dat.MkOk (Dat.ofN (Dat.len d0.2)) (Dat.ofN (Dat.len d0.2)) 24) then if (Dat.Le (Dat.addN 0 (Dat.len x2)) (Dat.len x2)) then if (Dat.Le (Dat.addN 0 (Dat.toN (Dat.ofN (Dat.len d0.2)))) (Dat.len (Dat.rep (α := List (Int)) (Dat.toN (Dat.ofN (Dat.len d0.2))) ([] : List (Int))))) then Dat.bind (Dat.mapO (fun (e42 : List (Int)) =>
 some (Dat.xdata e42)) (Dat.seg (Dat.rep (α := List (Int)) (Dat.toN (Dat.ofN (Dat.len d0.2))) ([] : List (Int))) 0 (Dat.toN (Dat.ofN (Dat.len d0.2))))) fun (x43 : List (MixE (Int))) =>
 Dat.loop (fun (s44 : (Int) × ((Int) × ((MixE (Int)) × ((List (List (Int))) × ((MixE (MixE (Int))) × (List (List (MixE (Int))))))))) k45 =>
 (bif (Dat.ilt s44.2.1 (Dat.ofN (Dat.len d0.2))) then if (Dat.Ix s44.2.1 (Dat.len d0.2)) then Dat.bnd (Dat.get d0.2 (Dat.toN s44.2.1) 0) fun (x48 : Int) =>
 Dat.bnd (Dat.wrap .i64 (Dat.add s44.1 x48)) fun (x49 : Int) =>
 Dat.bnd (Dat.wrap .i64 (Dat.add s44.1 x48)) fun (x50 : Int) =>
 if (Dat.XCut s44.2.2.2.1 s44.2.2.1) then if (Dat.Bd x50 (Dat.xlen s44.2.2.1)) then if (Dat.Bd x49 (Dat.toN x50)) then if (Dat.Bd s44.1 (Dat.toN x49)) then Dat.bnd (Dat.xcut s44.2.2.1 (Dat.toN s44.1) (Dat.toN x49)) fun (x59 : MixE (Int)) =>
 if (Dat.Ix s44.2.1 (Dat.xlen s44.2.2.2.2.1)) then if (Dat.XPt s44.2.2.2.2.2 s44.2.2.2.2.1 (Dat.toN s44.2.1)) then if (Dat.XPt s44.2.2.2.2.2 s44.2.2.2.2.1 (Dat.toN s44.2.1)) then Dat.bnd (Dat.xset s44.2.2.2.2.2 s44.2.2.2.2.1 (Dat.toN s44.2.1) x59) fun (x66 : List (List (MixE (Int)))) =>
 Dat.bnd (Dat.wrap .i64 (Dat.add s44.1 x48)) fun (x67 : Int) =>
 Dat.bnd (Dat.wrap .i64 (Dat.add s44.2.1 1)) fun (x68 : Int) =>
 k45 (x67, (x68, (s44.2.2.1, (s44.2.2.2.1, (s44.2.2.2.2.1, x66)))))
 else none
 else none
 else none
 else none
 else none
 else none
 else none
 else none
 else some ((s44.2.2.2.1, s44.2.2.2.2.2), (s44.2.2.2.2.1, 0)))) (0, (0, ((Dat.xnew (α := Int) 0 (Dat.len x2)), (((Dat.seg x2 0 (Dat.len x2)) :: ([] : List (List (Int)))), ((Dat.xnew (α := MixE (Int)) 0 (Dat.toN (Dat.ofN (Dat.len d0.2)))), (x43 :: ([] : List (List (MixE (Int))))))))))
 else none
 else none
 else none))
def sp100027_27 : List LSpec × List Nat := ([{ id := 2700, known := true, toks := [(8000008, (.int .u8)), (8000009, (.mix 1000008 (.int .u8)))], items := [.slot 10 (.val (.int .i64)), .slot 32 (.val (.int .i64)), .slot 8 (.val (.mix 1000008 (.int .u8))), .rows 1000008 (.int .u8), .slot 9 (.val (.mix 1000009 (.mix 1000008 (.int .u8)))), .rows 1000009 (.mix 1000008 (.int .u8))], junk := [33, 34, 35, 36, 11, 12, 37, 38, 39, 40, 41, 42, 43, 44, 45, 46, 47, 48, 49, 50, 51, 52], tails := [] }], [])
def spt100027 : Tab (List LSpec × List Nat) := (.node (.node (.node .leaf none (.node .leaf none (.node .leaf (some sp100027_27) .leaf))) none .leaf) none .leaf)
def spf100027 (f : Nat) : List LSpec × List Nat := (spt100027.get f).getD ([], [])
noncomputable def r_num_Cut_r : RFn := { args := [(.list (.int .u8)), (.list (.int .i64))], objs := [(.int .u8), (.mix 0 (.int .u8))], res := [(.mix 1 (.mix 0 (.int .u8))), (.int .i64)], fn := num_Cut_r }
theorem rd_num_Cut_r : OwnR Try.prog cfg 27 r_num_Cut_r := fnR spf100027 [] (l := [(38, p_num_Size), (36, p_slices_Clone_byte_byte)]) (lo := [(36, o_slices_Clone_byte_byte)]) (lr := []) cfgOk cfgGlob (.cons pd_num_Size (.cons pd_slices_Clone_byte_byte .nil)) (.cons od_slices_Clone_byte_byte.1 .nil) .nil (fun d => by kernel_rfl)

/-- bytes.Equal -/
noncomputable def bytes_Equal (d0 : (List (Int)) × (List (Int))) : Option (Bool) :=
 Dat.bnd (Dat.str d0.1) fun (x1 : List (UInt8)) =>
 Dat.bnd (Dat.str d0.2) fun (x2 : List (UInt8)) =>
 some (Dat.seq x1 x2)
noncomputable def p_bytes_Equal : PFn := { args := [(.list (.int .u8)), (.list (.int .u8))], res := [.bool], fn := bytes_Equal }
theorem pd_bytes_Equal : PureD Try.prog cfg 28 p_bytes_Equal := fnD sp0 (l := []) cfgOk cfgGlob .nil (fun d => by kernel_rfl)

/-- thimblerig/num.shiftTogether -/
noncomputable def num_shiftTogether (d0 : List (Int)) : Option (Int) :=
 Dat.loop (fun (s1 : (Int) × (Int)) k2 =>
 (bif (Dat.ilt s1.2 (Dat.ofN (Dat.len d0))) then if (Dat.Ix s1.2 (Dat.len d0)) then Dat.bnd (Dat.get d0 (Dat.toN s1.2) 0) fun (x5 : Int) =>
 Dat.bnd (Dat.wrap .u64 x5) fun (x6 : Int) =>
 Dat.bnd (Dat.wrap .i64 (Dat.mul 8 s1.2)) fun (x7 : Int) =>
 if (Dat.Neg x7) then none
 else Dat.bnd (Dat.shl .u64 x6 x7) fun (x10 : Int) =>
 Dat.bnd (Dat.bor .u64 s1.1 x10) fun (x11 : Int) =>
 Dat.bnd (Dat.wrap .i64 (Dat.add s1.2 1)) fun (x12 : Int) =>
 k2 (x11, x12)
 else none
 else some s1.1)) (0, 0)
noncomputable def p_num_shiftTogether : PFn := { args := [(.list (.int .u8))], res := [(.int .u64)], fn := num_shiftTogether }
def sp47_47 : List LSpec × List Nat := ([{ id := 4700, known := true, toks := [], items := [.slot 3 (.val (.int .u64)), .slot 7 (.val (.int .i64))], junk := [8, 9, 4, 10, 11, 12, 13, 14, 15, 16, 17, 18, 19, 20], tails := [] }], [])
def spt47 : Tab (List LSpec × List Nat) := (.node (.node (.node (.node (.node .leaf none (.node .leaf (some sp47_47) .leaf)) none .leaf) none .leaf) none .leaf) none .leaf)
def spf47 (f : Nat) : List LSpec × List Nat := (spt47.get f).getD ([], [])
theorem pd_num_shiftTogether : PureD Try.prog cfg 47 p_num_shiftTogether := fnD spf47 (l := []) cfgOk cfgGlob .nil (fun d => by kernel_rfl)

/-- thimblerig/num.Take -/
noncomputable def num_Take (d0 : (List (Int)) × (List (Int))) : Option ((List (Int)) × (Int)) :=
 Dat.bind (num_together (d0.2, (1, 8))) fun (x1 : (Int) × (Int)) =>
 (bif (Dat.ine x1.2 0) then some (([] : List (Int)), x1.2)
 else Dat.bind (num_Cut (d0.1, d0.2)) fun (x2 : (List (List (Int))) × (Int)) =>
 (bif (Dat.ine x2.2 0) then some (([] : List (Int)), x2.2)
 else if (Dat.MkOk (Dat.ofN (Dat.len x2.1)) (Dat.ofN (Dat.len x2.1)) 8) then Dat.loop (fun (s5 : (Int) × (List (Int))) k6 =>
 (bif (Dat.ilt s5.1 (Dat.ofN (Dat.len x2.1))) then if (Dat.Ix s5.1 (Dat.len x2.1)) then Dat.bnd (Dat.get x2.1 (Dat.toN s5.1) ([] : List (Int))) fun (x9 : List (Int)) =>
 Dat.bind (num_shiftTogether x9) fun (x10 : Int) =>
 if (Dat.In s5.1 (Dat.toN (Dat.ofN (Dat.len x2.1)))) then if (Dat.Lt (Dat.addN 0 (Dat.toN s5.1)) (Dat.len s5.2)) then Dat.bnd (Dat.set s5.2 (Dat.addN 0 (Dat.toN s5.1)) x10) fun (x15 : List (Int)) =>
 Dat.bnd (Dat.wrap .i64 (Dat.add s5.1 1)) fun (x16 : Int) =>
 k6 (x16, x15)
 else none
 else none
 else none
 else if (Dat.Le (Dat.addN 0 (Dat.toN (Dat.ofN (Dat.len x2.1)))) (Dat.len s5.2)) then some ((Dat.seg s5.2 0 (Dat.toN (Dat.ofN (Dat.len x2.1)))), 0)
 else none)) (0, (Dat.rep (α := Int) (Dat.toN (Dat.ofN (Dat.len x2.1))) 0))
 else none))
noncomputable def p_num_Take : PFn := { args := [(.list (.int .u8)), (.list (.int .i64))], res := [(.list (.int .u64)), (.int .i64)], fn := num_Take }
def sp39_39 : List LSpec × List Nat := ([{ id := 3900, known := true, toks := [], items := [.slot 35 (.val (.int .i64)), .vec 1000010 (.int .u64)], junk := [36, 37, 38, 39, 11, 12, 40, 41, 42, 43, 44, 45], tails := [] }], [])
def spt39 : Tab (List LSpec × List Nat) := (.node (.node (.node (.node .leaf none (.node (.node .leaf (some sp39_39) .leaf) none .leaf)) none .leaf) none .leaf) none .leaf)
def spf39 (f : Nat) : List LSpec × List Nat := (spt39.get f).getD ([], [])
noncomputable def o_num_Take : OFn := { args := [(.list (.int .u8)), (.list (.int .i64))], ores := [(.own (.int .u64)), (.plain (.int .i64))], fn := num_Take }
theorem od_num_Take : OwnD Try.prog cfg 39 o_num_Take ∧ PureD Try.prog cfg 39 o_num_Take.pfn := fnO spf39 [] (l := [(43, p_num_together), (27, p_num_Cut), (47, p_num_shiftTogether)]) (lo := []) cfgOk cfgGlob (.cons pd_num_together (.cons pd_num_Cut (.cons pd_num_shiftTogether .nil))) .nil (fun d => by kernel_rfl)
theorem pd_num_Take : PureD Try.prog cfg 39 p_num_Take := od_num_Take.2

/-- thimblerig/slot.Check -/
noncomputable def slot_Check (d0 : ((Int) × ((Int) × ((Int) × ((Int) × (Unit))))) × ((Int) × ((Int) × ((List (Int)) × (Unit))))) : Option (Int) :=
 Dat.bind (slot_Slots (d0.1.1, (d0.1.2.1, (d0.1.2.2.1, (d0.1.2.2.2.1, ()))))) fun (x1 : (Int) × (Int)) =>
 (bif (Dat.ine x1.2 0) then some x1.2
 else Dat.bind (geo_Leaves d0.1.2.2.1) fun (x2 : (Int) × (Int)) =>
 (bif (Dat.ilt d0.2.1 0) then some 8
 else (bif (Dat.pickB false true (Dat.ige d0.2.1 d0.1.1)) then some 8
 else (bif (Dat.pickB false true (Dat.ilt d0.2.2.1 0)) then some 8
 else (bif (Dat.pickB false true (Dat.ige d0.2.2.1 x2.1)) then some 8
 else (bif (Dat.pickB false true (Dat.ine (Dat.ofN (Dat.len d0.2.2.2.1)) d0.1.2.1)) then some 8
 else some 0))))))
noncomputable def p_slot_Check : PFn := { args := [(.pair (.int .i64) (.pair (.int .i64) (.pair (.int .i64) (.pair (.int .i64) .unit)))), (.pair (.int .i64) (.pair (.int .i64) (.pair (.list (.int .u8)) .unit)))], res := [(.int .i64)], fn := slot_Check }
theorem pd_slot_Check : PureD Try.prog cfg 13 p_slot_Check := fnD sp0 (l := [(10, p_slot_Slots), (31, p_geo_Leaves)]) cfgOk cfgGlob (.cons pd_slot_Slots (.cons pd_geo_Leaves .nil)) (fun d => by kernel_rfl)

/-- thimblerig/slot.Read -/
noncomputable def slot_Read (d0 : ((Int) × ((Int) × ((Int) × ((Int) × (Unit))))) × (List (Int))) : Option (((Int) × ((Int) × ((List (Int)) × (Unit)))) × ((Bool) × (Int))) :=
 Dat.bind (slot_None (d0.1.1, (d0.1.2.1, (d0.1.2.2.1, (d0.1.2.2.2.1, ()))))) fun (x1 : (List (Int)) × (Int)) =>
 (bif (Dat.ine x1.2 0) then some ((0, (0, (([] : List (Int)), ()))), (false, x1.2))
 else Dat.bind (slot_parts (d0.1.1, (d0.1.2.1, (d0.1.2.2.1, (d0.1.2.2.2.1, ()))))) fun (x2 : List (Int)) =>
 if (Dat.EqN (Dat.len (Dat.rep 3 0)) 3) then if (Dat.Le 3 (Dat.len (Dat.norm 3 x2 0))) then if (Dat.Lt 0 3) then if (Dat.Le (Dat.addN 0 (Dat.subN 3 0)) (Dat.len (Dat.norm 3 x2 0))) then Dat.bind (num_Cut_r (d0.2, (Dat.seg (Dat.norm 3 x2 0) 0 (Dat.subN 3 0)))) fun (x11 : ((List (List (Int))) × (List (List (MixE (Int))))) × ((MixE (MixE (Int))) × (Int))) =>
 (bif (Dat.ine x11.2.2 0) then some ((0, (0, (([] : List (Int)), ()))), (false, x11.2.2))
 else Dat.bind (bytes_Equal (d0.2, x1.1)) fun (x12 : Bool) =>
 (bif x12 then some ((0, (0, (([] : List (Int)), ()))), (false, 0))
 else if (Dat.Ix 0 (Dat.xlen x11.2.1)) then if (Dat.XPt x11.1.2 x11.2.1 (Dat.toN 0)) then if (Dat.XPt x11.1.2 x11.2.1 (Dat.toN 0)) then Dat.bnd (Dat.xat x11.1.2 x11.2.1 (Dat.toN 0) (MixE.nil : MixE (Int))) fun (x19 : MixE (Int)) =>
 Dat.bnd (Dat.wrap .i64 (Dat.add 0 1)) fun (x20 : Int) =>
 if (Dat.XOk x11.1.1 x19) then Dat.bnd (Dat.xget x11.1.1 x19) fun (x23 : List (Int)) =>
 if (Dat.Le (Dat.addN 0 1) (Dat.len (4 :: ([] : List (Int))))) then Dat.bind (num_Take (x23, (Dat.seg (4 :: ([] : List (Int))) 0 1))) fun (x26 : (List (Int)) × (Int)) =>
 if (Dat.EqN (Dat.len x26.1) 0) then if (Dat.Ix 0 (Dat.len x26.1)) then Dat.bnd (Dat.get x26.1 (Dat.toN 0) 0) fun (x31 : Int) =>
 if (Dat.Ix x20 (Dat.xlen x11.2.1)) then if (Dat.XPt x11.1.2 x11.2.1 (Dat.toN x20)) then if (Dat.XPt x11.1.2 x11.2.1 (Dat.toN x20)) then Dat.bnd (Dat.xat x11.1.2 x11.2.1 (Dat.toN x20) (MixE.nil : MixE (Int))) fun (x38 : MixE (Int)) =>
 Dat.bnd (Dat.wrap .i64 (Dat.add x20 1)) fun (x39 : Int) =>
 if (Dat.XOk x11.1.1 x38) then Dat.bnd (Dat.xget x11.1.1 x38) fun (x42 : List (Int)) =>
 if (Dat.Le (Dat.addN 0 1) (Dat.len (4 :: ([] : List (Int))))) then Dat.bind (num_Take (x42, (Dat.seg (4 :: ([] : List (Int))) 0 1))) fun (x45 : (List (Int)) × (Int)) =>
 if (Dat.EqN (Dat.len x45.1) 0) then if (Dat.Ix 0 (Dat.len x45.1)) then Dat.bnd (Dat.get x45.1 (Dat.toN 0) 0) fun (x50 : Int) =>
 Dat.bnd (Dat.wrap .i64 x31) fun (x51 : Int) =>
 Dat.bnd (Dat.wrap .i64 (Dat.sub x51 1)) fun (x52 : Int) =>
 Dat.bnd (Dat.wrap .i64 x50) fun (x53 : Int) =>
 if (Dat.Ix x39 (Dat.xlen x11.2.1)) then if (Dat.XPt x11.1.2 x11.2.1 (Dat.toN x39)) then if (Dat.XPt x11.1.2 x11.2.1 (Dat.toN x39)) then Dat.bnd (Dat.xat x11.1.2 x11.2.1 (Dat.toN x39) (MixE.nil : MixE (Int))) fun (x60 : MixE (Int)) =>
 Dat.bnd (Dat.wrap .i64 (Dat.add x39 1)) fun (x61 : Int) =>
 if (Dat.XOk x11.1.1 x60) then Dat.bnd (Dat.xget x11.1.1 x60) fun (x64 : List (Int)) =>
 Dat.bind (slot_Check ((d0.1.1, (d0.1.2.1, (d0.1.2.2.1, (d0.1.2.2.2.1, ())))), (x52, (x53, (x64, ()))))) fun (x65 : Int) =>
 (bif (Dat.ine x65 0) then some ((0, (0, (([] : List (Int)), ()))), (false, x65))
 else if (Dat.XW x11.1.1 x60) then Dat.bnd (Dat.xget x11.1.1 x60) fun (x68 : List (Int)) =>
 some ((x52, (x53, (x68, ()))), (true, 0))
 else none)
 else none
 else none
 else none
 else none
 else none
 else if (Dat.In 0 (Dat.len x45.1)) then if (Dat.Lt (Dat.addN 0 (Dat.toN 0)) (Dat.len x45.1)) then Dat.bnd (Dat.get x45.1 (Dat.addN 0 (Dat.toN 0)) 0) fun (x73 : Int) =>
 Dat.bnd (Dat.wrap .i64 x31) fun (x74 : Int) =>
 Dat.bnd (Dat.wrap .i64 (Dat.sub x74 1)) fun (x75 : Int) =>
 Dat.bnd (Dat.wrap .i64 x73) fun (x76 : Int) =>
 if (Dat.Ix x39 (Dat.xlen x11.2.1)) then if (Dat.XPt x11.1.2 x11.2.1 (Dat.toN x39)) then if (Dat.XPt x11.1.2 x11.2.1 (Dat.toN x39)) then Dat.bnd (Dat.xat x11.1.2 x11.2.1 (Dat.toN x39) (MixE.nil : MixE (Int))) fun (x83 : MixE (Int)) =>
 Dat.bnd (Dat.wrap .i64 (Dat.add x39 1)) fun (x84 : Int) =>
 if (Dat.XOk x11.1.1 x83) then Dat.bnd (Dat.xget x11.1.1 x83) fun (x87 : List (Int)) =>
 Dat.bind (slot_Check ((d0.1.1, (d0.1.2.1, (d0.1.2.2.1, (d0.1.2.2.2.1, ())))), (x75, (x76, (x87, ()))))) fun (x88 : Int) =>
 (bif (Dat.ine x88 0) then some ((0, (0, (([] : List (Int)), ()))), (false, x88))
 else if (Dat.XW x11.1.1 x83) then Dat.bnd (Dat.xget x11.1.1 x83) fun (x91 : List (Int)) =>
 some ((x75, (x76, (x91, ()))), (true, 0))
 else none)
 else none
 else none
 else none
 else none
 else none
 else none
 else none
 else none
 else none
 else none
 else none
 else none
 else if (Dat.In 0 (Dat.len x26.1)) then if (Dat.Lt (Dat.addN 0 (Dat.toN 0)) (Dat.len x26.1)) then Dat.bnd (Dat.get x26.1 (Dat.addN 0 (Dat.toN 0)) 0) fun (x96 : Int) =>
 if (Dat.Ix x20 (Dat.xlen x11.2.1)) then if (Dat.XPt x11.1.2 x11.2.1 (Dat.toN x20)) then if (Dat.XPt x11.1.2 x11.2.1 (Dat.toN x20)) then Dat.bnd (Dat.xat x11.1.2 x11.2.1 (Dat.toN x20) (MixE.nil : MixE (Int))) fun (x103 : MixE (Int)) =>
 Dat.bnd (Dat.wrap .i64 (Dat.add x20 1)) fun (x104 : Int) =>
 if (Dat.XOk x11.1.1 x103) then Dat.bnd (Dat.xget x11.1.1 x103) fun (x107 : List (Int)) =>
 if (Dat.Le (Dat.addN 0 1) (Dat.len (4 :: ([] : List (Int))))) then Dat.bind (num_Take (x107, (Dat.seg (4 :: ([] : List (Int))) 0 1))) fun (x110 : (List (Int)) × (Int)) =>
 if (Dat.EqN (Dat.len x110.1) 0) then if (Dat.Ix 0 (Dat.len x110.1)) then Dat.bnd (Dat.get x110.1 (Dat.toN 0) 0) fun (x115 : Int) =>
 Dat.bnd (Dat.wrap .i64 x96) fun (x116 : Int) =>
 Dat.bnd (Dat.wrap .i64 (Dat.sub x116 1)) fun (x117 : Int) =>
 Dat.bnd (Dat.wrap .i64 x115) fun (x118 : Int) =>
 if (Dat.Ix x104 (Dat.xlen x11.2.1)) then if (Dat.XPt x11.1.2 x11.2.1 (Dat.toN x104)) then if (Dat.XPt x11.1.2 x11.2.1 (Dat.toN x104)) then Dat.bnd (Dat.xat x11.1.2 x11.2.1 (Dat.toN x104) (MixE.nil : MixE (Int))) fun (x125 : MixE (Int)) =>
 Dat.bnd (Dat.wrap .i64 (Dat.add x104 1)) fun (x126 : Int) =>
 if (Dat.XOk x11.1.1 x125) then Dat.bnd (Dat.xget x11.1.1 x125) fun (x129 : List (Int)) =>
 Dat.bind (slot_Check ((d0.1.1, (d0.1.2.1, (d0.1.2.2.1, (d0.1.2.2.2.1, ())))), (x117, (x118, (x129, ()))))) fun (x130 : Int) =>
 (bif (Dat.ine x130 0) then some ((0, (0, (([] : List (Int)), ()))), (false, x130))
 else if (Dat.XW x11.1.1 x125) then Dat.bnd (Dat.xget x11.1.1 x125) fun (x133 : List (Int)) =>
 some ((x117, (x118, (x133, ()))), (true, 0))
 else none)
 else none
 else none
 else none
 else none
 else none
 else if (Dat.In 0 (Dat.len x110.1)) then if (Dat.Lt (Dat.addN 0 (Dat.toN 0)) (Dat.len x110.1)) then Dat.bnd (Dat.get x110.1 (Dat.addN 0 (Dat.toN 0)) 0) fun (x138 : Int) =>
 Dat.bnd (Dat.wrap .i64 x96) fun (x139 : Int) =>
 Dat.bnd (Dat.wrap .i64 (Dat.sub x139 1)) fun (x140 : Int) =>
 Dat.bnd (Dat.wrap .i64 x138) fun (x141 : Int) =>
 if (Dat.Ix x104 (Dat.xlen x11.2.1)) then if (Dat.XPt x11.1.2 x11.2.1 (Dat.toN x104)) then if (Dat.XPt x11.1.2 x11.2.1 (Dat.toN x104)) then Dat.bnd (Dat.xat x11.1.2 x11.2.1 (Dat.toN x104) (MixE.nil : MixE (Int))) fun (x148 : MixE (Int)) =>
 Dat.bnd (Dat.wrap .i64 (Dat.add x104 1)) fun (x149 : Int) =>
 if (Dat.XOk x11.1.1 x148) then Dat.bnd (Dat.xget x11.1.1 x148) fun (x152 : List (Int)) =>
 Dat.bind (slot_Check ((d0.1.1, (d0.1.2.1, (d0.1.2.2.1, (d0.1.2.2.2.1, ())))), (x140, (x141, (x152, ()))))) fun (x153 : Int) =>
 (bif (Dat.ine x153 0) then some ((0, (0, (([] : List (Int)), ()))), (false, x153))
 else if (Dat.XW x11.1.1 x148) then Dat.bnd (Dat.xget x11.1.1 x148) fun (x156 : List (Int)) =>
 some ((x140, (x141, (x156, ()))), (true, 0))
 else none)
 else none
 else none
 else none
 else none
 else none
 else none
 else none
 else none
 else none
 else none
 else none
 else none
 else none
 else none
 else none
 else none
 else none
 else none))
 else none
 else Dat.bind (num_Cut_r (d0.2, ([] : List (Int)))) fun (x157 : ((List (List (Int))) × (List (List (MixE (Int))))) × ((MixE (MixE (Int))) × (Int))) =>
 (bif (Dat.ine x157.2.2 0) then some ((0, (0, (([] : List (Int)), ()))), (false, x157.2.2))
 else Dat.bind (bytes_Equal (d0.2, x1.1)) fun (x158 : Bool) =>
 (bif x158 then some ((0, (0, (([] : List (Int)), ()))), (false, 0))
 else if (Dat.Ix 0 (Dat.xlen x157.2.1)) then if (Dat.XPt x157.1.2 x157.2.1 (Dat.toN 0)) then if (Dat.XPt x157.1.2 x157.2.1 (Dat.toN 0)) then Dat.bnd (Dat.xat x157.1.2 x157.2.1 (Dat.toN 0) (MixE.nil : MixE (Int))) fun (x165 : MixE (Int)) =>
 Dat.bnd (Dat.wrap .i64 (Dat.add 0 1)) fun (x166 : Int) =>
 if (Dat.XOk x157.1.1 x165) then Dat.bnd (Dat.xget x157.1.1 x165) fun (x169 : List (Int)) =>
 if (Dat.Le (Dat.addN 0 1) (Dat.len (4 :: ([] : List (Int))))) then Dat.bind (num_Take (x169, (Dat.seg (4 :: ([] : List (Int))) 0 1))) fun (x172 : (List (Int)) × (Int)) =>
 if (Dat.EqN (Dat.len x172.1) 0) then if (Dat.Ix 0 (Dat.len x172.1)) then Dat.bnd (Dat.get x172.1 (Dat.toN 0) 0) fun (x177 : Int) =>
 if (Dat.Ix x166 (Dat.xlen x157.2.1)) then if (Dat.XPt x157.1.2 x157.2.1 (Dat.toN x166)) then if (Dat.XPt x157.1.2 x157.2.1 (Dat.toN x166)) then Dat.bnd (Dat.xat x157.1.2 x157.2.1 (Dat.toN x166) (MixE.nil : MixE (Int))) fun (x184 : MixE (Int)) =>
 Dat.bnd (Dat.wrap .i64 (Dat.add x166 1)) fun (x185 : Int) =>
 if (Dat.XOk x157.1.1 x184) then Dat.bnd (Dat.xget x157.1.1 x184) fun (x188 : List (Int)) =>
 if (Dat.Le (Dat.addN 0 1) (Dat.len (4 :: ([] : List (Int))))) then Dat.bind (num_Take (x188, (Dat.seg (4 :: ([] : List (Int))) 0 1))) fun (x191 : (List (Int)) × (Int)) =>
 if (Dat.EqN (Dat.len x191.1) 0) then if (Dat.Ix 0 (Dat.len x191.1)) then Dat.bnd (Dat.get x191.1 (Dat.toN 0) 0) fun (x196 : Int) =>
 Dat.bnd (Dat.wrap .i64 x177) fun (x197 : Int) =>
 Dat.bnd (Dat.wrap .i64 (Dat.sub x197 1)) fun (x198 : Int) =>
 Dat.bnd (Dat.wrap .i64 x196) fun (x199 : Int) =>
 if (Dat.Ix x185 (Dat.xlen x157.2.1)) then if (Dat.XPt x157.1.2 x157.2.1 (Dat.toN x185)) then if (Dat.XPt x157.1.2 x157.2.1 (Dat.toN x185)) then Dat.bnd (Dat.xat x157.1.2 x157.2.1 (Dat.toN x185) (MixE.nil : MixE (Int))) fun (x206 : MixE (Int)) =>
 Dat.bnd (Dat.wrap .i64 (Dat.add x185 1)) fun (x207 : Int) =>
 if (Dat.XOk x157.1.1 x206) then Dat.bnd (Dat.xget x157.1.1 x206) fun (x210 : List (Int)) =>
 Dat.bind (slot_Check ((d0.1.1, (d0.1.2.1, (d0.1.2.2.1, (d0.1.2.2.2.1, ())))), (x198, (x199, (x210, ()))))) fun (x211 : Int) =>
 (bif (Dat.ine x211 0) then some ((0, (0, (([] : List (Int)), ()))), (false, x211))
 else if (Dat.XW x157.1.1 x206) then Dat.bnd (Dat.xget x157.1.1 x206) fun (x214 : List (Int)) =>
 some ((x198, (x199, (x214, ()))), (true, 0))
 else none)
 else none
 else none
 else none
 else none
 else none
 else if (Dat.In 0 (Dat.len x191.1)) then if (Dat.Lt (Dat.addN 0 (Dat.toN 0)) (Dat.len x191.1)) then Dat.bnd (Dat.get x191.1 (Dat.addN 0 (Dat.toN 0)) 0) fun (x219 : Int) =>
 Dat.bnd (Dat.wrap .i64 x177) fun (x220 : Int) =>
 Dat.bnd (Dat.wrap .i64 (Dat.sub x220 1)) fun (x221 : Int) =>
 Dat.bnd (Dat.wrap .i64 x219) fun (x222 : Int) =>
 if (Dat.Ix x185 (Dat.xlen x157.2.1)) then if (Dat.XPt x157.1.2 x157.2.1 (Dat.toN x185)) then if (Dat.XPt x157.1.2 x157.2.1 (Dat.toN x185)) then Dat.bnd (Dat.xat x157.1.2 x157.2.1 (Dat.toN x185) (MixE.nil : MixE (Int))) fun (x229 : MixE (Int)) =>
 Dat.bnd (Dat.wrap .i64 (Dat.add x185 1)) fun (x230 : Int) =>
 if (Dat.XOk x157.1.1 x229) then Dat.bnd (Dat.xget x157.1.1 x229) fun (x233 : List (Int)) =>
 Dat.bind (slot_Check ((d0.1.1, (d0.1.2.1, (d0.1.2.2.1, (d0.1.2.2.2.1, ())))), (x221, (x222, (x233, ()))))) fun (x234 : Int) =>
 (bif (Dat.ine x234 0) then some ((0, (0, (([] : List (Int)), ()))), (false, x234))
 else if (Dat.XW x157.1.1 x229) then Dat.bnd (Dat.xget x157.1.1 x229) fun (x237 : List (Int)) =>
 some ((x221, (x222, (x237, ()))), (true, 0))
 else none)
 else none
 else none
 else none
 else none
 else none
 else none
 else none
 else none
 else none
 else none
 else none
 else none
 else if (Dat.In 0 (Dat.len x172.1)) then if (Dat.Lt (Dat.addN 0 (Dat.toN 0)) (Dat.len x172.1)) then Dat.bnd (Dat.get x172.1 (Dat.addN 0 (Dat.toN 0)) 0) fun (x242 : Int) =>
 if (Dat.Ix x166 (Dat.xlen x157.2.1)) then if (Dat.XPt x157.1.2 x157.2.1 (Dat.toN x166)) then if (Dat.XPt x157.1.2 x157.2.1 (Dat.toN x166)) then Dat.bnd (Dat.xat x157.1.2 x157.2.1 (Dat.toN x166) (MixE.nil : MixE (Int))) fun (x249 : MixE (Int)) =>
 Dat.bnd (Dat.wrap .i64 (Dat.add x166 1)) fun (x250 : Int) =>
 if (Dat.XOk x157.1.1 x249) then Dat.bnd (Dat.xget x157.1.1 x249) fun (x253 : List (Int)) =>
 if (Dat.Le (Dat.addN 0 1) (Dat.len (4 :: ([] : List (Int))))) then Dat.bind (num_Take (x253, (Dat.seg (4 :: ([] : List (Int))) 0 1))) fun (x256 : (List (Int)) × (Int)) =>
 if (Dat.EqN (Dat.len x256.1) 0) then if (Dat.Ix 0 (Dat.len x256.1)) then Dat.bnd (Dat.get x256.1 (Dat.toN 0) 0) fun (x261 : Int) =>
 Dat.bnd (Dat.wrap .i64 x242) fun (x262 : Int) =>
 Dat.bnd (Dat.wrap .i64 (Dat.sub x262 1)) fun (x263 : Int) =>
 Dat.bnd (Dat.wrap .i64 x261) fun (x264 : Int) =>
 if (Dat.Ix x250 (Dat.xlen x157.2.1)) then if (Dat.XPt x157.1.2 x157.2.1 (Dat.toN x250)) then if (Dat.XPt x157.1.2 x157.2.1 (Dat.toN x250)) then Dat.bnd (Dat.xat x157.1.2 x157.2.1 (Dat.toN x250) (MixE.nil : MixE (Int))) fun (x271 : MixE (Int)) =>
 Dat.bnd (Dat.wrap .i64 (Dat.add x250 1)) fun (x272 : Int) =>
 if (Dat.XOk x157.1.1 x271) then Dat.bnd (Dat.xget x157.1.1 x271) fun (x275 : List (Int)) =>
 Dat.bind (slot_Check ((d0.1.1, (d0.1.2.1, (d0.1.2.2.1, (d0.1.2.2.2.1, ())))), (x263, (x264, (x275, ()))))) fun (x276 : Int) =>
 (bif (Dat.ine x276 0) then some ((0, (0, (([] : List (Int)), ()))), (false, x276))
 else if (Dat.XW x157.1.1 x271) then Dat.bnd (Dat.xget x157.1.1 x271) fun (x279 : List (Int)) =>
 some ((x263, (x264, (x279, ()))), (true, 0))
 else none)
 else none
 else none
 else none
 else none
 else none
 else if (Dat.In 0 (Dat.len x256.1)) then if (Dat.Lt (Dat.addN 0 (Dat.toN 0)) (Dat.len x256.1)) then Dat.bnd (Dat.get x256.1 (Dat.addN 0 (Dat.toN 0)) 0) fun (x284 : Int) =>
 Dat.bnd (Dat.wrap .i64 x242) fun (x285 : Int) =>
 Dat.bnd (Dat.wrap .i64 (Dat.sub x285 1)) fun (x286 : Int) =>
 Dat.bnd (Dat.wrap .i64 x284) fun (x287 : Int) =>
 if (Dat.Ix x250 (Dat.xlen x157.2.1)) then if (Dat.XPt x157.1.2 x157.2.1 (Dat.toN x250)) then if (Dat.XPt x157.1.2 x157.2.1 (Dat.toN x250)) then Dat.bnd (Dat.xat x157.1.2 x157.2.1 (Dat.toN x250) (MixE.nil : MixE (Int))) fun (x294 : MixE (Int)) =>
 Dat.bnd (Dat.wrap .i64 (Dat.add x250 1)) fun (x295 : Int) =>
 if (Dat.XOk x157.1.1 x294) then Dat.bnd (Dat.xget x157.1.1 x294) fun (x298 : List (Int)) =>
 Dat.bind (slot_Check ((d0.1.1, (d0.1.2.1, (d0.1.2.2.1, (d0.1.2.2.2.1, ())))), (x286, (x287, (x298, ()))))) fun (x299 : Int) =>
 (bif (Dat.ine x299 0) then some ((0, (0, (([] : List (Int)), ()))), (false, x299))
 else if (Dat.XW x157.1.1 x294) then Dat.bnd (Dat.xget x157.1.1 x294) fun (x302 : List (Int)) =>
 some ((x286, (x287, (x302, ()))), (true, 0))
 else none)
 else none
 else none
 else none
 else none
 else none
 else none
 else none
 else none
 else none
 else none
 else none
 else none
 else none
 else none
 else none
 else none
 else none
 else none))
 else none
 else none)
noncomputable def p_slot_Read : PFn := { args := [(.pair (.int .i64) (.pair (.int .i64) (.pair (.int .i64) (.pair (.int .i64) .unit)))), (.list (.int .u8))], res := [(.pair (.int .i64) (.pair (.int .i64) (.pair (.list (.int .u8)) .unit))), .bool, (.int .i64)], fn := slot_Read }
noncomputable def o_slot_Read : OFn := { args := [(.pair (.int .i64) (.pair (.int .i64) (.pair (.int .i64) (.pair (.int .i64) .unit)))), (.list (.int .u8))], ores := [(.pair (.plain (.int .i64)) (.pair (.plain (.int .i64)) (.pair (.own (.int .u8)) (.plain .unit)))), (.plain .bool), (.plain (.int .i64))], fn := slot_Read }
theorem od_slot_Read : OwnD Try.prog cfg 9 o_slot_Read ∧ PureD Try.prog cfg 9 o_slot_Read.pfn := fnOr sp0 [] (l := [(7, p_slot_None), (26, p_slot_parts), (28, p_bytes_Equal), (39, p_num_Take), (13, p_slot_Check)]) (lo := [(39, o_num_Take)]) (lr := [(27, r_num_Cut_r)]) cfgOk cfgGlob (.cons pd_slot_None (.cons pd_slot_parts (.cons pd_bytes_Equal (.cons pd_num_Take (.cons pd_slot_Check .nil))))) (.cons od_num_Take.1 .nil) (.cons rd_num_Cut_r .nil) (fun d => by kernel_rfl)
theorem pd_slot_Read : PureD Try.prog cfg 9 p_slot_Read := od_slot_Read.2

/-- thimblerig/thimblerigref07.May -/
noncomputable def ref07_May (d0 : Int) : Option (Bool) :=
 (bif (Dat.ige d0 1) then some (Dat.pickB true (Dat.ile d0 6) false)
 else some false)
noncomputable def p_ref07_May : PFn := { args := [(.int .i64)], res := [.bool], fn := ref07_May }
theorem pd_ref07_May : PureD Try.prog cfg 41 p_ref07_May := fnD sp0 (l := []) cfgOk cfgGlob .nil (fun d => by kernel_rfl)

/-- thimblerig/thimblerigref07.Many -/
noncomputable def ref07_Many (d0 : Int) : Option (Int) :=
 Dat.loop (fun (s1 : (Int) × (Int)) k2 =>
 (bif (Dat.ilt s1.2 d0) then Dat.bnd (Dat.wrap .i64 (Dat.mul 2 s1.1)) fun (x3 : Int) =>
 Dat.bnd (Dat.wrap .i64 (Dat.add s1.2 1)) fun (x4 : Int) =>
 k2 (x3, x4)
 else some s1.1)) (1, 0)
noncomputable def p_ref07_Many : PFn := { args := [(.int .i64)], res := [(.int .i64)], fn := ref07_Many }
def sp42_42 : List LSpec × List Nat := ([{ id := 4200, known := true, toks := [], items := [.slot 3 (.val (.int .i64)), .slot 4 (.val (.int .i64))], junk := [5, 6, 7, 10, 11, 8, 9], tails := [] }], [])
def spt42 : Tab (List LSpec × List Nat) := (.node .leaf none (.node .leaf none (.node (.node .leaf none (.node (.node .leaf (some sp42_42) .leaf) none .leaf)) none .leaf)))
def spf42 (f : Nat) : List LSpec × List Nat := (spt42.get f).getD ([], [])
theorem pd_ref07_Many : PureD Try.prog cfg 42 p_ref07_Many := fnD spf42 (l := []) cfgOk cfgGlob .nil (fun d => by kernel_rfl)

/-- thimblerig/thimblerigref09.Many -/
noncomputable def ref09_Many (d0 : (Int) × ((Int) × ((Int) × ((Int) × (Unit))))) : Option (Int) :=
 (bif (Dat.ilt d0.1 1) then some 0
 else (bif (Dat.pickB false true (Dat.igt d0.1 64)) then some 0
 else (bif (Dat.pickB false true (Dat.ilt d0.2.1 1)) then some 0
 else (bif (Dat.pickB false true (Dat.igt d0.2.1 32)) then some 0
 else Dat.bind (ref07_May d0.2.2.1) fun (x1 : Bool) =>
 (bif (Dat.pickB false true (Dat.bnot x1)) then some 0
 else Dat.bind (ref07_Many d0.2.2.1) fun (x2 : Int) =>
 (bif (Dat.pickB false true (Dat.ilt x2 d0.1)) then some 0
 else Dat.loop (fun (s3 : Int) k4 =>
 (bif (Dat.ile s3 4) then Dat.bnd (Dat.wrap .i64 (Dat.add 8 d0.2.1)) fun (x5 : Int) =>
 Dat.bnd (Dat.wrap .i64 (Dat.mul s3 x5)) fun (x6 : Int) =>
 Dat.bnd (Dat.wrap .i64 (Dat.add x6 64)) fun (x7 : Int) =>
 (bif (Dat.ieq d0.2.2.2.1 x7) then some s3
 else Dat.bnd (Dat.wrap .i64 (Dat.add s3 1)) fun (x8 : Int) =>
 k4 x8)
 else some 0)) 1))))))
noncomputable def p_ref09_Many : PFn := { args := [(.pair (.int .i64) (.pair (.int .i64) (.pair (.int .i64) (.pair (.int .i64) .unit))))], res := [(.int .i64)], fn := ref09_Many }
def sp32_32 : List LSpec × List Nat := ([{ id := 3200, known := true, toks := [], items := [.slot 3 (.val (.int .i64))], junk := [36, 37, 40, 41, 42, 43, 44, 45, 46, 47, 48, 49, 2, 38, 39], tails := [] }], [])
def spt32 : Tab (List LSpec × List Nat) := (.node .leaf none (.node (.node (.node (.node (.node .leaf (some sp32_32) .leaf) none .leaf) none .leaf) none .leaf) none .leaf))
def spf32 (f : Nat) : List LSpec × List Nat := (spt32.get f).getD ([], [])
theorem pd_ref09_Many : PureD Try.prog cfg 32 p_ref09_Many := fnD spf32 (l := [(41, p_ref07_May), (42, p_ref07_Many)]) cfgOk cfgGlob (.cons pd_ref07_May (.cons pd_ref07_Many .nil)) (fun d => by kernel_rfl)

/-- thimblerig/thimblerigref01.Same -/
noncomputable def ref01_Same (d0 : (List (Int)) × (List (Int))) : Option (Bool) :=
 Dat.bnd (Dat.str d0.1) fun (x1 : List (UInt8)) =>
 Dat.bnd (Dat.str d0.2) fun (x2 : List (UInt8)) =>
 some (Dat.seq x1 x2)
noncomputable def p_ref01_Same : PFn := { args := [(.list (.int .u8)), (.list (.int .u8))], res := [.bool], fn := ref01_Same }
theorem pd_ref01_Same : PureD Try.prog cfg 12 p_ref01_Same := fnD sp0 (l := []) cfgOk cfgGlob .nil (fun d => by kernel_rfl)

/-- thimblerig/thimblerigref01.Number -/
noncomputable def ref01_Number (d0 : List (Int)) : Option (Int) :=
 Dat.bnd (Dat.wrap .i64 (Dat.sub (Dat.ofN (Dat.len d0)) 1)) fun (x1 : Int) =>
 Dat.loop (fun (s2 : (Int) × (Int)) k3 =>
 (bif (Dat.ige s2.2 0) then Dat.bnd (Dat.wrap .u64 (Dat.mul 256 s2.1)) fun (x4 : Int) =>
 if (Dat.Ix s2.2 (Dat.len d0)) then Dat.bnd (Dat.get d0 (Dat.toN s2.2) 0) fun (x7 : Int) =>
 Dat.bnd (Dat.wrap .u64 x7) fun (x8 : Int) =>
 Dat.bnd (Dat.wrap .u64 (Dat.add x4 x8)) fun (x9 : Int) =>
 Dat.bnd (Dat.wrap .i64 (Dat.sub s2.2 1)) fun (x10 : Int) =>
 k3 (x9, x10)
 else none
 else some s2.1)) (0, x1)
noncomputable def p_ref01_Number : PFn := { args := [(.list (.int .u8))], res := [(.int .u64)], fn := ref01_Number }
def sp37_37 : List LSpec × List Nat := ([{ id := 3700, known := true, toks := [], items := [.slot 3 (.val (.int .u64)), .slot 4 (.val (.int .i64))], junk := [8, 9, 12, 13, 14, 15, 16, 17, 18, 19, 10, 11], tails := [] }], [])
def spt37 : Tab (List LSpec × List Nat) := (.node (.node .leaf none (.node .leaf none (.node (.node (.node .leaf (some sp37_37) .leaf) none .leaf) none .leaf))) none .leaf)
def spf37 (f : Nat) : List LSpec × List Nat := (spt37.get f).getD ([], [])
theorem pd_ref01_Number : PureD Try.prog cfg 37 p_ref01_Number := fnD spf37 (l := []) cfgOk cfgGlob .nil (fun d => by kernel_rfl)

/-- thimblerig/thimblerigref09.May -/
noncomputable def ref09_May (d0 : ((Int) × ((Int) × ((Int) × ((Int) × (Unit))))) × ((Int) × ((Int) × ((List (Int)) × (Unit))))) : Option (Bool) :=
 (bif (Dat.ige d0.2.1 0) then (bif (Dat.pickB true (Dat.ilt d0.2.1 d0.1.1) false) then (bif (Dat.pickB true (Dat.ige d0.2.2.1 0) false) then Dat.bind (ref07_Many d0.1.2.2.1) fun (x1 : Int) =>
 (bif (Dat.pickB true (Dat.ilt d0.2.2.1 x1) false) then some (Dat.pickB true (Dat.ieq (Dat.ofN (Dat.len d0.2.2.2.1)) d0.1.2.1) false)
 else some false)
 else some false)
 else some false)
 else some false)
noncomputable def p_ref09_May : PFn := { args := [(.pair (.int .i64) (.pair (.int .i64) (.pair (.int .i64) (.pair (.int .i64) .unit)))), (.pair (.int .i64) (.pair (.int .i64) (.pair (.list (.int .u8)) .unit)))], res := [.bool], fn := ref09_May }
theorem pd_ref09_May : PureD Try.prog cfg 34 p_ref09_May := fnD sp0 (l := [(42, p_ref07_Many)]) cfgOk cfgGlob (.cons pd_ref07_Many .nil) (fun d => by kernel_rfl)

/-- thimblerig/thimblerigref09.Read -/
noncomputable def ref09_Read (d0 : ((Int) × ((Int) × ((Int) × ((Int) × (Unit))))) × (List (Int))) : Option (((Int) × ((Int) × ((List (Int)) × (Unit)))) × ((Bool) × (Int))) :=
 Dat.bind (ref09_Many (d0.1.1, (d0.1.2.1, (d0.1.2.2.1, (d0.1.2.2.2.1, ()))))) fun (x1 : Int) =>
 (bif (Dat.ilt x1 1) then some ((0, (0, (([] : List (Int)), ()))), (false, 8))
 else Dat.bnd (Dat.wrap .i64 (Dat.add 8 d0.1.2.1)) fun (x2 : Int) =>
 (bif (Dat.ine (Dat.ofN (Dat.len d0.2)) x2) then some ((0, (0, (([] : List (Int)), ()))), (false, 10))
 else Dat.bnd (Dat.wrap .i64 (Dat.add 8 d0.1.2.1)) fun (x3 : Int) =>
 if (Dat.MkOk x3 x3 1) then if (Dat.Le (Dat.addN 0 (Dat.toN x3)) (Dat.len (Dat.rep (α := Int) (Dat.toN x3) 0))) then Dat.bind (ref01_Same (d0.2, (Dat.seg (Dat.rep (α := Int) (Dat.toN x3) 0) 0 (Dat.toN x3)))) fun (x8 : Bool) =>
 (bif x8 then some ((0, (0, (([] : List (Int)), ()))), (false, 0))
 else if (Dat.Bd 4 (Dat.len d0.2)) then Dat.bnd (Dat.slice d0.2 0 (Dat.toN 4)) fun (x11 : List (Int)) =>
 if (Dat.Bd 8 (Dat.len d0.2)) then if (Dat.Bd 4 (Dat.toN 8)) then Dat.bnd (Dat.slice d0.2 (Dat.toN 4) (Dat.toN 8)) fun (x16 : List (Int)) =>
 Dat.bind (ref01_Number x11) fun (x17 : Int) =>
 Dat.bind (ref01_Number x16) fun (x18 : Int) =>
 Dat.bnd (Dat.wrap .i64 x17) fun (x19 : Int) =>
 Dat.bnd (Dat.wrap .i64 (Dat.sub x19 1)) fun (x20 : Int) =>
 Dat.bnd (Dat.wrap .i64 x18) fun (x21 : Int) =>
 if (Dat.Bd 8 (Dat.len d0.2)) then Dat.bnd (Dat.slice d0.2 (Dat.toN 8) (Dat.len d0.2)) fun (x24 : List (Int)) =>
 if (Dat.Le (Dat.addN 0 0) (Dat.len ([] : List (Int)))) then if (Dat.Big (Dat.len (Dat.seg ([] : List (Int)) 0 0)) (Dat.len x24) 1) then none
 else Dat.bnd (Dat.app (Dat.seg ([] : List (Int)) 0 0) x24) fun (x29 : List (Int)) =>
 Dat.bind (ref09_May ((d0.1.1, (d0.1.2.1, (d0.1.2.2.1, (d0.1.2.2.2.1, ())))), (x20, (x21, (x29, ()))))) fun (x30 : Bool) =>
 (bif (Dat.bnot x30) then some ((0, (0, (([] : List (Int)), ()))), (false, 8))
 else some ((x20, (x21, (x29, ()))), (true, 0)))
 else none
 else none
 else none
 else none
 else none)
 else none
 else none))
noncomputable def p_ref09_Read : PFn := { args := [(.pair (.int .i64) (.pair (.int .i64) (.pair (.int .i64) (.pair (.int .i64) .unit)))), (.list (.int .u8))], res := [(.pair (.int .i64) (.pair (.int .i64) (.pair (.list (.int .u8)) .unit))), .bool, (.int .i64)], fn := ref09_Read }
theorem pd_ref09_Read : PureD Try.prog cfg 24 p_ref09_Read := fnD sp0 (l := [(32, p_ref09_Many), (12, p_ref01_Same), (37, p_ref01_Number), (34, p_ref09_May)]) cfgOk cfgGlob (.cons pd_ref09_Many (.cons pd_ref01_Same (.cons pd_ref01_Number (.cons pd_ref09_May .nil)))) (fun d => by kernel_rfl)

/-- thimblerig/thimblerigref09.Same -/
noncomputable def ref09_Same (d0 : ((Int) × ((Int) × ((List (Int)) × (Unit)))) × ((Int) × ((Int) × ((List (Int)) × (Unit))))) : Option (Bool) :=
 (bif (Dat.ieq d0.1.1 d0.2.1) then (bif (Dat.pickB true (Dat.ieq d0.1.2.1 d0.2.2.1) false) then Dat.bind (ref01_Same (d0.1.2.2.1, d0.2.2.2.1)) fun (x1 : Bool) =>
 some (Dat.pickB true x1 false)
 else some false)
 else some false)
noncomputable def p_ref09_Same : PFn := { args := [(.pair (.int .i64) (.pair (.int .i64) (.pair (.list (.int .u8)) .unit))), (.pair (.int .i64) (.pair (.int .i64) (.pair (.list (.int .u8)) .unit)))], res := [.bool], fn := ref09_Same }
theorem pd_ref09_Same : PureD Try.prog cfg 23 p_ref09_Same := fnD sp0 (l := [(12, p_ref01_Same)]) cfgOk cfgGlob (.cons pd_ref01_Same .nil) (fun d => by kernel_rfl)

/-- thimblerig/thimbleriglaw09.SlotReads -/
noncomputable def law09_SlotReads (d0 : ((Int) × ((Int) × ((Int) × ((Int) × (Unit))))) × (List (Int))) : Option (Bool) :=
 (bif (Dat.igt (Dat.ofN (Dat.len d0.2)) 1000) then some true
 else if (Dat.Le (Dat.addN 0 0) (Dat.len ([] : List (Int)))) then if (Dat.Big (Dat.len (Dat.seg ([] : List (Int)) 0 0)) (Dat.len d0.2) 1) then none
 else Dat.bnd (Dat.app (Dat.seg ([] : List (Int)) 0 0) d0.2) fun (x5 : List (Int)) =>
 Dat.bind (slot_Read ((d0.1.1, (d0.1.2.1, (d0.1.2.2.1, (d0.1.2.2.2.1, ())))), x5)) fun (x6 : ((Int) × ((Int) × ((List (Int)) × (Unit)))) × ((Bool) × (Int))) =>
 if (Dat.EqN (Dat.len x6.1.2.2.1) 0) then Dat.bind (ref09_Read ((d0.1.1, (d0.1.2.1, (d0.1.2.2.1, (d0.1.2.2.2.1, ())))), d0.2)) fun (x9 : ((Int) × ((Int) × ((List (Int)) × (Unit)))) × ((Bool) × (Int))) =>
 Dat.join (σ := Bool) (fun k10 =>
 Dat.bind (ref09_Same ((x6.1.1, (x6.1.2.1, (x6.1.2.2.1, ()))), (x9.1.1, (x9.1.2.1, (x9.1.2.2.1, ()))))) fun (x11 : Bool) =>
 (bif x11 then (bif (Dat.pickB true (Dat.beq x6.2.1 x9.2.1) false) then k10 (Dat.pickB true (Dat.ieq x6.2.2 x9.2.2) false)
 else k10 false)
 else k10 false)) fun (j12 : Bool) =>
 Dat.loop (fun (s13 : Int) k14 =>
 (bif (Dat.ilt s13 (Dat.ofN (Dat.len x6.1.2.2.1))) then if (Dat.Ix s13 (Dat.len x6.1.2.2.1)) then Dat.bnd (Dat.get x6.1.2.2.1 (Dat.toN s13) 0) fun (x17 : Int) =>
 Dat.bnd (Dat.wrap .u8 (Dat.add x17 1)) fun (x18 : Int) =>
 if (Dat.Ix s13 (Dat.len x6.1.2.2.1)) then Dat.bnd (Dat.get x6.1.2.2.1 (Dat.toN s13) 0) fun (x21 : Int) =>
 none
 else none
 else none
 else Dat.join (σ := Bool) (fun k22 =>
 (bif j12 then Dat.bind (ref01_Same (x5, d0.2)) fun (x23 : Bool) =>
 k22 (Dat.pickB true x23 false)
 else k22 false)) fun (j24 : Bool) =>
 some j24)) 0
 else Dat.bind (ref09_Read ((d0.1.1, (d0.1.2.1, (d0.1.2.2.1, (d0.1.2.2.2.1, ())))), d0.2)) fun (x25 : ((Int) × ((Int) × ((List (Int)) × (Unit)))) × ((Bool) × (Int))) =>
 Dat.join (σ := Bool) (fun k26 =>
 if (Dat.Le (Dat.addN 0 (Dat.len x6.1.2.2.1)) (Dat.len x6.1.2.2.1)) then Dat.bind (ref09_Same ((x6.1.1, (x6.1.2.1, ((Dat.seg x6.1.2.2.1 0 (Dat.len x6.1.2.2.1)), ()))), (x25.1.1, (x25.1.2.1, (x25.1.2.2.1, ()))))) fun (x29 : Bool) =>
 (bif x29 then (bif (Dat.pickB true (Dat.beq x6.2.1 x25.2.1) false) then k26 (Dat.pickB true (Dat.ieq x6.2.2 x25.2.2) false)
 else k26 false)
 else k26 false)
 else none) fun (j30 : Bool) =>
 Dat.loop (fun (s31 : (Int) × (List (Int))) k32 =>
 (bif (Dat.ilt s31.1 (Dat.ofN (Dat.len x6.1.2.2.1))) then if (Dat.In s31.1 (Dat.len x6.1.2.2.1)) then if (Dat.Lt (Dat.addN 0 (Dat.toN s31.1)) (Dat.len s31.2)) then Dat.bnd (Dat.get s31.2 (Dat.addN 0 (Dat.toN s31.1)) 0) fun (x37 : Int) =>
 Dat.bnd (Dat.wrap .u8 (Dat.add x37 1)) fun (x38 : Int) =>
 if (Dat.In s31.1 (Dat.len x6.1.2.2.1)) then if (Dat.Lt (Dat.addN 0 (Dat.toN s31.1)) (Dat.len s31.2)) then Dat.bnd (Dat.set s31.2 (Dat.addN 0 (Dat.toN s31.1)) x38) fun (x43 : List (Int)) =>
 Dat.bnd (Dat.wrap .i64 (Dat.add s31.1 1)) fun (x44 : Int) =>
 k32 (x44, x43)
 else none
 else none
 else none
 else none
 else Dat.join (σ := Bool) (fun k45 =>
 (bif j30 then Dat.bind (ref01_Same (x5, d0.2)) fun (x46 : Bool) =>
 k45 (Dat.pickB true x46 false)
 else k45 false)) fun (j47 : Bool) =>
 some j47)) (0, x6.1.2.2.1)
 else none)
noncomputable def p_law09_SlotReads : PFn := { args := [(.pair (.int .i64) (.pair (.int .i64) (.pair (.int .i64) (.pair (.int .i64) .unit)))), (.list (.int .u8))], res := [.bool], fn := law09_SlotReads }
def sp5_40 : List LSpec × List Nat := ([{ id := 5040000, known := false, toks := [], items := [], junk := [2], tails := [] }, { id := 5040001, known := true, toks := [], items := [.slot 8 (.val .bool)], junk := [3, 4, 5, 6, 7], tails := [] }, { id := 5040002, known := false, toks := [], items := [], junk := [2], tails := [] }, { id := 5040003, known := false, toks := [], items := [.slot 2 (.val (.int .i64))], junk := [], tails := [] }, { id := 5040004, known := false, toks := [], items := [.slot 2 (.val (.int .i64))], junk := [], tails := [] }], [])
def sp5_10 : List LSpec × List Nat := ([{ id := 5010000, known := false, toks := [], items := [], junk := [2, 3], tails := [] }, { id := 5010001, known := true, toks := [], items := [.slot 24 (.val .bool)], junk := [7, 8, 9, 10, 11, 12, 13, 14, 15, 16, 17, 18, 19, 20, 21, 22, 23], tails := [] }, { id := 5010002, known := false, toks := [], items := [], junk := [2, 3], tails := [] }, { id := 5010003, known := false, toks := [], items := [.slot 2 (.val (.int .i64)), .slot 3 (.val (.int .i64))], junk := [], tails := [] }, { id := 5010004, known := false, toks := [], items := [.slot 4 (.val (.int .i64)), .slot 5 (.val (.int .i64))], junk := [26, 27, 28, 25, 29, 30], tails := [] }, { id := 5010005, known := true, toks := [], items := [.slot 38 (.val .bool)], junk := [31, 32, 33, 34, 35, 36, 37], tails := [] }, { id := 5010006, known := false, toks := [], items := [], junk := [2, 3], tails := [] }, { id := 5010007, known := false, toks := [], items := [.slot 2 (.val (.int .i64)), .slot 3 (.val (.int .i64))], junk := [], tails := [] }, { id := 5010008, known := false, toks := [], items := [.slot 6 (.val (.int .i64))], junk := [], tails := [] }, { id := 1000, known := false, toks := [], items := [], junk := [], tails := [] }, { id := 5010009, known := false, toks := [], items := [.slot 40 (.val .bool)], junk := [39], tails := [] }, { id := 5010010, known := false, toks := [], items := [], junk := [], tails := [] }, { id := 5010011, known := false, toks := [], items := [.slot 50 (.val .bool)], junk := [43, 44, 45, 46, 47, 48, 49], tails := [] }, { id := 5010012, known := false, toks := [], items := [], junk := [51, 2, 3], tails := [] }, { id := 5010013, known := false, toks := [], items := [.slot 2 (.val (.int .i64)), .slot 3 (.val (.int .i64))], junk := [51], tails := [] }, { id := 5010014, known := false, toks := [], items := [.slot 6 (.val (.int .i64))], junk := [41, 42], tails := [] }, { id := 5010015, known := false, toks := [], items := [.slot 2 (.val (.int .i64)), .slot 3 (.val (.int .i64))], junk := [], tails := [] }], [])
def sp5_48 : List LSpec × List Nat := ([{ id := 5048000, known := false, toks := [], items := [], junk := [5], tails := [] }, { id := 5048001, known := true, toks := [], items := [.slot 13 (.val .bool)], junk := [6, 7, 8, 9, 10, 11, 12], tails := [] }, { id := 5048002, known := false, toks := [], items := [], junk := [5], tails := [] }, { id := 5048003, known := false, toks := [], items := [.slot 5 (.val .bool)], junk := [], tails := [] }, { id := 5048004, known := false, toks := [], items := [], junk := [14, 15, 16], tails := [] }, { id := 5048005, known := false, toks := [], items := [.slot 5 (.val .bool)], junk := [17, 18], tails := [] }], [])
def sp5_13 : List LSpec × List Nat := ([{ id := 5013000, known := false, toks := [], items := [], junk := [4], tails := [] }, { id := 5013001, known := false, toks := [], items := [.slot 6 (.val (.int .i64))], junk := [10, 11, 9, 12, 13, 5], tails := [] }, { id := 5013002, known := false, toks := [], items := [.slot 15 (.val .bool)], junk := [14], tails := [] }, { id := 5013003, known := false, toks := [], items := [], junk := [16, 4], tails := [] }, { id := 5013004, known := false, toks := [], items := [.slot 4 (.val (.int .i64))], junk := [16], tails := [] }, { id := 5013005, known := false, toks := [], items := [.slot 7 (.val (.int .i64))], junk := [18, 19, 20, 17, 21, 22, 8], tails := [] }, { id := 5013006, known := true, toks := [], items := [.slot 51 (.val .bool)], junk := [23, 24, 25, 26, 27, 28, 29, 30, 31, 32, 33, 34, 35, 36, 37, 38, 39, 40, 41, 42, 43, 44, 45, 46, 47, 48, 49, 50], tails := [] }, { id := 5013007, known := false, toks := [], items := [], junk := [4], tails := [] }, { id := 5013008, known := false, toks := [], items := [.slot 4 (.val (.int .i64))], junk := [], tails := [] }, { id := 5013009, known := false, toks := [], items := [.slot 4 (.val (.int .i64))], junk := [], tails := [] }], [])
def sp5_41 : List LSpec × List Nat := ([{ id := 5041000, known := false, toks := [], items := [], junk := [2], tails := [] }, { id := 5041001, known := true, toks := [], items := [.slot 2 (.val .bool)], junk := [3, 4, 5, 6, 7, 8], tails := [] }], [])
def sp5_32 : List LSpec × List Nat := ([{ id := 5032000, known := false, toks := [], items := [], junk := [2], tails := [] }, { id := 5032001, known := true, toks := [], items := [.slot 35 (.val .bool)], junk := [4, 5, 6, 7, 8, 9, 10, 11, 12, 13, 14, 15, 16, 17, 18, 19, 20, 21, 22, 23, 24, 25, 26, 27, 28, 29, 30, 31, 32, 33, 34], tails := [] }, { id := 5032002, known := false, toks := [], items := [], junk := [2], tails := [] }, { id := 5032003, known := false, toks := [], items := [.slot 2 (.val (.int .i64))], junk := [], tails := [] }, { id := 5032004, known := false, toks := [], items := [.slot 3 (.val (.int .i64))], junk := [], tails := [] }, { id := 3200, known := false, toks := [], items := [], junk := [], tails := [] }, { id := 5032005, known := false, toks := [], items := [.slot 37 (.val .bool)], junk := [36], tails := [] }, { id := 5032006, known := false, toks := [], items := [], junk := [], tails := [] }, { id := 5032007, known := false, toks := [], items := [.slot 48 (.val .bool)], junk := [40, 41, 42, 43, 44, 45, 46, 47], tails := [] }, { id := 5032008, known := false, toks := [], items := [], junk := [49, 2], tails := [] }, { id := 5032009, known := false, toks := [], items := [.slot 2 (.val (.int .i64))], junk := [49], tails := [] }, { id := 5032010, known := false, toks := [], items := [.slot 3 (.val (.int .i64))], junk := [38, 39], tails := [] }, { id := 5032011, known := false, toks := [], items := [.slot 2 (.val (.int .i64))], junk := [], tails := [] }], [])
def sp5_34 : List LSpec × List Nat := ([{ id := 5034000, known := false, toks := [], items := [], junk := [4], tails := [] }, { id := 5034001, known := true, toks := [], items := [.slot 4 (.val .bool)], junk := [5, 6, 7, 8, 9, 10, 11, 12, 13, 14, 15, 16, 17, 18, 19, 20, 21, 22, 23, 24, 25, 26, 27, 28, 29, 30, 31, 32, 33, 34, 35], tails := [] }], [])
def sp5_23 : List LSpec × List Nat := ([{ id := 5023000, known := false, toks := [], items := [], junk := [4], tails := [] }, { id := 5023001, known := true, toks := [], items := [.slot 4 (.val .bool)], junk := [5, 6, 7, 8, 9, 10, 11, 12, 13, 14, 15, 16, 17, 18, 19, 20, 21, 22, 23], tails := [] }], [])
def sp5_5 : List LSpec × List Nat := ([{ id := 5005000, known := false, toks := [], items := [], junk := [4], tails := [] }, { id := 5005001, known := false, toks := [], items := [.slot 16 (.val .bool)], junk := [14, 15], tails := [] }, { id := 5005002, known := false, toks := [], items := [], junk := [4], tails := [] }, { id := 5005003, known := false, toks := [], items := [.slot 4 (.val .bool)], junk := [], tails := [] }, { id := 5005004, known := false, toks := [], items := [], junk := [17, 18, 19], tails := [] }, { id := 5005005, known := false, toks := [], items := [.slot 7 (.val .bool), .slot 8 (.val (.int .i64))], junk := [21, 22, 23, 20, 24, 25, 26], tails := [] }, { id := 5005006, known := false, toks := [], items := [.slot 10 (.val .bool), .slot 11 (.val (.int .i64))], junk := [28, 29, 30, 27, 31, 32, 33], tails := [] }, { id := 5005007, known := true, toks := [], items := [.slot 12 (.val .bool)], junk := [34, 35, 36, 37, 38, 39, 40, 41, 42, 43, 44, 45, 46], tails := [] }, { id := 5005008, known := false, toks := [], items := [.slot 13 (.val (.int .i64))], junk := [], tails := [] }, { id := 500, known := true, toks := [], items := [.slot 13 (.val (.int .i64)), .vec 2004002 (.int .u8)], junk := [47, 48, 49, 50, 51, 54, 55, 56, 57, 58, 59, 60, 61, 62, 63, 52, 53], tails := [] }, { id := 5005009, known := false, toks := [], items := [.slot 51 (.val .bool)], junk := [47, 48, 49, 50], tails := [] }, { id := 5005010, known := false, toks := [], items := [], junk := [], tails := [] }, { id := 5005011, known := false, toks := [], items := [], junk := [54, 55, 56, 57, 58, 59, 60, 61, 62, 63], tails := [] }, { id := 5005012, known := false, toks := [], items := [.slot 13 (.val (.int .i64))], junk := [52, 53], tails := [] }, { id := 5005013, known := true, toks := [], items := [.slot 4 (.val .bool)], junk := [64, 65, 66, 67, 68, 69], tails := [] }], [])
def spt5 : Tab (List LSpec × List Nat) := (.node (.node (.node (.node .leaf none (.node .leaf (some sp5_23) .leaf)) none .leaf) none (.node (.node .leaf none (.node (.node .leaf (some sp5_41) .leaf) none .leaf)) (some sp5_5) (.node .leaf (some sp5_13) .leaf))) none (.node (.node (.node (.node (.node .leaf (some sp5_32) .leaf) none (.node .leaf (some sp5_48) .leaf)) none (.node (.node .leaf (some sp5_40) .leaf) none .leaf)) none .leaf) none (.node (.node (.node (.node .leaf (some sp5_34) .leaf) none .leaf) (some sp5_10) .leaf) none .leaf)))
def spf5 (f : Nat) : List LSpec × List Nat := (spt5.get f).getD ([], [])
theorem pd_law09_SlotReads : PureD Try.prog cfg 5 p_law09_SlotReads := fnDa spf5 [] (l := [(9, p_slot_Read), (24, p_ref09_Read), (23, p_ref09_Same), (12, p_ref01_Same)]) (lo := [(9, o_slot_Read)]) cfgOk cfgGlob (.cons pd_slot_Read (.cons pd_ref09_Read (.cons pd_ref09_Same (.cons pd_ref01_Same .nil)))) (.cons od_slot_Read.1 .nil) (fun d => by kernel_rfl)
end Go.Proofs.Ytcdjnaacgbncdaa
