/- The functions of the program, as functions on plain data. -/
import Derived.Test.YtgaijhlncgakeaaCfg
import Derived.Test.YtgaijhlncgakeaaM5
import Derived.ProofKit
namespace Go.Proofs.Ytgaijhlncgakeaa
open Go.Eng
set_option linter.unusedVariables false
set_option maxRecDepth 100000
def sp21 : List LSpec × List Nat := ([{ id := 2100, known := true, toks := [], items := [.slot 18 (.val (.int .i64)), .cells 1000008 [.val (.int .i64)]], junk := [19, 20, 21, 11, 22, 23, 24, 25, 6, 7, 26], tails := [] }], [])
def sp23 : List LSpec × List Nat := ([{ id := 2300, known := true, toks := [(0, (.int .u8))], items := [.slot 0 (.slt (.int .u8) (some 1000000) false), .slot 9 (.val (.int .i64))], junk := [10, 11, 7, 12, 13, 14, 15, 16, 17, 18, 19, 20], tails := [(1000000, 0)] }], [])
def sp8 : List LSpec × List Nat := ([{ id := 800, known := true, toks := [(8, (.int .u8))], items := [.slot 8 (.slt (.int .u8) (some 1000008) false), .slot 28 (.val (.int .i64))], junk := [29, 30, 31, 32, 9, 10, 33, 34, 35, 36, 37, 38, 39, 4, 5, 40, 41, 42, 43, 44, 45, 46, 47], tails := [(1000008, 8)] }], [])
def sp10 : List LSpec × List Nat := ([{ id := 1000, known := true, toks := [], items := [.slot 10 (.val (.int .i64)), .slot 32 (.val (.int .i64)), .vec 1000009 (.list (.int .u8))], junk := [33, 34, 35, 36, 11, 12, 37, 38, 39, 40, 41, 42, 43, 44, 45, 46, 47, 48, 49, 50, 51, 52], tails := [] }], [])
def sp24 : List LSpec × List Nat := ([{ id := 2400, known := true, toks := [], items := [.slot 3 (.val (.int .u64)), .slot 7 (.val (.int .i64))], junk := [8, 9, 4, 10, 11, 12, 13, 14, 15, 16, 17, 18, 19, 20], tails := [] }], [])
def sp9 : List LSpec × List Nat := ([{ id := 900, known := true, toks := [], items := [.slot 35 (.val (.int .i64)), .vec 1000010 (.int .u64)], junk := [36, 37, 38, 39, 11, 12, 40, 41, 42, 43, 44, 45], tails := [] }], [])
def sp17 : List LSpec × List Nat := ([{ id := 1700, known := true, toks := [], items := [.slot 5 (.val (.int .i64))], junk := [11, 12, 13, 14, 17, 18, 19, 20, 21, 22, 23, 24, 25, 4, 15, 16], tails := [] }], [])
def sp7 : List LSpec × List Nat := ([{ id := 700, known := true, toks := [(10, (.int .u8))], items := [.slot 10 (.slt (.int .u8) (some 1000010) false), .slot 11 (.val (.int .i64))], junk := [70, 71, 72, 73, 76, 77, 78, 79, 80, 81, 82, 83, 84, 85, 4, 86, 87, 88, 89, 90, 91, 74, 75], tails := [(1000010, 10)] }], [])
def spt : Tab (List LSpec × List Nat) := (.node (.node (.node (.node .leaf (some sp7) (.node .leaf (some sp23) .leaf)) none .leaf) none (.node (.node (.node .leaf (some sp17) .leaf) (some sp9) .leaf) none (.node (.node .leaf (some sp21) .leaf) none .leaf))) none (.node (.node (.node .leaf (some sp8) (.node .leaf (some sp24) .leaf)) none .leaf) none (.node (.node .leaf (some sp10) .leaf) none .leaf)))
def spf (f : Nat) : List LSpec × List Nat := (spt.get f).getD ([], [])

/-- thimblerig/num.together -/
noncomputable def num_together (d0 : (List (Int)) × ((Int) × (Int))) : Option ((Int) × (Int)) :=
 (bif (Dat.igt (Dat.ofN (Dat.len d0.1)) 64) then some (0, 2)
 else Dat.loop (fun (s1 : (Int) × (Int)) k2 =>
 (bif (Dat.ilt s1.1 (Dat.ofN (Dat.len d0.1))) then if (Dat.Ix s1.1 (Dat.len d0.1)) then Dat.bnd (Dat.get d0.1 (Dat.toN s1.1) 0) fun (x5 : Int) =>
 (bif (Dat.ilt x5 d0.2.1) then (bif (Dat.bnot false) then some (0, 2)
 else Dat.bnd (Dat.wrap .i64 (Dat.add s1.1 1)) fun (x6 : Int) =>
 k2 (x6, s1.2))
 else (bif (Dat.pickB false true (Dat.igt x5 d0.2.2)) then (bif (Dat.bnot false) then some (0, 2)
 else Dat.bnd (Dat.wrap .i64 (Dat.add s1.1 1)) fun (x7 : Int) =>
 k2 (x7, s1.2))
 else Dat.bnd (Dat.wrap .i64 (Dat.add s1.2 x5)) fun (x8 : Int) =>
 (bif (Dat.bnot (Dat.ile x8 65536)) then some (0, 2)
 else Dat.bnd (Dat.wrap .i64 (Dat.add s1.1 1)) fun (x9 : Int) =>
 k2 (x9, x8))))
 else none
 else some (s1.2, 0))) (0, 0))
noncomputable def p_num_together : PFn := { args := [(.list (.int .i64)), (.int .i64), (.int .i64)], res := [(.int .i64), (.int .i64)], fn := num_together }
theorem pd_num_together : PureD Try.prog cfg 21 p_num_together := fnD spf (l := []) cfgOk rfl .nil (fun d => by kernel_rfl)

/-- thimblerig/num.fits -/
noncomputable def num_fits (d0 : (Int) × (Int)) : Option (Bool) :=
 (bif (Dat.ige d0.2 8) then some true
 else Dat.bnd (Dat.wrap .i64 (Dat.mul 8 d0.2)) fun (x1 : Int) =>
 if (Dat.Neg x1) then none
 else Dat.bnd (Dat.shr .u64 d0.1 x1) fun (x4 : Int) =>
 some (Dat.pickB false true (Dat.ieq x4 0)))
noncomputable def p_num_fits : PFn := { args := [(.int .u64), (.int .i64)], res := [.bool], fn := num_fits }
theorem pd_num_fits : PureD Try.prog cfg 22 p_num_fits := fnD spf (l := []) cfgOk rfl .nil (fun d => by kernel_rfl)

/-- thimblerig/num.Put -/
noncomputable def num_Put (d0 : (List (Int)) × (List (Int))) : Option ((List (Int)) × (Int)) :=
 Dat.bind (num_together (d0.2, (1, 8))) fun (x1 : (Int) × (Int)) =>
 (bif (Dat.ine x1.2 0) then some (([] : List (Int)), x1.2)
 else (bif (Dat.ine (Dat.ofN (Dat.len d0.1)) (Dat.ofN (Dat.len d0.2))) then some (([] : List (Int)), 2)
 else if (Dat.MkOk 0 x1.1 1) then if (Dat.EqN (Dat.toN 0) 0) then if (Dat.EqN 0 (Dat.len ([] : List (Int)))) then Dat.loop (fun (s8 : (List (Int)) × (Int)) k9 =>
 (bif (Dat.ilt s8.2 (Dat.ofN (Dat.len d0.2))) then if (Dat.Ix s8.2 (Dat.len d0.2)) then Dat.bnd (Dat.get d0.2 (Dat.toN s8.2) 0) fun (x12 : Int) =>
 if (Dat.Ix s8.2 (Dat.len d0.1)) then Dat.bnd (Dat.get d0.1 (Dat.toN s8.2) 0) fun (x15 : Int) =>
 Dat.bind (num_fits (x15, x12)) fun (x16 : Bool) =>
 (bif (Dat.bnot x16) then some (([] : List (Int)), 4)
 else if (Dat.Ix s8.2 (Dat.len d0.1)) then Dat.bnd (Dat.get d0.1 (Dat.toN s8.2) 0) fun (x19 : Int) =>
 if (Dat.EqN (Dat.len s8.1) (Dat.len s8.1)) then Dat.loop (fun (s22 : (List (Int)) × (Int)) k23 =>
 (bif (Dat.ilt s22.2 x12) then Dat.bnd (Dat.wrap .i64 (Dat.mul 8 s22.2)) fun (x24 : Int) =>
 if (Dat.Neg x24) then none
 else Dat.bnd (Dat.shr .u64 x19 x24) fun (x27 : Int) =>
 Dat.bnd (Dat.wrap .u8 x27) fun (x28 : Int) =>
 if (Dat.Le (Dat.addN 0 1) (Dat.len (x28 :: ([] : List (Int))))) then if (Dat.Big (Dat.len s22.1) (Dat.len (Dat.seg (x28 :: ([] : List (Int))) 0 1)) 1) then none
 else if (Dat.EqN (Dat.len s22.1) (Dat.len s22.1)) then Dat.bnd (Dat.app s22.1 (Dat.seg (x28 :: ([] : List (Int))) 0 1)) fun (x35 : List (Int)) =>
 Dat.bnd (Dat.wrap .i64 (Dat.add s22.2 1)) fun (x36 : Int) =>
 if (Dat.EqN (Dat.len x35) (Dat.len x35)) then k23 (x35, x36)
 else none
 else none
 else none
 else Dat.bnd (Dat.wrap .i64 (Dat.add s8.2 1)) fun (x39 : Int) =>
 if (Dat.EqN (Dat.len s22.1) (Dat.len s22.1)) then k9 (s22.1, x39)
 else none)) (s8.1, 0)
 else none
 else none)
 else none
 else none
 else some (s8.1, 0))) (([] : List (Int)), 0)
 else none
 else none
 else none))
noncomputable def p_num_Put : PFn := { args := [(.list (.int .u64)), (.list (.int .i64))], res := [(.list (.int .u8)), (.int .i64)], fn := num_Put }
theorem pd_num_Put : PureD Try.prog cfg 8 p_num_Put := fnD spf (l := [(21, p_num_together), (22, p_num_fits)]) cfgOk rfl (.cons pd_num_together (.cons pd_num_fits .nil)) (fun d => by kernel_rfl)

/-- thimblerig/num.Size -/
noncomputable def num_Size (d0 : List (Int)) : Option ((Int) × (Int)) :=
 Dat.bind (num_together (d0, (0, 65536))) fun (x1 : (Int) × (Int)) =>
 some (x1.1, x1.2)
noncomputable def p_num_Size : PFn := { args := [(.list (.int .i64))], res := [(.int .i64), (.int .i64)], fn := num_Size }
theorem pd_num_Size : PureD Try.prog cfg 11 p_num_Size := fnD spf (l := [(21, p_num_together)]) cfgOk rfl (.cons pd_num_together .nil) (fun d => by kernel_rfl)

/-- slices.Clone(()byte,byte) -/
noncomputable def slices_Clone_byte_byte (d0 : List (Int)) : Option (List (Int)) :=
 if (Dat.Le (Dat.addN 0 0) (Dat.len ([] : List (Int)))) then if (Dat.Big (Dat.len (Dat.seg ([] : List (Int)) 0 0)) (Dat.len d0) 1) then none
 else Dat.bnd (Dat.app (Dat.seg ([] : List (Int)) 0 0) d0) fun (x5 : List (Int)) =>
 some x5
 else none
noncomputable def p_slices_Clone_byte_byte : PFn := { args := [(.list (.int .u8))], res := [(.list (.int .u8))], fn := slices_Clone_byte_byte }
noncomputable def cx25 : CloneX Try.prog cfg 25 5 (.int .u8) := clx xf25 5 (xf25.body.cOps.getD 0 ⟨none, .move (.tmp 0), 0, "", #[], none⟩) (xf25.body.cOps.getD 1 ⟨none, .move (.tmp 0), 0, "", #[], none⟩) (by kernel_rfl) (by kernel_rfl) (by kernel_rfl) (by kernel_rfl) (by kernel_rfl) (by kernel_rfl) (by kernel_rfl) (by kernel_rfl) (by kernel_rfl)
theorem pd_slices_Clone_byte_byte : PureD Try.prog cfg 25 p_slices_Clone_byte_byte := cloneD spf cfgOk rfl cx25 (of_decide_eq_true (by kernel_rfl)) (by kernel_rfl) (by kernel_rfl) (by kernel_rfl) (fun d => by kernel_rfl) (fun d => by kernel_rfl) (by kernel_rfl) (fun d r h => by
  unfold slices_Clone_byte_byte at h
  split at h
  · split at h
    · cases h
    · have h1 : some d = some r := h
      exact (Option.some.inj h1).symm
  · cases h)

/-- thimblerig/num.Cut -/
noncomputable def num_Cut (d0 : (List (Int)) × (List (Int))) : Option ((List (List (Int))) × (Int)) :=
 Dat.bind (num_Size d0.2) fun (x1 : (Int) × (Int)) =>
 (bif (Dat.ine x1.2 0) then some (([] : List (List (Int))), x1.2)
 else (bif (Dat.ine (Dat.ofN (Dat.len d0.1)) x1.1) then some (([] : List (List (Int))), 10)
 else Dat.bind (slices_Clone_byte_byte d0.1) fun (x2 : List (Int)) =>
 if (Dat.MkOk (Dat.ofN (Dat.len d0.2)) (Dat.ofN (Dat.len d0.2)) 24) then Dat.loop (fun (s5 : (Int) × ((Int) × (List (List (Int))))) k6 =>
 (bif (Dat.ilt s5.2.1 (Dat.ofN (Dat.len d0.2))) then if (Dat.Ix s5.2.1 (Dat.len d0.2)) then Dat.bnd (Dat.get d0.2 (Dat.toN s5.2.1) 0) fun (x9 : Int) =>
 Dat.bnd (Dat.wrap .i64 (Dat.add s5.1 x9)) fun (x10 : Int) =>
 Dat.bnd (Dat.wrap .i64 (Dat.add s5.1 x9)) fun (x11 : Int) =>
 if (Dat.Bd x11 (Dat.len x2)) then if (Dat.Bd x10 (Dat.toN x11)) then if (Dat.Bd s5.1 (Dat.toN x10)) then Dat.bnd (Dat.slice x2 (Dat.toN s5.1) (Dat.toN x10)) fun (x18 : List (Int)) =>
 if (Dat.In s5.2.1 (Dat.toN (Dat.ofN (Dat.len d0.2)))) then if (Dat.Lt (Dat.addN 0 (Dat.toN s5.2.1)) (Dat.len s5.2.2)) then Dat.bnd (Dat.set s5.2.2 (Dat.addN 0 (Dat.toN s5.2.1)) x18) fun (x23 : List (List (Int))) =>
 Dat.bnd (Dat.wrap .i64 (Dat.add s5.1 x9)) fun (x24 : Int) =>
 Dat.bnd (Dat.wrap .i64 (Dat.add s5.2.1 1)) fun (x25 : Int) =>
 k6 (x24, (x25, x23))
 else none
 else none
 else none
 else none
 else none
 else none
 else if (Dat.Le (Dat.addN 0 (Dat.toN (Dat.ofN (Dat.len d0.2)))) (Dat.len s5.2.2)) then some ((Dat.seg s5.2.2 0 (Dat.toN (Dat.ofN (Dat.len d0.2)))), 0)
 else none)) (0, (0, (Dat.rep (Dat.toN (Dat.ofN (Dat.len d0.2))) ([] : List (Int)))))
 else none))
noncomputable def p_num_Cut : PFn := { args := [(.list (.int .u8)), (.list (.int .i64))], res := [(.list (.list (.int .u8))), (.int .i64)], fn := num_Cut }
theorem pd_num_Cut : PureD Try.prog cfg 10 p_num_Cut := fnD spf (l := [(11, p_num_Size), (25, p_slices_Clone_byte_byte)]) cfgOk rfl (.cons pd_num_Size (.cons pd_slices_Clone_byte_byte .nil)) (fun d => by kernel_rfl)

/-- thimblerig/num.shiftTogether -/
noncomputable def num_shiftTogether (d0 : List (Int)) : Option (Int) :=
 Dat.loop (fun (s1 : (Int) × (Int)) k2 =>
 (bif (Dat.ilt s1.2 (Dat.ofN (Dat.len d0))) then if (Dat.Ix s1.2 (Dat.len d0)) then Dat.bnd (Dat.get d0 (Dat.toN s1.2) 0) fun (x5 : Int) =>
 Dat.bnd (Dat.wrap .u64 x5) fun (x6 : Int) =>
 Dat.bnd (Dat.wrap .i64 (Dat.mul 8 s1.2)) fun (x7 : Int) =>
 if (Dat.Neg x7) then none
 else Dat.bnd (Dat.shl .u64 x6 x7) fun (x10 : Int) =>
 Dat.bnd (Dat.bor .u64 s1.1 x10) fun (x11 : Int) =>
 Dat.bnd (Dat.wrap .i64 (Dat.add s1.2 1)) fun (x12 : Int) =>
 k2 (x11, x12)
 else none
 else some s1.1)) (0, 0)
noncomputable def p_num_shiftTogether : PFn := { args := [(.list (.int .u8))], res := [(.int .u64)], fn := num_shiftTogether }
theorem pd_num_shiftTogether : PureD Try.prog cfg 24 p_num_shiftTogether := fnD spf (l := []) cfgOk rfl .nil (fun d => by kernel_rfl)

/-- thimblerig/num.Take -/
noncomputable def num_Take (d0 : (List (Int)) × (List (Int))) : Option ((List (Int)) × (Int)) :=
 Dat.bind (num_together (d0.2, (1, 8))) fun (x1 : (Int) × (Int)) =>
 (bif (Dat.ine x1.2 0) then some (([] : List (Int)), x1.2)
 else Dat.bind (num_Cut (d0.1, d0.2)) fun (x2 : (List (List (Int))) × (Int)) =>
 (bif (Dat.ine x2.2 0) then some (([] : List (Int)), x2.2)
 else if (Dat.MkOk (Dat.ofN (Dat.len x2.1)) (Dat.ofN (Dat.len x2.1)) 8) then Dat.loop (fun (s5 : (Int) × (List (Int))) k6 =>
 (bif (Dat.ilt s5.1 (Dat.ofN (Dat.len x2.1))) then if (Dat.Ix s5.1 (Dat.len x2.1)) then Dat.bnd (Dat.get x2.1 (Dat.toN s5.1) ([] : List (Int))) fun (x9 : List (Int)) =>
 Dat.bind (num_shiftTogether x9) fun (x10 : Int) =>
 if (Dat.In s5.1 (Dat.toN (Dat.ofN (Dat.len x2.1)))) then if (Dat.Lt (Dat.addN 0 (Dat.toN s5.1)) (Dat.len s5.2)) then Dat.bnd (Dat.set s5.2 (Dat.addN 0 (Dat.toN s5.1)) x10) fun (x15 : List (Int)) =>
 Dat.bnd (Dat.wrap .i64 (Dat.add s5.1 1)) fun (x16 : Int) =>
 k6 (x16, x15)
 else none
 else none
 else none
 else if (Dat.Le (Dat.addN 0 (Dat.toN (Dat.ofN (Dat.len x2.1)))) (Dat.len s5.2)) then some ((Dat.seg s5.2 0 (Dat.toN (Dat.ofN (Dat.len x2.1)))), 0)
 else none)) (0, (Dat.rep (Dat.toN (Dat.ofN (Dat.len x2.1))) 0))
 else none))
noncomputable def p_num_Take : PFn := { args := [(.list (.int .u8)), (.list (.int .i64))], res := [(.list (.int .u64)), (.int .i64)], fn := num_Take }
theorem pd_num_Take : PureD Try.prog cfg 9 p_num_Take := fnD spf (l := [(21, p_num_together), (10, p_num_Cut), (24, p_num_shiftTogether)]) cfgOk rfl (.cons pd_num_together (.cons pd_num_Cut (.cons pd_num_shiftTogether .nil))) (fun d => by kernel_rfl)

/-- thimblerig/thimblerigref01.Same -/
noncomputable def ref01_Same (d0 : (List (Int)) × (List (Int))) : Option (Bool) :=
 Dat.bnd (Dat.str d0.1) fun (x1 : List (UInt8)) =>
 Dat.bnd (Dat.str d0.2) fun (x2 : List (UInt8)) =>
 some (Dat.seq x1 x2)
noncomputable def p_ref01_Same : PFn := { args := [(.list (.int .u8)), (.list (.int .u8))], res := [.bool], fn := ref01_Same }
theorem pd_ref01_Same : PureD Try.prog cfg 16 p_ref01_Same := fnD spf (l := []) cfgOk rfl .nil (fun d => by kernel_rfl)

/-- thimblerig/thimblerigref01.SameNumbers -/
noncomputable def ref01_SameNumbers (d0 : (List (Int)) × (List (Int))) : Option (Bool) :=
 (bif (Dat.ine (Dat.ofN (Dat.len d0.1)) (Dat.ofN (Dat.len d0.2))) then some false
 else Dat.loop (fun (s1 : Int) k2 =>
 (bif (Dat.ilt s1 (Dat.ofN (Dat.len d0.1))) then if (Dat.Ix s1 (Dat.len d0.1)) then Dat.bnd (Dat.get d0.1 (Dat.toN s1) 0) fun (x5 : Int) =>
 if (Dat.Ix s1 (Dat.len d0.2)) then Dat.bnd (Dat.get d0.2 (Dat.toN s1) 0) fun (x8 : Int) =>
 (bif (Dat.ine x5 x8) then some false
 else Dat.bnd (Dat.wrap .i64 (Dat.add s1 1)) fun (x9 : Int) =>
 k2 x9)
 else none
 else none
 else some true)) 0)
noncomputable def p_ref01_SameNumbers : PFn := { args := [(.list (.int .u64)), (.list (.int .u64))], res := [.bool], fn := ref01_SameNumbers }
theorem pd_ref01_SameNumbers : PureD Try.prog cfg 17 p_ref01_SameNumbers := fnD spf (l := []) cfgOk rfl .nil (fun d => by kernel_rfl)

/-- thimblerig/thimbleriglaw01.alive -/
noncomputable def law01_alive (d0 : Unit) : Option (Bool) := some true
noncomputable def p_law01_alive : PFn := { args := [], res := [.bool], fn := law01_alive }
theorem pd_law01_alive : PureD Try.prog cfg 12 p_law01_alive := closedD (n := 4000) cfgOk (by kernel_rfl)

/-- thimblerig/thimbleriglaw01.NumBack -/
noncomputable def law01_NumBack (d0 : (List (Int)) × ((List (Int)) × (List (Int)))) : Option (Bool) :=
 Dat.bind (law01_alive ()) fun (x1 : Bool) =>
 (bif (Dat.igt (Dat.ofN (Dat.len d0.1)) 100) then some x1
 else (bif (Dat.pickB false true (Dat.igt (Dat.ofN (Dat.len d0.2.1)) 5000)) then some x1
 else (bif (Dat.pickB false true (Dat.igt (Dat.ofN (Dat.len d0.2.2)) 100)) then some x1
 else (bif (Dat.pickB false true (Dat.bnot x1)) then some x1
 else Dat.bind (num_Put (d0.1, d0.2.2)) fun (x2 : (List (Int)) × (Int)) =>
 Dat.bind (num_Take (x2.1, d0.2.2)) fun (x3 : (List (Int)) × (Int)) =>
 (bif (Dat.ieq x2.2 0) then (bif (Dat.ine x3.2 0) then (bif (Dat.pickB true true false) then some false
 else (bif (Dat.ine x2.2 0) then (bif (Dat.pickB false true (Dat.pickB true (Dat.igt (Dat.ofN (Dat.len x2.1)) 0) false)) then some false
 else Dat.bind (num_Take (d0.2.1, d0.2.2)) fun (x4 : (List (Int)) × (Int)) =>
 Dat.bind (num_Put (x4.1, d0.2.2)) fun (x5 : (List (Int)) × (Int)) =>
 (bif x1 then (bif (Dat.ieq x4.2 0) then (bif (Dat.pickB true (Dat.ieq x5.2 0) false) then Dat.bind (ref01_Same (x5.1, d0.2.1)) fun (x6 : Bool) =>
 (bif (Dat.pickB true x6 false) then some (Dat.pickB true true false)
 else (bif (Dat.ine x4.2 0) then some (Dat.pickB true (Dat.pickB false true (Dat.pickB true (Dat.ieq (Dat.ofN (Dat.len x4.1)) 0) false)) false)
 else some (Dat.pickB true (Dat.pickB false true false) false)))
 else (bif (Dat.ine x4.2 0) then some (Dat.pickB true (Dat.pickB false true (Dat.pickB true (Dat.ieq (Dat.ofN (Dat.len x4.1)) 0) false)) false)
 else some (Dat.pickB true (Dat.pickB false true false) false)))
 else (bif (Dat.ine x4.2 0) then some (Dat.pickB true (Dat.pickB false true (Dat.pickB true (Dat.ieq (Dat.ofN (Dat.len x4.1)) 0) false)) false)
 else some (Dat.pickB true (Dat.pickB false true false) false)))
 else some false))
 else (bif (Dat.pickB false true false) then some false
 else Dat.bind (num_Take (d0.2.1, d0.2.2)) fun (x7 : (List (Int)) × (Int)) =>
 Dat.bind (num_Put (x7.1, d0.2.2)) fun (x8 : (List (Int)) × (Int)) =>
 (bif x1 then (bif (Dat.ieq x7.2 0) then (bif (Dat.pickB true (Dat.ieq x8.2 0) false) then Dat.bind (ref01_Same (x8.1, d0.2.1)) fun (x9 : Bool) =>
 (bif (Dat.pickB true x9 false) then some (Dat.pickB true true false)
 else (bif (Dat.ine x7.2 0) then some (Dat.pickB true (Dat.pickB false true (Dat.pickB true (Dat.ieq (Dat.ofN (Dat.len x7.1)) 0) false)) false)
 else some (Dat.pickB true (Dat.pickB false true false) false)))
 else (bif (Dat.ine x7.2 0) then some (Dat.pickB true (Dat.pickB false true (Dat.pickB true (Dat.ieq (Dat.ofN (Dat.len x7.1)) 0) false)) false)
 else some (Dat.pickB true (Dat.pickB false true false) false)))
 else (bif (Dat.ine x7.2 0) then some (Dat.pickB true (Dat.pickB false true (Dat.pickB true (Dat.ieq (Dat.ofN (Dat.len x7.1)) 0) false)) false)
 else some (Dat.pickB true (Dat.pickB false true false) false)))
 else some false))))
 else Dat.bind (ref01_SameNumbers (x3.1, d0.1)) fun (x10 : Bool) =>
 (bif (Dat.pickB true (Dat.pickB false true (Dat.bnot x10)) false) then some false
 else (bif (Dat.ine x2.2 0) then (bif (Dat.pickB false true (Dat.pickB true (Dat.igt (Dat.ofN (Dat.len x2.1)) 0) false)) then some false
 else Dat.bind (num_Take (d0.2.1, d0.2.2)) fun (x11 : (List (Int)) × (Int)) =>
 Dat.bind (num_Put (x11.1, d0.2.2)) fun (x12 : (List (Int)) × (Int)) =>
 (bif x1 then (bif (Dat.ieq x11.2 0) then (bif (Dat.pickB true (Dat.ieq x12.2 0) false) then Dat.bind (ref01_Same (x12.1, d0.2.1)) fun (x13 : Bool) =>
 (bif (Dat.pickB true x13 false) then some (Dat.pickB true true false)
 else (bif (Dat.ine x11.2 0) then some (Dat.pickB true (Dat.pickB false true (Dat.pickB true (Dat.ieq (Dat.ofN (Dat.len x11.1)) 0) false)) false)
 else some (Dat.pickB true (Dat.pickB false true false) false)))
 else (bif (Dat.ine x11.2 0) then some (Dat.pickB true (Dat.pickB false true (Dat.pickB true (Dat.ieq (Dat.ofN (Dat.len x11.1)) 0) false)) false)
 else some (Dat.pickB true (Dat.pickB false true false) false)))
 else (bif (Dat.ine x11.2 0) then some (Dat.pickB true (Dat.pickB false true (Dat.pickB true (Dat.ieq (Dat.ofN (Dat.len x11.1)) 0) false)) false)
 else some (Dat.pickB true (Dat.pickB false true false) false)))
 else some false))
 else (bif (Dat.pickB false true false) then some false
 else Dat.bind (num_Take (d0.2.1, d0.2.2)) fun (x14 : (List (Int)) × (Int)) =>
 Dat.bind (num_Put (x14.1, d0.2.2)) fun (x15 : (List (Int)) × (Int)) =>
 (bif x1 then (bif (Dat.ieq x14.2 0) then (bif (Dat.pickB true (Dat.ieq x15.2 0) false) then Dat.bind (ref01_Same (x15.1, d0.2.1)) fun (x16 : Bool) =>
 (bif (Dat.pickB true x16 false) then some (Dat.pickB true true false)
 else (bif (Dat.ine x14.2 0) then some (Dat.pickB true (Dat.pickB false true (Dat.pickB true (Dat.ieq (Dat.ofN (Dat.len x14.1)) 0) false)) false)
 else some (Dat.pickB true (Dat.pickB false true false) false)))
 else (bif (Dat.ine x14.2 0) then some (Dat.pickB true (Dat.pickB false true (Dat.pickB true (Dat.ieq (Dat.ofN (Dat.len x14.1)) 0) false)) false)
 else some (Dat.pickB true (Dat.pickB false true false) false)))
 else (bif (Dat.ine x14.2 0) then some (Dat.pickB true (Dat.pickB false true (Dat.pickB true (Dat.ieq (Dat.ofN (Dat.len x14.1)) 0) false)) false)
 else some (Dat.pickB true (Dat.pickB false true false) false)))
 else some false)))))
 else (bif (Dat.ine x2.2 0) then (bif (Dat.pickB false true (Dat.pickB true (Dat.igt (Dat.ofN (Dat.len x2.1)) 0) false)) then some false
 else Dat.bind (num_Take (d0.2.1, d0.2.2)) fun (x17 : (List (Int)) × (Int)) =>
 Dat.bind (num_Put (x17.1, d0.2.2)) fun (x18 : (List (Int)) × (Int)) =>
 (bif x1 then (bif (Dat.ieq x17.2 0) then (bif (Dat.pickB true (Dat.ieq x18.2 0) false) then Dat.bind (ref01_Same (x18.1, d0.2.1)) fun (x19 : Bool) =>
 (bif (Dat.pickB true x19 false) then some (Dat.pickB true true false)
 else (bif (Dat.ine x17.2 0) then some (Dat.pickB true (Dat.pickB false true (Dat.pickB true (Dat.ieq (Dat.ofN (Dat.len x17.1)) 0) false)) false)
 else some (Dat.pickB true (Dat.pickB false true false) false)))
 else (bif (Dat.ine x17.2 0) then some (Dat.pickB true (Dat.pickB false true (Dat.pickB true (Dat.ieq (Dat.ofN (Dat.len x17.1)) 0) false)) false)
 else some (Dat.pickB true (Dat.pickB false true false) false)))
 else (bif (Dat.ine x17.2 0) then some (Dat.pickB true (Dat.pickB false true (Dat.pickB true (Dat.ieq (Dat.ofN (Dat.len x17.1)) 0) false)) false)
 else some (Dat.pickB true (Dat.pickB false true false) false)))
 else some false))
 else (bif (Dat.pickB false true false) then some false
 else Dat.bind (num_Take (d0.2.1, d0.2.2)) fun (x20 : (List (Int)) × (Int)) =>
 Dat.bind (num_Put (x20.1, d0.2.2)) fun (x21 : (List (Int)) × (Int)) =>
 (bif x1 then (bif (Dat.ieq x20.2 0) then (bif (Dat.pickB true (Dat.ieq x21.2 0) false) then Dat.bind (ref01_Same (x21.1, d0.2.1)) fun (x22 : Bool) =>
 (bif (Dat.pickB true x22 false) then some (Dat.pickB true true false)
 else (bif (Dat.ine x20.2 0) then some (Dat.pickB true (Dat.pickB false true (Dat.pickB true (Dat.ieq (Dat.ofN (Dat.len x20.1)) 0) false)) false)
 else some (Dat.pickB true (Dat.pickB false true false) false)))
 else (bif (Dat.ine x20.2 0) then some (Dat.pickB true (Dat.pickB false true (Dat.pickB true (Dat.ieq (Dat.ofN (Dat.len x20.1)) 0) false)) false)
 else some (Dat.pickB true (Dat.pickB false true false) false)))
 else (bif (Dat.ine x20.2 0) then some (Dat.pickB true (Dat.pickB false true (Dat.pickB true (Dat.ieq (Dat.ofN (Dat.len x20.1)) 0) false)) false)
 else some (Dat.pickB true (Dat.pickB false true false) false)))
 else some false))))))))
noncomputable def p_law01_NumBack : PFn := { args := [(.list (.int .u64)), (.list (.int .u8)), (.list (.int .i64))], res := [.bool], fn := law01_NumBack }
theorem pd_law01_NumBack : PureD Try.prog cfg 6 p_law01_NumBack := fnD spf (l := [(12, p_law01_alive), (8, p_num_Put), (9, p_num_Take), (16, p_ref01_Same), (17, p_ref01_SameNumbers)]) cfgOk rfl (.cons pd_law01_alive (.cons pd_num_Put (.cons pd_num_Take (.cons pd_ref01_Same (.cons pd_ref01_SameNumbers .nil))))) (fun d => by kernel_rfl)

/-- thimblerig/thimbleriglaw01.NumParts -/
noncomputable def law01_NumParts (d0 : (List (Int)) × (List (Int))) : Option (Bool) :=
 Dat.bind (law01_alive ()) fun (x1 : Bool) =>
 (bif (Dat.igt (Dat.ofN (Dat.len d0.1)) 5000) then some x1
 else (bif (Dat.pickB false true (Dat.igt (Dat.ofN (Dat.len d0.2)) 100)) then some x1
 else (bif (Dat.pickB false true (Dat.bnot x1)) then some x1
 else Dat.bind (num_Cut (d0.1, d0.2)) fun (x2 : (List (List (Int))) × (Int)) =>
 Dat.bind (num_Size d0.2) fun (x3 : (Int) × (Int)) =>
 (bif (Dat.ine x2.2 0) then (bif x1 then (bif (Dat.pickB true (Dat.ieq (Dat.ofN (Dat.len x2.1)) 0) false) then (bif (Dat.ine x3.2 0) then some (Dat.pickB true true false)
 else some (Dat.pickB true (Dat.pickB false true (Dat.ine x3.1 (Dat.ofN (Dat.len d0.1)))) false))
 else some false)
 else some false)
 else (bif (Dat.ine x3.2 0) then some false
 else (bif (Dat.pickB false true (Dat.ine x3.1 (Dat.ofN (Dat.len d0.1)))) then some false
 else (bif (Dat.pickB false true (Dat.ine (Dat.ofN (Dat.len x2.1)) (Dat.ofN (Dat.len d0.2)))) then some false
 else if (Dat.EqN 0 (Dat.len ([] : List (Int)))) then Dat.loop (fun (s6 : (List (Int)) × (Int)) k7 =>
 (bif (Dat.ilt s6.2 (Dat.ofN (Dat.len x2.1))) then if (Dat.Ix s6.2 (Dat.len x2.1)) then Dat.bnd (Dat.get x2.1 (Dat.toN s6.2) ([] : List (Int))) fun (x10 : List (Int)) =>
 if (Dat.Ix s6.2 (Dat.len d0.2)) then Dat.bnd (Dat.get d0.2 (Dat.toN s6.2) 0) fun (x13 : Int) =>
 (bif (Dat.ine (Dat.ofN (Dat.len x10)) x13) then some false
 else if (Dat.Ix s6.2 (Dat.len x2.1)) then Dat.bnd (Dat.get x2.1 (Dat.toN s6.2) ([] : List (Int))) fun (x16 : List (Int)) =>
 if (Dat.Big (Dat.len s6.1) (Dat.len x16) 1) then none
 else if (Dat.EqN (Dat.len s6.1) (Dat.len s6.1)) then Dat.bnd (Dat.app s6.1 x16) fun (x21 : List (Int)) =>
 Dat.bnd (Dat.wrap .i64 (Dat.add s6.2 1)) fun (x22 : Int) =>
 if (Dat.EqN (Dat.len x21) (Dat.len x21)) then k7 (x21, x22)
 else none
 else none
 else none)
 else none
 else none
 else (bif x1 then Dat.bind (ref01_Same (s6.1, d0.1)) fun (x25 : Bool) =>
 some (Dat.pickB true x25 false)
 else some false))) (([] : List (Int)), 0)
 else none)))))))
noncomputable def p_law01_NumParts : PFn := { args := [(.list (.int .u8)), (.list (.int .i64))], res := [.bool], fn := law01_NumParts }
theorem pd_law01_NumParts : PureD Try.prog cfg 7 p_law01_NumParts := fnD spf (l := [(12, p_law01_alive), (10, p_num_Cut), (11, p_num_Size), (16, p_ref01_Same)]) cfgOk rfl (.cons pd_law01_alive (.cons pd_num_Cut (.cons pd_num_Size (.cons pd_ref01_Same .nil)))) (fun d => by kernel_rfl)
end Go.Proofs.Ytgaijhlncgakeaa
