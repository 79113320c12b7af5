/- The functions of the program, as functions on plain data. -/
import Derived.Test.YtgaijhlncgakeaaCfg
import Derived.Test.YtgaijhlncgakeaaM6
import Derived.ProofKit
namespace Go.Proofs.Ytgaijhlncgakeaa
open Go.Eng
set_option linter.unusedVariables false
set_option maxRecDepth 100000
def sp0 (f : Nat) : List LSpec × List Nat := ([], [])

/-- thimblerig/num.together -/
noncomputable def num_together (d0 : (List (Int)) × ((Int) × (Int))) : Option ((Int) × (Int)) :=
 (bif (Dat.igt (Dat.ofN (Dat.len d0.1)) 64) then some (0, 2)
 else Dat.loop (fun (s1 : (Int) × (Int)) k2 =>
 (bif (Dat.ilt s1.1 (Dat.ofN (Dat.len d0.1))) then if (Dat.Ix s1.1 (Dat.len d0.1)) then Dat.bnd (Dat.get d0.1 (Dat.toN s1.1) 0) fun (x5 : Int) =>
 (bif (Dat.ilt x5 d0.2.1) then some (0, 2)
 else (bif (Dat.pickB false true (Dat.igt x5 d0.2.2)) then some (0, 2)
 else Dat.bnd (Dat.wrap .i64 (Dat.add s1.2 x5)) fun (x6 : Int) =>
 (bif (Dat.bnot (Dat.ile x6 65536)) then some (0, 2)
 else Dat.bnd (Dat.wrap .i64 (Dat.add s1.1 1)) fun (x7 : Int) =>
 k2 (x7, x6))))
 else none
 else some (s1.2, 0))) (0, 0))
noncomputable def p_num_together : PFn := { args := [(.list (.int .i64)), (.int .i64), (.int .i64)], res := [(.int .i64), (.int .i64)], fn := num_together }
def sp21_21 : List LSpec × List Nat := ([{ id := 2100, known := true, toks := [], items := [.slot 18 (.val (.int .i64)), .cells 1000008 [.val (.int .i64)]], junk := [19, 20, 21, 11, 22, 23, 24, 25, 6, 7, 26], tails := [] }], [])
def spt21 : Tab (List LSpec × List Nat) := (.node (.node .leaf none (.node .leaf none (.node (.node .leaf (some sp21_21) .leaf) none .leaf))) none .leaf)
def spf21 (f : Nat) : List LSpec × List Nat := (spt21.get f).getD ([], [])
theorem pd_num_together : PureD Try.prog cfg 21 p_num_together := fnD spf21 (l := []) cfgOk cfgGlob .nil (fun d => by kernel_rfl)

/-- thimblerig/num.Size -/
noncomputable def num_Size (d0 : List (Int)) : Option ((Int) × (Int)) :=
 Dat.bind (num_together (d0, (0, 65536))) fun (x1 : (Int) × (Int)) =>
 some (x1.1, x1.2)
noncomputable def p_num_Size : PFn := { args := [(.list (.int .i64))], res := [(.int .i64), (.int .i64)], fn := num_Size }
theorem pd_num_Size : PureD Try.prog cfg 11 p_num_Size := fnD sp0 (l := [(21, p_num_together)]) cfgOk cfgGlob (.cons pd_num_together .nil) (fun d => by kernel_rfl)

/-- slices.Clone(()byte,byte) -/
noncomputable def slices_Clone_byte_byte (d0 : List (Int)) : Option (List (Int)) :=
 if (Dat.Le (Dat.addN 0 0) (Dat.len ([] : List (Int)))) then if (Dat.EqN (Dat.len d0) 0) then if (Dat.Le (Dat.addN 0 0) (Dat.len ([] : List (Int)))) then some (Dat.seg ([] : List (Int)) 0 0)
 else none
 else if (Dat.Big (Dat.len (Dat.seg ([] : List (Int)) 0 0)) (Dat.len d0) 1) then none
 else Dat.bnd (Dat.app (Dat.seg ([] : List (Int)) 0 0) d0) fun (x9 : List (Int)) =>
 if (Dat.Le (Dat.addN 0 (Dat.len x9)) (Dat.len x9)) then some (Dat.seg x9 0 (Dat.len x9))
 else none
 else none
noncomputable def p_slices_Clone_byte_byte : PFn := { args := [(.list (.int .u8))], res := [(.list (.int .u8))], fn := slices_Clone_byte_byte }
noncomputable def cx25 : CloneX Try.prog cfg 25 5 (.int .u8) := clx xf25 5 (xf25.body.cOps.getD 0 ⟨none, .move (.tmp 0), 0, "", #[], none⟩) (xf25.body.cOps.getD 1 ⟨none, .move (.tmp 0), 0, "", #[], none⟩) (by kernel_rfl) (by kernel_rfl) (by kernel_rfl) (by kernel_rfl) (by kernel_rfl) (by kernel_rfl) (by kernel_rfl) (by kernel_rfl) (by kernel_rfl)
def sp25_25 : List LSpec × List Nat := ([], [3])
def spt25 : Tab (List LSpec × List Nat) := (.node (.node .leaf none (.node (.node .leaf none (.node .leaf (some sp25_25) .leaf)) none .leaf)) none .leaf)
def spf25 (f : Nat) : List LSpec × List Nat := (spt25.get f).getD ([], [])
theorem pd_slices_Clone_byte_byte : PureD Try.prog cfg 25 p_slices_Clone_byte_byte := cloneD spf25 cfgOk cfgGlob cx25 (of_decide_eq_true (by kernel_rfl)) (by kernel_rfl) (by kernel_rfl) (by kernel_rfl) (fun d => by kernel_rfl) (fun d => by kernel_rfl) (by kernel_rfl) (fun d r h => by
  unfold slices_Clone_byte_byte at h
  split at h
  · split at h
    · rename_i e
      have h1 := Option.some.inj h
      rw [← h1]
      exact (List.length_eq_zero_iff.1 e).symm
    · split at h
      · cases h
      · simp only [Dat.bnd] at h
        split at h
        · have h1 : (d.drop 0).take d.length = r := Option.some.inj h
          rw [← h1]
          simp
        · cases h
  · cases h)
noncomputable def o_slices_Clone_byte_byte : OFn := { args := [(.list (.int .u8))], ores := [(.own (.int .u8))], fn := slices_Clone_byte_byte }
theorem od_slices_Clone_byte_byte : OwnD Try.prog cfg 25 o_slices_Clone_byte_byte ∧ True := ⟨cloneO spf25 cfgOk cfgGlob cx25 (of_decide_eq_true (by kernel_rfl)) (by kernel_rfl) (by kernel_rfl) (by kernel_rfl) (fun d => by kernel_rfl) (fun d => by kernel_rfl) (by kernel_rfl) (fun d r h => by
  unfold slices_Clone_byte_byte at h
  split at h
  · split at h
    · rename_i e
      have h1 := Option.some.inj h
      rw [← h1]
      exact (List.length_eq_zero_iff.1 e).symm
    · split at h
      · cases h
      · simp only [Dat.bnd] at h
        split at h
        · have h1 : (d.drop 0).take d.length = r := Option.some.inj h
          rw [← h1]
          simp
        · cases h
  · cases h), trivial⟩

/-- thimblerig/num.Cut -/
noncomputable def num_Cut (d0 : (List (Int)) × (List (Int))) : Option ((List (List (Int))) × (Int)) :=
 Dat.bind (num_Size d0.2) fun (x1 : (Int) × (Int)) =>
 (bif (Dat.ine x1.2 0) then some (([] : List (List (Int))), x1.2)
 else (bif (Dat.ine (Dat.ofN (Dat.len d0.1)) x1.1) then some (([] : List (List (Int))), 10)
 else Dat.bind (slices_Clone_byte_byte d0.1) fun (x2 : List (Int)) =>
 if (Dat.MkOk (Dat.ofN (Dat.len d0.2)) (Dat.ofN (Dat.len d0.2)) 24) then Dat.loop (fun (s5 : (Int) × ((Int) × (List (List (Int))))) k6 =>
 (bif (Dat.ilt s5.2.1 (Dat.ofN (Dat.len d0.2))) then if (Dat.Ix s5.2.1 (Dat.len d0.2)) then Dat.bnd (Dat.get d0.2 (Dat.toN s5.2.1) 0) fun (x9 : Int) =>
 Dat.bnd (Dat.wrap .i64 (Dat.add s5.1 x9)) fun (x10 : Int) =>
 Dat.bnd (Dat.wrap .i64 (Dat.add s5.1 x9)) fun (x11 : Int) =>
 if (Dat.Bd x11 (Dat.len x2)) then if (Dat.Bd x10 (Dat.toN x11)) then if (Dat.Bd s5.1 (Dat.toN x10)) then Dat.bnd (Dat.slice x2 (Dat.toN s5.1) (Dat.toN x10)) fun (x18 : List (Int)) =>
 if (Dat.In s5.2.1 (Dat.toN (Dat.ofN (Dat.len d0.2)))) then if (Dat.Lt (Dat.addN 0 (Dat.toN s5.2.1)) (Dat.len s5.2.2)) then Dat.bnd (Dat.set s5.2.2 (Dat.addN 0 (Dat.toN s5.2.1)) x18) fun (x23 : List (List (Int))) =>
 Dat.bnd (Dat.wrap .i64 (Dat.add s5.1 x9)) fun (x24 : Int) =>
 Dat.bnd (Dat.wrap .i64 (Dat.add s5.2.1 1)) fun (x25 : Int) =>
 k6 (x24, (x25, x23))
 else none
 else none
 else none
 else none
 else none
 else none
 else if (Dat.Le (Dat.addN 0 (Dat.toN (Dat.ofN (Dat.len d0.2)))) (Dat.len s5.2.2)) then some ((Dat.seg s5.2.2 0 (Dat.toN (Dat.ofN (Dat.len d0.2)))), 0)
 else none)) (0, (0, (Dat.rep (α := List (Int)) (Dat.toN (Dat.ofN (Dat.len d0.2))) ([] : List (Int)))))
 else none))
noncomputable def p_num_Cut : PFn := { args := [(.list (.int .u8)), (.list (.int .i64))], res := [(.list (.list (.int .u8))), (.int .i64)], fn := num_Cut }
def sp10_10 : List LSpec × List Nat := ([{ id := 1000, known := true, toks := [], items := [.slot 10 (.val (.int .i64)), .slot 32 (.val (.int .i64)), .vec 1000009 (.list (.int .u8))], junk := [33, 34, 35, 36, 11, 12, 37, 38, 39, 40, 41, 42, 43, 44, 45, 46, 47, 48, 49, 50, 51, 52], tails := [] }], [])
def spt10 : Tab (List LSpec × List Nat) := (.node .leaf none (.node .leaf none (.node (.node .leaf (some sp10_10) .leaf) none .leaf)))
def spf10 (f : Nat) : List LSpec × List Nat := (spt10.get f).getD ([], [])
theorem pd_num_Cut : PureD Try.prog cfg 10 p_num_Cut := fnD spf10 (l := [(11, p_num_Size), (25, p_slices_Clone_byte_byte)]) cfgOk cfgGlob (.cons pd_num_Size (.cons pd_slices_Clone_byte_byte .nil)) (fun d => by kernel_rfl)

/-- thimblerig/num.Cut -/
noncomputable def num_Cut_r (d0 : (List (Int)) × (List (Int))) : Option (((List (List (Int))) × (List (List (MixE (Int))))) × ((MixE (MixE (Int))) × (Int))) :=
 Dat.bind (num_Size d0.2) fun (x1 : (Int) × (Int)) =>
 (bif (Dat.ine x1.2 0) then some ((([] : List (List (Int))), ([] : List (List (MixE (Int))))), ((Dat.xnil (α := MixE (Int)) ), x1.2))
 else (bif (Dat.ine (Dat.ofN (Dat.len d0.1)) x1.1) then some ((([] : List (List (Int))), ([] : List (List (MixE (Int))))), ((Dat.xnil (α := MixE (Int)) ), 10))
 else Dat.bind (slices_Clone_byte_byte d0.1) fun (x2 : List (Int)) =>
 if (Dat.EqN (Dat.len x2) 0) then if (Dat.MkOk (Dat.ofN (Dat.len d0.2)) (Dat.ofN (Dat.len d0.2)) 24) then if (Dat.Le (Dat.addN 0 (Dat.toN (Dat.ofN (Dat.len d0.2)))) (Dat.len (Dat.rep (α := List (Int)) (Dat.toN (Dat.ofN (Dat.len d0.2))) ([] : List (Int))))) then Dat.bind (Dat.mapO (fun (e9 : List (Int)) =>
 some (Dat.xdata e9)) (Dat.seg (Dat.rep (α := List (Int)) (Dat.toN (Dat.ofN (Dat.len d0.2))) ([] : List (Int))) 0 (Dat.toN (Dat.ofN (Dat.len d0.2))))) fun (x10 : List (MixE (Int))) =>
 Dat.loop (fun (s11 : (Int) × ((Int) × ((MixE (Int)) × ((List (List (Int))) × ((MixE (MixE (Int))) × (List (List (MixE (Int))))))))) k12 =>
 (bif (Dat.ilt s11.2.1 (Dat.ofN (Dat.len d0.2))) then if (Dat.Ix s11.2.1 (Dat.len d0.2)) then Dat.bnd (Dat.get d0.2 (Dat.toN s11.2.1) 0) fun (x15 : Int) =>
 Dat.bnd (Dat.wrap .i64 (Dat.add s11.1 x15)) fun (x16 : Int) =>
 Dat.bnd (Dat.wrap .i64 (Dat.add s11.1 x15)) fun (x17 : Int) =>
 if (Dat.XCut s11.2.2.2.1 s11.2.2.1) then if (Dat.Bd x17 (Dat.xlen s11.2.2.1)) then if (Dat.Bd x16 (Dat.toN x17)) then if (Dat.Bd s11.1 (Dat.toN x16)) then Dat.bnd (Dat.xcut s11.2.2.1 (Dat.toN s11.1) (Dat.toN x16)) fun (x26 : MixE (Int)) =>
 if (Dat.Ix s11.2.1 (Dat.xlen s11.2.2.2.2.1)) then if (Dat.XPt s11.2.2.2.2.2 s11.2.2.2.2.1 (Dat.toN s11.2.1)) then if (Dat.XPt s11.2.2.2.2.2 s11.2.2.2.2.1 (Dat.toN s11.2.1)) then Dat.bnd (Dat.xset s11.2.2.2.2.2 s11.2.2.2.2.1 (Dat.toN s11.2.1) x26) fun (x33 : List (List (MixE (Int)))) =>
 Dat.bnd (Dat.wrap .i64 (Dat.add s11.1 x15)) fun (x34 : Int) =>
 Dat.bnd (Dat.wrap .i64 (Dat.add s11.2.1 1)) fun (x35 : Int) =>
 k12 (x34, (x35, (s11.2.2.1, (s11.2.2.2.1, (s11.2.2.2.2.1, x33)))))
 else none
 else none
 else none
 else none
 else none
 else none
 else none
 else none
 else some ((s11.2.2.2.1, s11.2.2.2.2.2), (s11.2.2.2.2.1, 0)))) (0, (0, ((Dat.xdata x2), (([] : List (List (Int))), ((Dat.xnew (α := MixE (Int)) 0 (Dat.toN (Dat.ofN (Dat.len d0.2)))), (x10 :: ([] : List (List (MixE (Int))))))))))
 else none
 else none
 else if (Dat.MkOk (Dat.ofN (Dat.len d0.2)) (Dat.ofN (Dat.len d0.2)) 24) then if (Dat.Le (Dat.addN 0 (Dat.len x2)) (Dat.len x2)) then if (Dat.Le (Dat.addN 0 (Dat.toN (Dat.ofN (Dat.len d0.2)))) (Dat.len (Dat.rep (α := List (Int)) (Dat.toN (Dat.ofN (Dat.len d0.2))) ([] : List (Int))))) then Dat.bind (Dat.mapO (fun (e42 : List (Int)) =>
 some (Dat.xdata e42)) (Dat.seg (Dat.rep (α := List (Int)) (Dat.toN (Dat.ofN (Dat.len d0.2))) ([] : List (Int))) 0 (Dat.toN (Dat.ofN (Dat.len d0.2))))) fun (x43 : List (MixE (Int))) =>
 Dat.loop (fun (s44 : (Int) × ((Int) × ((MixE (Int)) × ((List (List (Int))) × ((MixE (MixE (Int))) × (List (List (MixE (Int))))))))) k45 =>
 (bif (Dat.ilt s44.2.1 (Dat.ofN (Dat.len d0.2))) then if (Dat.Ix s44.2.1 (Dat.len d0.2)) then Dat.bnd (Dat.get d0.2 (Dat.toN s44.2.1) 0) fun (x48 : Int) =>
 Dat.bnd (Dat.wrap .i64 (Dat.add s44.1 x48)) fun (x49 : Int) =>
 Dat.bnd (Dat.wrap .i64 (Dat.add s44.1 x48)) fun (x50 : Int) =>
 if (Dat.XCut s44.2.2.2.1 s44.2.2.1) then if (Dat.Bd x50 (Dat.xlen s44.2.2.1)) then if (Dat.Bd x49 (Dat.toN x50)) then if (Dat.Bd s44.1 (Dat.toN x49)) then Dat.bnd (Dat.xcut s44.2.2.1 (Dat.toN s44.1) (Dat.toN x49)) fun (x59 : MixE (Int)) =>
 if (Dat.Ix s44.2.1 (Dat.xlen s44.2.2.2.2.1)) then if (Dat.XPt s44.2.2.2.2.2 s44.2.2.2.2.1 (Dat.toN s44.2.1)) then if (Dat.XPt s44.2.2.2.2.2 s44.2.2.2.2.1 (Dat.toN s44.2.1)) then Dat.bnd (Dat.xset s44.2.2.2.2.2 s44.2.2.2.2.1 (Dat.toN s44.2.1) x59) fun (x66 : List (List (MixE (Int)))) =>
 Dat.bnd (Dat.wrap .i64 (Dat.add s44.1 x48)) fun (x67 : Int) =>
 Dat.bnd (Dat.wrap .i64 (Dat.add s44.2.1 1)) fun (x68 : Int) =>
 k45 (x67, (x68, (s44.2.2.1, (s44.2.2.2.1, (s44.2.2.2.2.1, x66)))))
 else none
 else none
 else none
 else none
 else none
 else none
 else none
 else none
 else some ((s44.2.2.2.1, s44.2.2.2.2.2), (s44.2.2.2.2.1, 0)))) (0, (0, ((Dat.xnew (α := Int) 0 (Dat.len x2)), (((Dat.seg x2 0 (Dat.len x2)) :: ([] : List (List (Int)))), ((Dat.xnew (α := MixE (Int)) 0 (Dat.toN (Dat.ofN (Dat.len d0.2)))), (x43 :: ([] : List (List (MixE (Int))))))))))
 else none
 else none
 else none))
def sp100010_10 : List LSpec × List Nat := ([{ id := 1000, known := true, toks := [(8000008, (.int .u8)), (8000009, (.mix 1000008 (.int .u8)))], items := [.slot 10 (.val (.int .i64)), .slot 32 (.val (.int .i64)), .slot 8 (.val (.mix 1000008 (.int .u8))), .rows 1000008 (.int .u8), .slot 9 (.val (.mix 1000009 (.mix 1000008 (.int .u8)))), .rows 1000009 (.mix 1000008 (.int .u8))], junk := [33, 34, 35, 36, 11, 12, 37, 38, 39, 40, 41, 42, 43, 44, 45, 46, 47, 48, 49, 50, 51, 52], tails := [] }], [])
def spt100010 : Tab (List LSpec × List Nat) := (.node .leaf none (.node .leaf none (.node (.node .leaf (some sp100010_10) .leaf) none .leaf)))
def spf100010 (f : Nat) : List LSpec × List Nat := (spt100010.get f).getD ([], [])
noncomputable def r_num_Cut_r : RFn := { args := [(.list (.int .u8)), (.list (.int .i64))], objs := [(.int .u8), (.mix 0 (.int .u8))], res := [(.mix 1 (.mix 0 (.int .u8))), (.int .i64)], fn := num_Cut_r }
theorem rd_num_Cut_r : OwnR Try.prog cfg 10 r_num_Cut_r := fnR spf100010 [] (l := [(11, p_num_Size), (25, p_slices_Clone_byte_byte)]) (lo := [(25, o_slices_Clone_byte_byte)]) (lr := []) cfgOk cfgGlob (.cons pd_num_Size (.cons pd_slices_Clone_byte_byte .nil)) (.cons od_slices_Clone_byte_byte.1 .nil) .nil (fun d => by kernel_rfl)

/-- thimblerig/num.shiftTogether -/
noncomputable def num_shiftTogether (d0 : List (Int)) : Option (Int) :=
 Dat.loop (fun (s1 : (Int) × (Int)) k2 =>
 (bif (Dat.ilt s1.2 (Dat.ofN (Dat.len d0))) then if (Dat.Ix s1.2 (Dat.len d0)) then Dat.bnd (Dat.get d0 (Dat.toN s1.2) 0) fun (x5 : Int) =>
 Dat.bnd (Dat.wrap .u64 x5) fun (x6 : Int) =>
 Dat.bnd (Dat.wrap .i64 (Dat.mul 8 s1.2)) fun (x7 : Int) =>
 if (Dat.Neg x7) then none
 else Dat.bnd (Dat.shl .u64 x6 x7) fun (x10 : Int) =>
 Dat.bnd (Dat.bor .u64 s1.1 x10) fun (x11 : Int) =>
 Dat.bnd (Dat.wrap .i64 (Dat.add s1.2 1)) fun (x12 : Int) =>
 k2 (x11, x12)
 else none
 else some s1.1)) (0, 0)
noncomputable def p_num_shiftTogether : PFn := { args := [(.list (.int .u8))], res := [(.int .u64)], fn := num_shiftTogether }
def sp24_24 : List LSpec × List Nat := ([{ id := 2400, known := true, toks := [], items := [.slot 3 (.val (.int .u64)), .slot 7 (.val (.int .i64))], junk := [8, 9, 4, 10, 11, 12, 13, 14, 15, 16, 17, 18, 19, 20], tails := [] }], [])
def spt24 : Tab (List LSpec × List Nat) := (.node .leaf none (.node (.node (.node .leaf none (.node .leaf (some sp24_24) .leaf)) none .leaf) none .leaf))
def spf24 (f : Nat) : List LSpec × List Nat := (spt24.get f).getD ([], [])
theorem pd_num_shiftTogether : PureD Try.prog cfg 24 p_num_shiftTogether := fnD spf24 (l := []) cfgOk cfgGlob .nil (fun d => by kernel_rfl)

/-- thimblerig/num.Take -/
noncomputable def num_Take (d0 : (List (Int)) × (List (Int))) : Option ((List (Int)) × (Int)) :=
 Dat.bind (num_together (d0.2, (1, 8))) fun (x1 : (Int) × (Int)) =>
 (bif (Dat.ine x1.2 0) then some (([] : List (Int)), x1.2)
 else Dat.bind (num_Cut (d0.1, d0.2)) fun (x2 : (List (List (Int))) × (Int)) =>
 (bif (Dat.ine x2.2 0) then some (([] : List (Int)), x2.2)
 else if (Dat.MkOk (Dat.ofN (Dat.len x2.1)) (Dat.ofN (Dat.len x2.1)) 8) then Dat.loop (fun (s5 : (Int) × (List (Int))) k6 =>
 (bif (Dat.ilt s5.1 (Dat.ofN (Dat.len x2.1))) then if (Dat.Ix s5.1 (Dat.len x2.1)) then Dat.bnd (Dat.get x2.1 (Dat.toN s5.1) ([] : List (Int))) fun (x9 : List (Int)) =>
 Dat.bind (num_shiftTogether x9) fun (x10 : Int) =>
 if (Dat.In s5.1 (Dat.toN (Dat.ofN (Dat.len x2.1)))) then if (Dat.Lt (Dat.addN 0 (Dat.toN s5.1)) (Dat.len s5.2)) then Dat.bnd (Dat.set s5.2 (Dat.addN 0 (Dat.toN s5.1)) x10) fun (x15 : List (Int)) =>
 Dat.bnd (Dat.wrap .i64 (Dat.add s5.1 1)) fun (x16 : Int) =>
 k6 (x16, x15)
 else none
 else none
 else none
 else if (Dat.Le (Dat.addN 0 (Dat.toN (Dat.ofN (Dat.len x2.1)))) (Dat.len s5.2)) then some ((Dat.seg s5.2 0 (Dat.toN (Dat.ofN (Dat.len x2.1)))), 0)
 else none)) (0, (Dat.rep (α := Int) (Dat.toN (Dat.ofN (Dat.len x2.1))) 0))
 else none))
noncomputable def p_num_Take : PFn := { args := [(.list (.int .u8)), (.list (.int .i64))], res := [(.list (.int .u64)), (.int .i64)], fn := num_Take }
def sp9_9 : List LSpec × List Nat := ([{ id := 900, known := true, toks := [], items := [.slot 35 (.val (.int .i64)), .vec 1000010 (.int .u64)], junk := [36, 37, 38, 39, 11, 12, 40, 41, 42, 43, 44, 45], tails := [] }], [])
def spt9 : Tab (List LSpec × List Nat) := (.node (.node .leaf none (.node (.node .leaf (some sp9_9) .leaf) none .leaf)) none .leaf)
def spf9 (f : Nat) : List LSpec × List Nat := (spt9.get f).getD ([], [])
theorem pd_num_Take : PureD Try.prog cfg 9 p_num_Take := fnD spf9 (l := [(21, p_num_together), (10, p_num_Cut), (24, p_num_shiftTogether)]) cfgOk cfgGlob (.cons pd_num_together (.cons pd_num_Cut (.cons pd_num_shiftTogether .nil))) (fun d => by kernel_rfl)

/-- thimblerig/thimblerigref01.Total -/
noncomputable def ref01_Total (d0 : List (Int)) : Option (Int) :=
 (bif (Dat.igt (Dat.ofN (Dat.len d0)) 64) then some (-1)
 else Dat.loop (fun (s1 : (Int) × (Int)) k2 =>
 (bif (Dat.ilt s1.2 (Dat.ofN (Dat.len d0))) then if (Dat.Ix s1.2 (Dat.len d0)) then Dat.bnd (Dat.get d0 (Dat.toN s1.2) 0) fun (x5 : Int) =>
 (bif (Dat.ilt x5 0) then some (-1)
 else if (Dat.Ix s1.2 (Dat.len d0)) then Dat.bnd (Dat.get d0 (Dat.toN s1.2) 0) fun (x8 : Int) =>
 (bif (Dat.pickB false true (Dat.igt x8 65536)) then some (-1)
 else if (Dat.Ix s1.2 (Dat.len d0)) then Dat.bnd (Dat.get d0 (Dat.toN s1.2) 0) fun (x11 : Int) =>
 Dat.bnd (Dat.wrap .i64 (Dat.add s1.1 x11)) fun (x12 : Int) =>
 Dat.bnd (Dat.wrap .i64 (Dat.add s1.2 1)) fun (x13 : Int) =>
 k2 (x12, x13)
 else none)
 else none)
 else none
 else (bif (Dat.igt s1.1 65536) then some (-1)
 else some s1.1))) (0, 0))
noncomputable def p_ref01_Total : PFn := { args := [(.list (.int .i64))], res := [(.int .i64)], fn := ref01_Total }
def sp28_28 : List LSpec × List Nat := ([{ id := 2800, known := true, toks := [], items := [.slot 3 (.val (.int .i64)), .slot 4 (.val (.int .i64))], junk := [8, 9, 10, 11, 14, 15, 16, 17, 18, 19, 20, 21, 22, 23, 24, 25, 2, 26, 27, 28, 29, 30, 31, 12, 13], tails := [] }], [])
def spt28 : Tab (List LSpec × List Nat) := (.node .leaf none (.node (.node .leaf none (.node .leaf none (.node .leaf (some sp28_28) .leaf))) none .leaf))
def spf28 (f : Nat) : List LSpec × List Nat := (spt28.get f).getD ([], [])
theorem pd_ref01_Total : PureD Try.prog cfg 28 p_ref01_Total := fnD spf28 (l := []) cfgOk cfgGlob .nil (fun d => by kernel_rfl)

/-- thimblerig/thimblerigref01.numbers -/
noncomputable def ref01_numbers (d0 : List (Int)) : Option (Bool) :=
 Dat.loop (fun (s1 : Int) k2 =>
 (bif (Dat.ilt s1 (Dat.ofN (Dat.len d0))) then if (Dat.Ix s1 (Dat.len d0)) then Dat.bnd (Dat.get d0 (Dat.toN s1) 0) fun (x5 : Int) =>
 (bif (Dat.ilt x5 1) then some false
 else if (Dat.Ix s1 (Dat.len d0)) then Dat.bnd (Dat.get d0 (Dat.toN s1) 0) fun (x8 : Int) =>
 (bif (Dat.pickB false true (Dat.igt x8 8)) then some false
 else Dat.bnd (Dat.wrap .i64 (Dat.add s1 1)) fun (x9 : Int) =>
 k2 x9)
 else none)
 else none
 else Dat.bind (ref01_Total d0) fun (x10 : Int) =>
 some (Dat.ige x10 0))) 0
noncomputable def p_ref01_numbers : PFn := { args := [(.list (.int .i64))], res := [.bool], fn := ref01_numbers }
def sp26_26 : List LSpec × List Nat := ([{ id := 2600, known := true, toks := [], items := [.slot 3 (.val (.int .i64))], junk := [4, 5, 6, 7, 10, 11, 12, 13, 14, 15, 16, 17, 18, 19, 20, 21, 2, 8, 9], tails := [] }], [])
def spt26 : Tab (List LSpec × List Nat) := (.node .leaf none (.node .leaf none (.node (.node .leaf none (.node .leaf (some sp26_26) .leaf)) none .leaf)))
def spf26 (f : Nat) : List LSpec × List Nat := (spt26.get f).getD ([], [])
theorem pd_ref01_numbers : PureD Try.prog cfg 26 p_ref01_numbers := fnD spf26 (l := [(28, p_ref01_Total)]) cfgOk cfgGlob (.cons pd_ref01_Total .nil) (fun d => by kernel_rfl)

/-- thimblerig/thimblerigref01.Number -/
noncomputable def ref01_Number (d0 : List (Int)) : Option (Int) :=
 Dat.bnd (Dat.wrap .i64 (Dat.sub (Dat.ofN (Dat.len d0)) 1)) fun (x1 : Int) =>
 Dat.loop (fun (s2 : (Int) × (Int)) k3 =>
 (bif (Dat.ige s2.2 0) then Dat.bnd (Dat.wrap .u64 (Dat.mul 256 s2.1)) fun (x4 : Int) =>
 if (Dat.Ix s2.2 (Dat.len d0)) then Dat.bnd (Dat.get d0 (Dat.toN s2.2) 0) fun (x7 : Int) =>
 Dat.bnd (Dat.wrap .u64 x7) fun (x8 : Int) =>
 Dat.bnd (Dat.wrap .u64 (Dat.add x4 x8)) fun (x9 : Int) =>
 Dat.bnd (Dat.wrap .i64 (Dat.sub s2.2 1)) fun (x10 : Int) =>
 k3 (x9, x10)
 else none
 else some s2.1)) (0, x1)
noncomputable def p_ref01_Number : PFn := { args := [(.list (.int .u8))], res := [(.int .u64)], fn := ref01_Number }
def sp29_29 : List LSpec × List Nat := ([{ id := 2900, known := true, toks := [], items := [.slot 3 (.val (.int .u64)), .slot 4 (.val (.int .i64))], junk := [8, 9, 12, 13, 14, 15, 16, 17, 18, 19, 10, 11], tails := [] }], [])
def spt29 : Tab (List LSpec × List Nat) := (.node (.node .leaf none (.node .leaf none (.node .leaf none (.node .leaf (some sp29_29) .leaf)))) none .leaf)
def spf29 (f : Nat) : List LSpec × List Nat := (spt29.get f).getD ([], [])
theorem pd_ref01_Number : PureD Try.prog cfg 29 p_ref01_Number := fnD spf29 (l := []) cfgOk cfgGlob .nil (fun d => by kernel_rfl)

/-- thimblerig/thimblerigref01.Take -/
noncomputable def ref01_Take (d0 : (List (Int)) × (List (Int))) : Option ((List (Int)) × (Int)) :=
 Dat.bind (ref01_numbers d0.2) fun (x1 : Bool) =>
 (bif (Dat.bnot x1) then some (([] : List (Int)), 2)
 else Dat.bind (ref01_Total d0.2) fun (x2 : Int) =>
 (bif (Dat.ine (Dat.ofN (Dat.len d0.1)) x2) then some (([] : List (Int)), 10)
 else if (Dat.EqN 0 (Dat.len ([] : List (Int)))) then Dat.loop (fun (s5 : (List (Int)) × ((Int) × (Int))) k6 =>
 (bif (Dat.ilt s5.2.2 (Dat.ofN (Dat.len d0.2))) then if (Dat.Ix s5.2.2 (Dat.len d0.2)) then Dat.bnd (Dat.get d0.2 (Dat.toN s5.2.2) 0) fun (x9 : Int) =>
 Dat.bnd (Dat.wrap .i64 (Dat.add s5.2.1 x9)) fun (x10 : Int) =>
 if (Dat.Bd x10 (Dat.len d0.1)) then if (Dat.Bd s5.2.1 (Dat.toN x10)) then Dat.bnd (Dat.slice d0.1 (Dat.toN s5.2.1) (Dat.toN x10)) fun (x15 : List (Int)) =>
 Dat.bind (ref01_Number x15) fun (x16 : Int) =>
 if (Dat.Le (Dat.addN 0 1) (Dat.len (x16 :: ([] : List (Int))))) then if (Dat.Big (Dat.len s5.1) (Dat.len (Dat.seg (x16 :: ([] : List (Int))) 0 1)) 8) then none
 else if (Dat.EqN (Dat.len s5.1) (Dat.len s5.1)) then Dat.bnd (Dat.app s5.1 (Dat.seg (x16 :: ([] : List (Int))) 0 1)) fun (x23 : List (Int)) =>
 if (Dat.Ix s5.2.2 (Dat.len d0.2)) then Dat.bnd (Dat.get d0.2 (Dat.toN s5.2.2) 0) fun (x26 : Int) =>
 Dat.bnd (Dat.wrap .i64 (Dat.add s5.2.1 x26)) fun (x27 : Int) =>
 Dat.bnd (Dat.wrap .i64 (Dat.add s5.2.2 1)) fun (x28 : Int) =>
 if (Dat.EqN (Dat.len x23) (Dat.len x23)) then k6 (x23, (x27, x28))
 else none
 else none
 else none
 else none
 else none
 else none
 else none
 else some (s5.1, 0))) (([] : List (Int)), (0, 0))
 else none))
noncomputable def p_ref01_Take : PFn := { args := [(.list (.int .u8)), (.list (.int .i64))], res := [(.list (.int .u64)), (.int .i64)], fn := ref01_Take }
def sp19_19 : List LSpec × List Nat := ([{ id := 1900, known := true, toks := [(6, (.int .u64))], items := [.slot 6 (.slt (.int .u64) (some 1000006) false), .slot 7 (.val (.int .i64)), .slot 8 (.val (.int .i64))], junk := [17, 18, 19, 20, 23, 24, 25, 26, 27, 28, 29, 30, 31, 32, 33, 34, 35, 36, 37, 38, 39, 40, 41, 21, 22], tails := [(1000006, 6)] }], [])
def spt19 : Tab (List LSpec × List Nat) := (.node (.node (.node .leaf none (.node (.node .leaf (some sp19_19) .leaf) none .leaf)) none .leaf) none .leaf)
def spf19 (f : Nat) : List LSpec × List Nat := (spt19.get f).getD ([], [])
theorem pd_ref01_Take : PureD Try.prog cfg 19 p_ref01_Take := fnD spf19 (l := [(26, p_ref01_numbers), (28, p_ref01_Total), (29, p_ref01_Number)]) cfgOk cfgGlob (.cons pd_ref01_numbers (.cons pd_ref01_Total (.cons pd_ref01_Number .nil))) (fun d => by kernel_rfl)

/-- thimblerig/thimblerigref01.Cut -/
noncomputable def ref01_Cut (d0 : (List (Int)) × (List (Int))) : Option ((List (List (Int))) × (Int)) :=
 Dat.bind (ref01_Total d0.2) fun (x1 : Int) =>
 (bif (Dat.ilt x1 0) then some (([] : List (List (Int))), 2)
 else (bif (Dat.ine (Dat.ofN (Dat.len d0.1)) x1) then some (([] : List (List (Int))), 10)
 else if (Dat.EqN 0 (Dat.len ([] : List (List (Int))))) then Dat.loop (fun (s4 : (List (List (Int))) × ((Int) × (Int))) k5 =>
 (bif (Dat.ilt s4.2.2 (Dat.ofN (Dat.len d0.2))) then if (Dat.Ix s4.2.2 (Dat.len d0.2)) then Dat.bnd (Dat.get d0.2 (Dat.toN s4.2.2) 0) fun (x8 : Int) =>
 Dat.bnd (Dat.wrap .i64 (Dat.add s4.2.1 x8)) fun (x9 : Int) =>
 if (Dat.Bd x9 (Dat.len d0.1)) then if (Dat.Bd s4.2.1 (Dat.toN x9)) then Dat.bnd (Dat.slice d0.1 (Dat.toN s4.2.1) (Dat.toN x9)) fun (x14 : List (Int)) =>
 if (Dat.Le (Dat.addN 0 0) (Dat.len ([] : List (Int)))) then if (Dat.Big (Dat.len (Dat.seg ([] : List (Int)) 0 0)) (Dat.len x14) 1) then none
 else Dat.bnd (Dat.app (Dat.seg ([] : List (Int)) 0 0) x14) fun (x19 : List (Int)) =>
 if (Dat.Le (Dat.addN 0 1) (Dat.len (x19 :: ([] : List (List (Int)))))) then if (Dat.Big (Dat.len s4.1) (Dat.len (Dat.seg (x19 :: ([] : List (List (Int)))) 0 1)) 24) then none
 else if (Dat.EqN (Dat.len s4.1) (Dat.len s4.1)) then Dat.bnd (Dat.app s4.1 (Dat.seg (x19 :: ([] : List (List (Int)))) 0 1)) fun (x26 : List (List (Int))) =>
 if (Dat.Ix s4.2.2 (Dat.len d0.2)) then Dat.bnd (Dat.get d0.2 (Dat.toN s4.2.2) 0) fun (x29 : Int) =>
 Dat.bnd (Dat.wrap .i64 (Dat.add s4.2.1 x29)) fun (x30 : Int) =>
 Dat.bnd (Dat.wrap .i64 (Dat.add s4.2.2 1)) fun (x31 : Int) =>
 if (Dat.EqN (Dat.len x26) (Dat.len x26)) then k5 (x26, (x30, x31))
 else none
 else none
 else none
 else none
 else none
 else none
 else none
 else none
 else some (s4.1, 0))) (([] : List (List (Int))), (0, 0))
 else none))
noncomputable def p_ref01_Cut : PFn := { args := [(.list (.int .u8)), (.list (.int .i64))], res := [(.list (.list (.int .u8))), (.int .i64)], fn := ref01_Cut }
def sp20_20 : List LSpec × List Nat := ([{ id := 2000, known := true, toks := [(7, (.list (.int .u8)))], items := [.slot 7 (.slt (.list (.int .u8)) (some 1000007) false), .slot 8 (.val (.int .i64)), .slot 9 (.val (.int .i64))], junk := [18, 19, 20, 21, 24, 25, 26, 27, 28, 29, 30, 31, 32, 33, 34, 35, 36, 37, 38, 39, 40, 41, 42, 43, 22, 23], tails := [(1000007, 7)] }], [])
def spt20 : Tab (List LSpec × List Nat) := (.node .leaf none (.node (.node .leaf none (.node (.node .leaf (some sp20_20) .leaf) none .leaf)) none .leaf))
def spf20 (f : Nat) : List LSpec × List Nat := (spt20.get f).getD ([], [])
theorem pd_ref01_Cut : PureD Try.prog cfg 20 p_ref01_Cut := fnD spf20 (l := [(28, p_ref01_Total)]) cfgOk cfgGlob (.cons pd_ref01_Total .nil) (fun d => by kernel_rfl)

/-- thimblerig/thimblerigref01.SameNumbers -/
noncomputable def ref01_SameNumbers (d0 : (List (Int)) × (List (Int))) : Option (Bool) :=
 (bif (Dat.ine (Dat.ofN (Dat.len d0.1)) (Dat.ofN (Dat.len d0.2))) then some false
 else Dat.loop (fun (s1 : Int) k2 =>
 (bif (Dat.ilt s1 (Dat.ofN (Dat.len d0.1))) then if (Dat.Ix s1 (Dat.len d0.1)) then Dat.bnd (Dat.get d0.1 (Dat.toN s1) 0) fun (x5 : Int) =>
 if (Dat.Ix s1 (Dat.len d0.2)) then Dat.bnd (Dat.get d0.2 (Dat.toN s1) 0) fun (x8 : Int) =>
 (bif (Dat.ine x5 x8) then some false
 else Dat.bnd (Dat.wrap .i64 (Dat.add s1 1)) fun (x9 : Int) =>
 k2 x9)
 else none
 else none
 else some true)) 0)
noncomputable def p_ref01_SameNumbers : PFn := { args := [(.list (.int .u64)), (.list (.int .u64))], res := [.bool], fn := ref01_SameNumbers }
def sp17_17 : List LSpec × List Nat := ([{ id := 1700, known := true, toks := [], items := [.slot 5 (.val (.int .i64))], junk := [11, 12, 13, 14, 17, 18, 19, 20, 21, 22, 23, 24, 25, 4, 15, 16], tails := [] }], [])
def spt17 : Tab (List LSpec × List Nat) := (.node (.node .leaf none (.node (.node (.node .leaf (some sp17_17) .leaf) none .leaf) none .leaf)) none .leaf)
def spf17 (f : Nat) : List LSpec × List Nat := (spt17.get f).getD ([], [])
theorem pd_ref01_SameNumbers : PureD Try.prog cfg 17 p_ref01_SameNumbers := fnD spf17 (l := []) cfgOk cfgGlob .nil (fun d => by kernel_rfl)

/-- thimblerig/thimblerigref01.Same -/
noncomputable def ref01_Same (d0 : (List (Int)) × (List (Int))) : Option (Bool) :=
 Dat.bnd (Dat.str d0.1) fun (x1 : List (UInt8)) =>
 Dat.bnd (Dat.str d0.2) fun (x2 : List (UInt8)) =>
 some (Dat.seq x1 x2)
noncomputable def p_ref01_Same : PFn := { args := [(.list (.int .u8)), (.list (.int .u8))], res := [.bool], fn := ref01_Same }
theorem pd_ref01_Same : PureD Try.prog cfg 16 p_ref01_Same := fnD sp0 (l := []) cfgOk cfgGlob .nil (fun d => by kernel_rfl)

/-- thimblerig/thimblerigref01.SameAll -/
noncomputable def ref01_SameAll (d0 : (List (List (Int))) × (List (List (Int)))) : Option (Bool) :=
 (bif (Dat.ine (Dat.ofN (Dat.len d0.1)) (Dat.ofN (Dat.len d0.2))) then some false
 else Dat.loop (fun (s1 : Int) k2 =>
 (bif (Dat.ilt s1 (Dat.ofN (Dat.len d0.1))) then if (Dat.Ix s1 (Dat.len d0.1)) then Dat.bnd (Dat.get d0.1 (Dat.toN s1) ([] : List (Int))) fun (x5 : List (Int)) =>
 if (Dat.Ix s1 (Dat.len d0.2)) then Dat.bnd (Dat.get d0.2 (Dat.toN s1) ([] : List (Int))) fun (x8 : List (Int)) =>
 Dat.bind (ref01_Same (x5, x8)) fun (x9 : Bool) =>
 (bif (Dat.bnot x9) then some false
 else Dat.bnd (Dat.wrap .i64 (Dat.add s1 1)) fun (x10 : Int) =>
 k2 x10)
 else none
 else none
 else some true)) 0)
noncomputable def p_ref01_SameAll : PFn := { args := [(.list (.list (.int .u8))), (.list (.list (.int .u8)))], res := [.bool], fn := ref01_SameAll }
def sp13_13 : List LSpec × List Nat := ([{ id := 1300, known := true, toks := [], items := [.slot 5 (.val (.int .i64))], junk := [11, 12, 13, 14, 17, 18, 19, 20, 21, 22, 23, 24, 25, 26, 4, 15, 16], tails := [] }], [])
def spt13 : Tab (List LSpec × List Nat) := (.node (.node .leaf none (.node .leaf none (.node .leaf (some sp13_13) .leaf))) none .leaf)
def spf13 (f : Nat) : List LSpec × List Nat := (spt13.get f).getD ([], [])
theorem pd_ref01_SameAll : PureD Try.prog cfg 13 p_ref01_SameAll := fnD spf13 (l := [(16, p_ref01_Same)]) cfgOk cfgGlob (.cons pd_ref01_Same .nil) (fun d => by kernel_rfl)

/-- thimblerig/thimblerigref01.SameInts -/
noncomputable def ref01_SameInts (d0 : (List (Int)) × (List (Int))) : Option (Bool) :=
 (bif (Dat.ine (Dat.ofN (Dat.len d0.1)) (Dat.ofN (Dat.len d0.2))) then some false
 else Dat.loop (fun (s1 : Int) k2 =>
 (bif (Dat.ilt s1 (Dat.ofN (Dat.len d0.1))) then if (Dat.Ix s1 (Dat.len d0.1)) then Dat.bnd (Dat.get d0.1 (Dat.toN s1) 0) fun (x5 : Int) =>
 if (Dat.Ix s1 (Dat.len d0.2)) then Dat.bnd (Dat.get d0.2 (Dat.toN s1) 0) fun (x8 : Int) =>
 (bif (Dat.ine x5 x8) then some false
 else Dat.bnd (Dat.wrap .i64 (Dat.add s1 1)) fun (x9 : Int) =>
 k2 x9)
 else none
 else none
 else some true)) 0)
noncomputable def p_ref01_SameInts : PFn := { args := [(.list (.int .i64)), (.list (.int .i64))], res := [.bool], fn := ref01_SameInts }
def sp18_18 : List LSpec × List Nat := ([{ id := 1800, known := true, toks := [], items := [.slot 5 (.val (.int .i64))], junk := [11, 12, 13, 14, 17, 18, 19, 20, 21, 22, 23, 24, 25, 4, 15, 16], tails := [] }], [])
def spt18 : Tab (List LSpec × List Nat) := (.node .leaf none (.node .leaf none (.node (.node (.node .leaf (some sp18_18) .leaf) none .leaf) none .leaf)))
def spf18 (f : Nat) : List LSpec × List Nat := (spt18.get f).getD ([], [])
theorem pd_ref01_SameInts : PureD Try.prog cfg 18 p_ref01_SameInts := fnD spf18 (l := []) cfgOk cfgGlob .nil (fun d => by kernel_rfl)

/-- thimblerig/thimbleriglaw01.NumTakes -/
noncomputable def law01_NumTakes (d0 : (List (Int)) × (List (Int))) : Option (Bool) :=
 Dat.join (σ := Bool) (fun k1 =>
 (bif (Dat.igt (Dat.ofN (Dat.len d0.1)) 5000) then k1 true
 else k1 (Dat.pickB false true (Dat.igt (Dat.ofN (Dat.len d0.2)) 100)))) fun (j2 : Bool) =>
 (bif j2 then some true
 else if (Dat.Le (Dat.addN 0 0) (Dat.len ([] : List (Int)))) then if (Dat.Big (Dat.len (Dat.seg ([] : List (Int)) 0 0)) (Dat.len d0.1) 1) then none
 else Dat.bnd (Dat.app (Dat.seg ([] : List (Int)) 0 0) d0.1) fun (x7 : List (Int)) =>
 if (Dat.Le (Dat.addN 0 0) (Dat.len ([] : List (Int)))) then if (Dat.Big (Dat.len (Dat.seg ([] : List (Int)) 0 0)) (Dat.len d0.2) 8) then none
 else Dat.bnd (Dat.app (Dat.seg ([] : List (Int)) 0 0) d0.2) fun (x12 : List (Int)) =>
 Dat.bind (num_Take (x7, x12)) fun (x13 : (List (Int)) × (Int)) =>
 Dat.bind (ref01_Take (d0.1, d0.2)) fun (x14 : (List (Int)) × (Int)) =>
 Dat.bind (num_Cut_r (x7, x12)) fun (x15 : ((List (List (Int))) × (List (List (MixE (Int))))) × ((MixE (MixE (Int))) × (Int))) =>
 Dat.bind (ref01_Cut (d0.1, d0.2)) fun (x16 : (List (List (Int))) × (Int)) =>
 Dat.join (σ := Bool) (fun k17 =>
 Dat.bind (ref01_SameNumbers (x13.1, x14.1)) fun (x18 : Bool) =>
 (bif x18 then (bif (Dat.pickB true (Dat.ieq x13.2 x14.2) false) then if (Dat.XOk x15.1.2 x15.2.1) then Dat.bind (Dat.mapO (fun (e21 : MixE (Int)) =>
 if (Dat.XOk x15.1.1 e21) then Dat.bnd (Dat.xget x15.1.1 e21) fun (x24 : List (Int)) =>
 some x24
 else none) (Dat.xget x15.1.2 x15.2.1)) fun (x25 : List (List (Int))) =>
 Dat.bind (ref01_SameAll (x25, x16.1)) fun (x26 : Bool) =>
 (bif (Dat.pickB true x26 false) then k17 (Dat.pickB true (Dat.ieq x15.2.2 x16.2) false)
 else k17 false)
 else none
 else k17 false)
 else k17 false)) fun (j27 : Bool) =>
 Dat.loop (fun (s28 : (Int) × (List (List (Int)))) k29 =>
 (bif (Dat.ilt s28.1 (Dat.ofN (Dat.xlen x15.2.1))) then Dat.loop (fun (s30 : (Int) × (List (List (Int)))) k31 =>
 if (Dat.Ix s28.1 (Dat.xlen x15.2.1)) then if (Dat.XPt x15.1.2 x15.2.1 (Dat.toN s28.1)) then if (Dat.XPt x15.1.2 x15.2.1 (Dat.toN s28.1)) then Dat.bnd (Dat.xat x15.1.2 x15.2.1 (Dat.toN s28.1) (MixE.nil : MixE (Int))) fun (x38 : MixE (Int)) =>
 (bif (Dat.ilt s30.1 (Dat.ofN (Dat.xlen x38))) then if (Dat.Ix s28.1 (Dat.xlen x15.2.1)) then if (Dat.XPt x15.1.2 x15.2.1 (Dat.toN s28.1)) then if (Dat.XPt x15.1.2 x15.2.1 (Dat.toN s28.1)) then Dat.bnd (Dat.xat x15.1.2 x15.2.1 (Dat.toN s28.1) (MixE.nil : MixE (Int))) fun (x45 : MixE (Int)) =>
 if (Dat.Ix s28.1 (Dat.xlen x15.2.1)) then if (Dat.XPt x15.1.2 x15.2.1 (Dat.toN s28.1)) then if (Dat.XPt x15.1.2 x15.2.1 (Dat.toN s28.1)) then Dat.bnd (Dat.xat x15.1.2 x15.2.1 (Dat.toN s28.1) (MixE.nil : MixE (Int))) fun (x52 : MixE (Int)) =>
 if (Dat.Ix s30.1 (Dat.xlen x52)) then if (Dat.XPt s30.2 x52 (Dat.toN s30.1)) then if (Dat.XPt s30.2 x52 (Dat.toN s30.1)) then Dat.bnd (Dat.xat s30.2 x52 (Dat.toN s30.1) 0) fun (x59 : Int) =>
 Dat.bnd (Dat.wrap .u8 (Dat.add x59 1)) fun (x60 : Int) =>
 if (Dat.Ix s30.1 (Dat.xlen x45)) then if (Dat.XPt s30.2 x45 (Dat.toN s30.1)) then if (Dat.XPt s30.2 x45 (Dat.toN s30.1)) then Dat.bnd (Dat.xset s30.2 x45 (Dat.toN s30.1) x60) fun (x67 : List (List (Int))) =>
 Dat.bnd (Dat.wrap .i64 (Dat.add s30.1 1)) fun (x68 : Int) =>
 k31 (x68, x67)
 else none
 else none
 else none
 else none
 else none
 else none
 else none
 else none
 else none
 else none
 else none
 else none
 else Dat.bnd (Dat.wrap .i64 (Dat.add s28.1 1)) fun (x69 : Int) =>
 k29 (x69, s30.2))
 else none
 else none
 else none) (0, s28.2)
 else Dat.join (σ := Bool) (fun k70 =>
 (bif j27 then Dat.bind (ref01_Same (x7, d0.1)) fun (x71 : Bool) =>
 (bif (Dat.pickB true x71 false) then Dat.bind (ref01_SameInts (x12, d0.2)) fun (x72 : Bool) =>
 k70 (Dat.pickB true x72 false)
 else k70 false)
 else k70 false)) fun (j73 : Bool) =>
 some j73)) (0, x15.1.1)
 else none
 else none)
noncomputable def p_law01_NumTakes : PFn := { args := [(.list (.int .u8)), (.list (.int .i64))], res := [.bool], fn := law01_NumTakes }
def sp5_30 : List LSpec × List Nat := ([{ id := 5030000, known := false, toks := [], items := [], junk := [5], tails := [] }, { id := 5030001, known := true, toks := [], items := [.slot 13 (.val .bool)], junk := [6, 7, 8, 9, 10, 11, 12], tails := [] }, { id := 5030002, known := false, toks := [], items := [], junk := [5], tails := [] }, { id := 5030003, known := false, toks := [], items := [.slot 5 (.val .bool)], junk := [], tails := [] }, { id := 5030004, known := false, toks := [], items := [], junk := [14, 15, 16], tails := [] }, { id := 5030005, known := false, toks := [], items := [.slot 5 (.val .bool)], junk := [17, 18], tails := [] }], [])
def sp5_28 : List LSpec × List Nat := ([{ id := 5028000, known := false, toks := [], items := [], junk := [2], tails := [] }, { id := 5028001, known := false, toks := [], items := [.slot 7 (.val .bool)], junk := [5, 6], tails := [] }, { id := 5028002, known := false, toks := [], items := [], junk := [2], tails := [] }, { id := 5028003, known := false, toks := [], items := [.slot 2 (.val (.int .i64))], junk := [], tails := [] }, { id := 5028004, known := false, toks := [], items := [.slot 3 (.val (.int .i64))], junk := [], tails := [] }, { id := 5028005, known := false, toks := [], items := [.slot 4 (.val (.int .i64))], junk := [], tails := [] }, { id := 2800, known := false, toks := [], items := [], junk := [], tails := [] }, { id := 5028006, known := false, toks := [], items := [.slot 11 (.val .bool)], junk := [8, 9, 10], tails := [] }, { id := 5028007, known := false, toks := [], items := [], junk := [], tails := [] }, { id := 5028008, known := true, toks := [], items := [.slot 25 (.val .bool)], junk := [14, 15, 16, 17, 18, 19, 20, 21, 22, 23, 24], tails := [] }, { id := 5028009, known := false, toks := [], items := [], junk := [2], tails := [] }, { id := 5028010, known := false, toks := [], items := [.slot 2 (.val (.int .i64))], junk := [], tails := [] }, { id := 5028011, known := false, toks := [], items := [.slot 3 (.val (.int .i64))], junk := [26, 27, 28, 29, 30, 31], tails := [] }, { id := 5028012, known := false, toks := [], items := [.slot 4 (.val (.int .i64))], junk := [12, 13], tails := [] }, { id := 5028013, known := false, toks := [], items := [.slot 33 (.val .bool)], junk := [32], tails := [] }, { id := 5028014, known := false, toks := [], items := [], junk := [2], tails := [] }, { id := 5028015, known := false, toks := [], items := [.slot 2 (.val (.int .i64))], junk := [], tails := [] }, { id := 5028016, known := false, toks := [], items := [.slot 2 (.val (.int .i64))], junk := [34], tails := [] }], [])
def sp5_26 : List LSpec × List Nat := ([{ id := 5026000, known := false, toks := [], items := [], junk := [2], tails := [] }, { id := 5026001, known := false, toks := [], items := [.slot 3 (.val (.int .i64))], junk := [], tails := [] }, { id := 2600, known := false, toks := [], items := [], junk := [], tails := [] }, { id := 5026002, known := false, toks := [], items := [.slot 7 (.val .bool)], junk := [4, 5, 6], tails := [] }, { id := 5026003, known := false, toks := [], items := [], junk := [], tails := [] }, { id := 5026004, known := true, toks := [], items := [.slot 21 (.val .bool)], junk := [10, 11, 12, 13, 14, 15, 16, 17, 18, 19, 20], tails := [] }, { id := 5026005, known := false, toks := [], items := [], junk := [2], tails := [] }, { id := 5026006, known := false, toks := [], items := [.slot 2 (.val .bool)], junk := [], tails := [] }, { id := 5026007, known := false, toks := [], items := [.slot 3 (.val (.int .i64))], junk := [8, 9], tails := [] }, { id := 5026008, known := false, toks := [], items := [.slot 2 (.val .bool)], junk := [22, 23, 24], tails := [] }], [])
def sp5_5 : List LSpec × List Nat := ([{ id := 5005000, known := false, toks := [], items := [], junk := [4], tails := [] }, { id := 5005001, known := true, toks := [], items := [.slot 25 (.val .bool)], junk := [18, 19, 20, 21, 22, 23, 24], tails := [] }, { id := 5005002, known := false, toks := [], items := [], junk := [4], tails := [] }, { id := 5005003, known := false, toks := [], items := [.slot 4 (.val .bool)], junk := [], tails := [] }, { id := 5005004, known := false, toks := [], items := [], junk := [26, 27, 28, 29, 30, 31], tails := [] }, { id := 5005005, known := false, toks := [], items := [.slot 8 (.val (.int .i64))], junk := [33, 34, 35, 32, 36, 37], tails := [] }, { id := 5005006, known := false, toks := [], items := [.slot 10 (.val (.int .i64))], junk := [39, 40, 41, 38, 42, 43], tails := [] }, { id := 5005007, known := false, toks := [], items := [.slot 12 (.val (.int .i64))], junk := [45, 46, 47, 44, 48, 49], tails := [] }, { id := 5005008, known := false, toks := [], items := [.slot 14 (.val (.int .i64))], junk := [51, 52, 53, 50, 54, 55], tails := [] }, { id := 5005009, known := true, toks := [], items := [.slot 15 (.val .bool)], junk := [56, 57, 58, 59, 60, 61, 62, 63, 64, 65, 66, 67, 68, 69, 70, 71, 72, 73], tails := [] }, { id := 5005010, known := false, toks := [], items := [.slot 16 (.val (.int .i64))], junk := [], tails := [] }, { id := 500, known := true, toks := [], items := [.slot 16 (.val (.int .i64)), .rows 11000011 (.int .u8)], junk := [74, 75, 76, 77, 17, 80, 81, 82, 83, 84, 85, 86, 89, 90, 91, 92, 93, 94, 95, 96, 97, 98, 99, 100, 101, 102, 87, 88, 78, 79], tails := [] }, { id := 5005011, known := false, toks := [], items := [.slot 77 (.val .bool)], junk := [74, 75, 76], tails := [] }, { id := 5005012, known := false, toks := [], items := [], junk := [], tails := [] }, { id := 5005013, known := false, toks := [], items := [.slot 17 (.val (.int .i64))], junk := [], tails := [] }, { id := 501, known := true, toks := [], items := [.slot 17 (.val (.int .i64)), .rows 11000011 (.int .u8)], junk := [80, 81, 82, 83, 84, 85, 86, 89, 90, 91, 92, 93, 94, 95, 96, 97, 98, 99, 100, 101, 102, 87, 88], tails := [] }, { id := 5005014, known := false, toks := [], items := [.slot 86 (.val .bool)], junk := [80, 81, 82, 83, 84, 85], tails := [] }, { id := 5005015, known := false, toks := [], items := [], junk := [], tails := [] }, { id := 5005016, known := false, toks := [], items := [], junk := [89, 90, 91, 92, 93, 94, 95, 96, 97, 98, 99, 100, 101, 102], tails := [] }, { id := 5005017, known := false, toks := [], items := [.slot 17 (.val (.int .i64))], junk := [87, 88], tails := [] }, { id := 5005018, known := false, toks := [], items := [.slot 16 (.val (.int .i64))], junk := [78, 79], tails := [] }, { id := 5005019, known := true, toks := [], items := [.slot 4 (.val .bool)], junk := [103, 104, 105, 106, 107, 108, 109, 110, 111, 112, 113], tails := [] }], [])
def spt5 : Tab (List LSpec × List Nat) := (.node (.node .leaf none (.node .leaf (some sp5_5) .leaf)) none (.node (.node .leaf none (.node .leaf none (.node .leaf (some sp5_28) .leaf))) none (.node (.node .leaf none (.node .leaf (some sp5_26) .leaf)) none (.node .leaf none (.node .leaf (some sp5_30) .leaf)))))
def spf5 (f : Nat) : List LSpec × List Nat := (spt5.get f).getD ([], [])
theorem pd_law01_NumTakes : PureD Try.prog cfg 5 p_law01_NumTakes := fnDr spf5 [] (l := [(9, p_num_Take), (19, p_ref01_Take), (20, p_ref01_Cut), (17, p_ref01_SameNumbers), (13, p_ref01_SameAll), (16, p_ref01_Same), (18, p_ref01_SameInts)]) (lo := []) (lr := [(10, r_num_Cut_r)]) cfgOk cfgGlob (.cons pd_num_Take (.cons pd_ref01_Take (.cons pd_ref01_Cut (.cons pd_ref01_SameNumbers (.cons pd_ref01_SameAll (.cons pd_ref01_Same (.cons pd_ref01_SameInts .nil))))))) .nil (.cons rd_num_Cut_r .nil) (fun d => by kernel_rfl)
end Go.Proofs.Ytgaijhlncgakeaa
