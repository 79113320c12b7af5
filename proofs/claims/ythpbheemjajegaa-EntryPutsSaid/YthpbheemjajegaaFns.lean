/- The functions of the program, as functions on plain data. -/
import Derived.Test.YthpbheemjajegaaCfg
import Derived.Test.YthpbheemjajegaaM5
import Derived.ProofKit
namespace Go.Proofs.Ythpbheemjajegaa
open Go.Eng
set_option linter.unusedVariables false
set_option maxRecDepth 100000
def sp0 (f : Nat) : List LSpec × List Nat := ([], [])

/-- thimblerig/geo.Check -/
noncomputable def geo_Check (d0 : Int) : Option (Int) :=
 (bif (Dat.ilt d0 1) then some 2
 else (bif (Dat.pickB false true (Dat.igt d0 6)) then some 2
 else some 0))
noncomputable def p_geo_Check : PFn := { args := [(.int .i64)], res := [(.int .i64)], fn := geo_Check }
theorem pd_geo_Check : PureD Try.prog cfg 33 p_geo_Check := fnD sp0 (l := []) cfgOk rfl .nil (fun d => by kernel_rfl)

/-- thimblerig/geo.Leaves -/
noncomputable def geo_Leaves (d0 : Int) : Option ((Int) × (Int)) :=
 Dat.bind (geo_Check d0) fun (x1 : Int) =>
 (bif (Dat.ine x1 0) then some (0, x1)
 else if (Dat.Neg d0) then none
 else Dat.bnd (Dat.shl .i64 1 d0) fun (x4 : Int) =>
 some (x4, 0))
noncomputable def p_geo_Leaves : PFn := { args := [(.int .i64)], res := [(.int .i64), (.int .i64)], fn := geo_Leaves }
theorem pd_geo_Leaves : PureD Try.prog cfg 20 p_geo_Leaves := fnD sp0 (l := [(33, p_geo_Check)]) cfgOk rfl (.cons pd_geo_Check .nil) (fun d => by kernel_rfl)

/-- thimblerig/entry.isPlace -/
noncomputable def entry_isPlace (d0 : (List (Int)) × (Int)) : Option (Bool) :=
 if (Dat.IsZ 4) then none
 else Dat.bnd (Dat.wrap .i64 (Dat.tdiv (Dat.ofN (Dat.len d0.1)) 4)) fun (x3 : Int) =>
 if (Dat.IsZ 4) then none
 else Dat.bnd (Dat.tmod (Dat.ofN (Dat.len d0.1)) 4) fun (x6 : Int) =>
 (bif (Dat.ieq x6 0) then (bif (Dat.pickB true (Dat.ige x3 2) false) then (bif (Dat.pickB true (Dat.ile x3 8) false) then (bif (Dat.pickB true (Dat.ige d0.2 0) false) then some (Dat.pickB true (Dat.ilt d0.2 x3) false)
 else some false)
 else some false)
 else some false)
 else some false)
noncomputable def p_entry_isPlace : PFn := { args := [(.list (.int .u8)), (.int .i64)], res := [.bool], fn := entry_isPlace }
theorem pd_entry_isPlace : PureD Try.prog cfg 23 p_entry_isPlace := fnD sp0 (l := []) cfgOk rfl .nil (fun d => by kernel_rfl)

/-- thimblerig/num.together -/
noncomputable def num_together (d0 : (List (Int)) × ((Int) × (Int))) : Option ((Int) × (Int)) :=
 (bif (Dat.igt (Dat.ofN (Dat.len d0.1)) 64) then some (0, 2)
 else Dat.loop (fun (s1 : (Int) × (Int)) k2 =>
 (bif (Dat.ilt s1.1 (Dat.ofN (Dat.len d0.1))) then if (Dat.Ix s1.1 (Dat.len d0.1)) then Dat.bnd (Dat.get d0.1 (Dat.toN s1.1) 0) fun (x5 : Int) =>
 (bif (Dat.ilt x5 d0.2.1) then some (0, 2)
 else (bif (Dat.pickB false true (Dat.igt x5 d0.2.2)) then some (0, 2)
 else Dat.bnd (Dat.wrap .i64 (Dat.add s1.2 x5)) fun (x6 : Int) =>
 (bif (Dat.bnot (Dat.ile x6 65536)) then some (0, 2)
 else Dat.bnd (Dat.wrap .i64 (Dat.add s1.1 1)) fun (x7 : Int) =>
 k2 (x7, x6))))
 else none
 else some (s1.2, 0))) (0, 0))
noncomputable def p_num_together : PFn := { args := [(.list (.int .i64)), (.int .i64), (.int .i64)], res := [(.int .i64), (.int .i64)], fn := num_together }
def sp35_35 : List LSpec × List Nat := ([{ id := 3500, known := true, toks := [], items := [.slot 18 (.val (.int .i64)), .cells 1000008 [.val (.int .i64)]], junk := [19, 20, 21, 11, 22, 23, 24, 25, 6, 7, 26], tails := [] }], [])
def spt35 : Tab (List LSpec × List Nat) := (.node (.node (.node .leaf none (.node (.node (.node .leaf (some sp35_35) .leaf) none .leaf) none .leaf)) none .leaf) none .leaf)
def spf35 (f : Nat) : List LSpec × List Nat := (spt35.get f).getD ([], [])
theorem pd_num_together : PureD Try.prog cfg 35 p_num_together := fnD spf35 (l := []) cfgOk rfl .nil (fun d => by kernel_rfl)

/-- thimblerig/num.Size -/
noncomputable def num_Size (d0 : List (Int)) : Option ((Int) × (Int)) :=
 Dat.bind (num_together (d0, (0, 65536))) fun (x1 : (Int) × (Int)) =>
 some (x1.1, x1.2)
noncomputable def p_num_Size : PFn := { args := [(.list (.int .i64))], res := [(.int .i64), (.int .i64)], fn := num_Size }
theorem pd_num_Size : PureD Try.prog cfg 43 p_num_Size := fnD sp0 (l := [(35, p_num_together)]) cfgOk rfl (.cons pd_num_together .nil) (fun d => by kernel_rfl)

/-- slices.Clone(()byte,byte) -/
noncomputable def slices_Clone_byte_byte (d0 : List (Int)) : Option (List (Int)) :=
 if (Dat.Le (Dat.addN 0 0) (Dat.len ([] : List (Int)))) then if (Dat.Big (Dat.len (Dat.seg ([] : List (Int)) 0 0)) (Dat.len d0) 1) then none
 else Dat.bnd (Dat.app (Dat.seg ([] : List (Int)) 0 0) d0) fun (x5 : List (Int)) =>
 some x5
 else none
noncomputable def p_slices_Clone_byte_byte : PFn := { args := [(.list (.int .u8))], res := [(.list (.int .u8))], fn := slices_Clone_byte_byte }
noncomputable def cx34 : CloneX Try.prog cfg 34 5 (.int .u8) := clx xf34 5 (xf34.body.cOps.getD 0 ⟨none, .move (.tmp 0), 0, "", #[], none⟩) (xf34.body.cOps.getD 1 ⟨none, .move (.tmp 0), 0, "", #[], none⟩) (by kernel_rfl) (by kernel_rfl) (by kernel_rfl) (by kernel_rfl) (by kernel_rfl) (by kernel_rfl) (by kernel_rfl) (by kernel_rfl) (by kernel_rfl)
theorem pd_slices_Clone_byte_byte : PureD Try.prog cfg 34 p_slices_Clone_byte_byte := cloneD sp0 cfgOk rfl cx34 (of_decide_eq_true (by kernel_rfl)) (by kernel_rfl) (by kernel_rfl) (by kernel_rfl) (fun d => by kernel_rfl) (fun d => by kernel_rfl) (by kernel_rfl) (fun d r h => by
  unfold slices_Clone_byte_byte at h
  split at h
  · split at h
    · cases h
    · have h1 : some d = some r := h
      exact (Option.some.inj h1).symm
  · cases h)

/-- thimblerig/num.Cut -/
noncomputable def num_Cut (d0 : (List (Int)) × (List (Int))) : Option ((List (List (Int))) × (Int)) :=
 Dat.bind (num_Size d0.2) fun (x1 : (Int) × (Int)) =>
 (bif (Dat.ine x1.2 0) then some (([] : List (List (Int))), x1.2)
 else (bif (Dat.ine (Dat.ofN (Dat.len d0.1)) x1.1) then some (([] : List (List (Int))), 10)
 else Dat.bind (slices_Clone_byte_byte d0.1) fun (x2 : List (Int)) =>
 if (Dat.MkOk (Dat.ofN (Dat.len d0.2)) (Dat.ofN (Dat.len d0.2)) 24) then Dat.loop (fun (s5 : (Int) × ((Int) × (List (List (Int))))) k6 =>
 (bif (Dat.ilt s5.2.1 (Dat.ofN (Dat.len d0.2))) then if (Dat.Ix s5.2.1 (Dat.len d0.2)) then Dat.bnd (Dat.get d0.2 (Dat.toN s5.2.1) 0) fun (x9 : Int) =>
 Dat.bnd (Dat.wrap .i64 (Dat.add s5.1 x9)) fun (x10 : Int) =>
 Dat.bnd (Dat.wrap .i64 (Dat.add s5.1 x9)) fun (x11 : Int) =>
 if (Dat.Bd x11 (Dat.len x2)) then if (Dat.Bd x10 (Dat.toN x11)) then if (Dat.Bd s5.1 (Dat.toN x10)) then Dat.bnd (Dat.slice x2 (Dat.toN s5.1) (Dat.toN x10)) fun (x18 : List (Int)) =>
 if (Dat.In s5.2.1 (Dat.toN (Dat.ofN (Dat.len d0.2)))) then if (Dat.Lt (Dat.addN 0 (Dat.toN s5.2.1)) (Dat.len s5.2.2)) then Dat.bnd (Dat.set s5.2.2 (Dat.addN 0 (Dat.toN s5.2.1)) x18) fun (x23 : List (List (Int))) =>
 Dat.bnd (Dat.wrap .i64 (Dat.add s5.1 x9)) fun (x24 : Int) =>
 Dat.bnd (Dat.wrap .i64 (Dat.add s5.2.1 1)) fun (x25 : Int) =>
 k6 (x24, (x25, x23))
 else none
 else none
 else none
 else none
 else none
 else none
 else if (Dat.Le (Dat.addN 0 (Dat.toN (Dat.ofN (Dat.len d0.2)))) (Dat.len s5.2.2)) then some ((Dat.seg s5.2.2 0 (Dat.toN (Dat.ofN (Dat.len d0.2)))), 0)
 else none)) (0, (0, (Dat.rep (Dat.toN (Dat.ofN (Dat.len d0.2))) ([] : List (Int)))))
 else none))
noncomputable def p_num_Cut : PFn := { args := [(.list (.int .u8)), (.list (.int .i64))], res := [(.list (.list (.int .u8))), (.int .i64)], fn := num_Cut }
def sp39_39 : List LSpec × List Nat := ([{ id := 3900, known := true, toks := [], items := [.slot 10 (.val (.int .i64)), .slot 32 (.val (.int .i64)), .vec 1000009 (.list (.int .u8))], junk := [33, 34, 35, 36, 11, 12, 37, 38, 39, 40, 41, 42, 43, 44, 45, 46, 47, 48, 49, 50, 51, 52], tails := [] }], [])
def spt39 : Tab (List LSpec × List Nat) := (.node (.node (.node (.node .leaf none (.node (.node .leaf (some sp39_39) .leaf) none .leaf)) none .leaf) none .leaf) none .leaf)
def spf39 (f : Nat) : List LSpec × List Nat := (spt39.get f).getD ([], [])
theorem pd_num_Cut : PureD Try.prog cfg 39 p_num_Cut := fnD spf39 (l := [(43, p_num_Size), (34, p_slices_Clone_byte_byte)]) cfgOk rfl (.cons pd_num_Size (.cons pd_slices_Clone_byte_byte .nil)) (fun d => by kernel_rfl)

/-- thimblerig/num.shiftTogether -/
noncomputable def num_shiftTogether (d0 : List (Int)) : Option (Int) :=
 Dat.loop (fun (s1 : (Int) × (Int)) k2 =>
 (bif (Dat.ilt s1.2 (Dat.ofN (Dat.len d0))) then if (Dat.Ix s1.2 (Dat.len d0)) then Dat.bnd (Dat.get d0 (Dat.toN s1.2) 0) fun (x5 : Int) =>
 Dat.bnd (Dat.wrap .u64 x5) fun (x6 : Int) =>
 Dat.bnd (Dat.wrap .i64 (Dat.mul 8 s1.2)) fun (x7 : Int) =>
 if (Dat.Neg x7) then none
 else Dat.bnd (Dat.shl .u64 x6 x7) fun (x10 : Int) =>
 Dat.bnd (Dat.bor .u64 s1.1 x10) fun (x11 : Int) =>
 Dat.bnd (Dat.wrap .i64 (Dat.add s1.2 1)) fun (x12 : Int) =>
 k2 (x11, x12)
 else none
 else some s1.1)) (0, 0)
noncomputable def p_num_shiftTogether : PFn := { args := [(.list (.int .u8))], res := [(.int .u64)], fn := num_shiftTogether }
def sp40_40 : List LSpec × List Nat := ([{ id := 4000, known := true, toks := [], items := [.slot 3 (.val (.int .u64)), .slot 7 (.val (.int .i64))], junk := [8, 9, 4, 10, 11, 12, 13, 14, 15, 16, 17, 18, 19, 20], tails := [] }], [])
def spt40 : Tab (List LSpec × List Nat) := (.node .leaf none (.node (.node (.node .leaf none (.node (.node .leaf (some sp40_40) .leaf) none .leaf)) none .leaf) none .leaf))
def spf40 (f : Nat) : List LSpec × List Nat := (spt40.get f).getD ([], [])
theorem pd_num_shiftTogether : PureD Try.prog cfg 40 p_num_shiftTogether := fnD spf40 (l := []) cfgOk rfl .nil (fun d => by kernel_rfl)

/-- thimblerig/num.Take -/
noncomputable def num_Take (d0 : (List (Int)) × (List (Int))) : Option ((List (Int)) × (Int)) :=
 Dat.bind (num_together (d0.2, (1, 8))) fun (x1 : (Int) × (Int)) =>
 (bif (Dat.ine x1.2 0) then some (([] : List (Int)), x1.2)
 else Dat.bind (num_Cut (d0.1, d0.2)) fun (x2 : (List (List (Int))) × (Int)) =>
 (bif (Dat.ine x2.2 0) then some (([] : List (Int)), x2.2)
 else if (Dat.MkOk (Dat.ofN (Dat.len x2.1)) (Dat.ofN (Dat.len x2.1)) 8) then Dat.loop (fun (s5 : (Int) × (List (Int))) k6 =>
 (bif (Dat.ilt s5.1 (Dat.ofN (Dat.len x2.1))) then if (Dat.Ix s5.1 (Dat.len x2.1)) then Dat.bnd (Dat.get x2.1 (Dat.toN s5.1) ([] : List (Int))) fun (x9 : List (Int)) =>
 Dat.bind (num_shiftTogether x9) fun (x10 : Int) =>
 if (Dat.In s5.1 (Dat.toN (Dat.ofN (Dat.len x2.1)))) then if (Dat.Lt (Dat.addN 0 (Dat.toN s5.1)) (Dat.len s5.2)) then Dat.bnd (Dat.set s5.2 (Dat.addN 0 (Dat.toN s5.1)) x10) fun (x15 : List (Int)) =>
 Dat.bnd (Dat.wrap .i64 (Dat.add s5.1 1)) fun (x16 : Int) =>
 k6 (x16, x15)
 else none
 else none
 else none
 else if (Dat.Le (Dat.addN 0 (Dat.toN (Dat.ofN (Dat.len x2.1)))) (Dat.len s5.2)) then some ((Dat.seg s5.2 0 (Dat.toN (Dat.ofN (Dat.len x2.1)))), 0)
 else none)) (0, (Dat.rep (Dat.toN (Dat.ofN (Dat.len x2.1))) 0))
 else none))
noncomputable def p_num_Take : PFn := { args := [(.list (.int .u8)), (.list (.int .i64))], res := [(.list (.int .u64)), (.int .i64)], fn := num_Take }
def sp24_24 : List LSpec × List Nat := ([{ id := 2400, known := true, toks := [], items := [.slot 35 (.val (.int .i64)), .vec 1000010 (.int .u64)], junk := [36, 37, 38, 39, 11, 12, 40, 41, 42, 43, 44, 45], tails := [] }], [])
def spt24 : Tab (List LSpec × List Nat) := (.node .leaf none (.node (.node (.node .leaf none (.node .leaf (some sp24_24) .leaf)) none .leaf) none .leaf))
def spf24 (f : Nat) : List LSpec × List Nat := (spt24.get f).getD ([], [])
theorem pd_num_Take : PureD Try.prog cfg 24 p_num_Take := fnD spf24 (l := [(35, p_num_together), (39, p_num_Cut), (40, p_num_shiftTogether)]) cfgOk rfl (.cons pd_num_together (.cons pd_num_Cut (.cons pd_num_shiftTogether .nil))) (fun d => by kernel_rfl)

/-- thimblerig/entry.Read -/
noncomputable def entry_Read (d0 : (Int) × ((List (Int)) × (Int))) : Option ((Int) × (Int)) :=
 Dat.bind (geo_Leaves d0.1) fun (x1 : (Int) × (Int)) =>
 (bif (Dat.ine x1.2 0) then (bif (Dat.ine x1.2 0) then some (0, 2)
 else Dat.bind (entry_isPlace (d0.2.1, d0.2.2)) fun (x2 : Bool) =>
 (bif (Dat.pickB false true (Dat.bnot x2)) then some (0, 2)
 else Dat.bnd (Dat.wrap .i64 (Dat.mul d0.2.2 4)) fun (x3 : Int) =>
 Dat.bnd (Dat.wrap .i64 (Dat.add x3 4)) fun (x4 : Int) =>
 Dat.bnd (Dat.wrap .i64 (Dat.add x3 4)) fun (x5 : Int) =>
 if (Dat.Bd x5 (Dat.len d0.2.1)) then if (Dat.Bd x4 (Dat.toN x5)) then if (Dat.Bd x3 (Dat.toN x4)) then Dat.bnd (Dat.slice d0.2.1 (Dat.toN x3) (Dat.toN x4)) fun (x12 : List (Int)) =>
 if (Dat.Le (Dat.addN 0 1) (Dat.len (4 :: ([] : List (Int))))) then Dat.bind (num_Take (x12, (Dat.seg (4 :: ([] : List (Int))) 0 1))) fun (x15 : (List (Int)) × (Int)) =>
 (bif (Dat.ine x15.2 0) then some (0, x15.2)
 else if (Dat.Ix 0 (Dat.len x15.1)) then Dat.bnd (Dat.get x15.1 (Dat.toN 0) 0) fun (x18 : Int) =>
 none
 else none)
 else none
 else none
 else none
 else none))
 else (bif (Dat.ine 0 0) then some (0, 2)
 else Dat.bind (entry_isPlace (d0.2.1, d0.2.2)) fun (x19 : Bool) =>
 (bif (Dat.pickB false true (Dat.bnot x19)) then some (0, 2)
 else Dat.bnd (Dat.wrap .i64 (Dat.mul d0.2.2 4)) fun (x20 : Int) =>
 Dat.bnd (Dat.wrap .i64 (Dat.add x20 4)) fun (x21 : Int) =>
 Dat.bnd (Dat.wrap .i64 (Dat.add x20 4)) fun (x22 : Int) =>
 if (Dat.Bd x22 (Dat.len d0.2.1)) then if (Dat.Bd x21 (Dat.toN x22)) then if (Dat.Bd x20 (Dat.toN x21)) then Dat.bnd (Dat.slice d0.2.1 (Dat.toN x20) (Dat.toN x21)) fun (x29 : List (Int)) =>
 if (Dat.Le (Dat.addN 0 1) (Dat.len (4 :: ([] : List (Int))))) then Dat.bind (num_Take (x29, (Dat.seg (4 :: ([] : List (Int))) 0 1))) fun (x32 : (List (Int)) × (Int)) =>
 (bif (Dat.ine x32.2 0) then some (0, x32.2)
 else if (Dat.Ix 0 (Dat.len x32.1)) then Dat.bnd (Dat.get x32.1 (Dat.toN 0) 0) fun (x35 : Int) =>
 (bif (Dat.ieq x35 0) then if (Dat.Ix 0 (Dat.len x32.1)) then Dat.bnd (Dat.get x32.1 (Dat.toN 0) 0) fun (x38 : Int) =>
 Dat.bnd (Dat.wrap .i64 x38) fun (x39 : Int) =>
 some (x39, 0)
 else none
 else Dat.bnd (Dat.wrap .i64 (Dat.add 1 x1.1)) fun (x40 : Int) =>
 Dat.bnd (Dat.wrap .u64 x40) fun (x41 : Int) =>
 (bif (Dat.bnot (Dat.pickB false true (Dat.ilt x35 x41))) then some (0, 8)
 else if (Dat.Ix 0 (Dat.len x32.1)) then Dat.bnd (Dat.get x32.1 (Dat.toN 0) 0) fun (x44 : Int) =>
 Dat.bnd (Dat.wrap .i64 x44) fun (x45 : Int) =>
 some (x45, 0)
 else none))
 else none)
 else none
 else none
 else none
 else none)))
noncomputable def p_entry_Read : PFn := { args := [(.int .i64), (.list (.int .u8)), (.int .i64)], res := [(.int .i64), (.int .i64)], fn := entry_Read }
theorem pd_entry_Read : PureD Try.prog cfg 9 p_entry_Read := fnD sp0 (l := [(20, p_geo_Leaves), (23, p_entry_isPlace), (24, p_num_Take)]) cfgOk rfl (.cons pd_geo_Leaves (.cons pd_entry_isPlace (.cons pd_num_Take .nil))) (fun d => by kernel_rfl)

/-- thimblerig/thimblerigref07.May -/
noncomputable def ref07_May (d0 : Int) : Option (Bool) :=
 (bif (Dat.ige d0 1) then some (Dat.pickB true (Dat.ile d0 6) false)
 else some false)
noncomputable def p_ref07_May : PFn := { args := [(.int .i64)], res := [.bool], fn := ref07_May }
theorem pd_ref07_May : PureD Try.prog cfg 26 p_ref07_May := fnD sp0 (l := []) cfgOk rfl .nil (fun d => by kernel_rfl)

/-- thimblerig/thimblerigref19.asked -/
noncomputable def ref19_asked (d0 : (Int) × ((List (Int)) × (Int))) : Option (Bool) :=
 Dat.bind (ref07_May d0.1) fun (x1 : Bool) =>
 (bif x1 then (bif (Dat.pickB true (Dat.ige (Dat.ofN (Dat.len d0.2.1)) 8) false) then (bif (Dat.pickB true (Dat.ile (Dat.ofN (Dat.len d0.2.1)) 32) false) then if (Dat.IsZ 4) then none
 else Dat.bnd (Dat.tmod (Dat.ofN (Dat.len d0.2.1)) 4) fun (x4 : Int) =>
 (bif (Dat.pickB true (Dat.ieq x4 0) false) then (bif (Dat.pickB true (Dat.ige d0.2.2 0) false) then if (Dat.IsZ 4) then none
 else Dat.bnd (Dat.wrap .i64 (Dat.tdiv (Dat.ofN (Dat.len d0.2.1)) 4)) fun (x7 : Int) =>
 some (Dat.pickB true (Dat.ilt d0.2.2 x7) false)
 else some false)
 else some false)
 else some false)
 else some false)
 else some false)
noncomputable def p_ref19_asked : PFn := { args := [(.int .i64), (.list (.int .u8)), (.int .i64)], res := [.bool], fn := ref19_asked }
theorem pd_ref19_asked : PureD Try.prog cfg 30 p_ref19_asked := fnD sp0 (l := [(26, p_ref07_May)]) cfgOk rfl (.cons pd_ref07_May .nil) (fun d => by kernel_rfl)

/-- thimblerig/thimblerigref01.Number -/
noncomputable def ref01_Number (d0 : List (Int)) : Option (Int) :=
 Dat.bnd (Dat.wrap .i64 (Dat.sub (Dat.ofN (Dat.len d0)) 1)) fun (x1 : Int) =>
 Dat.loop (fun (s2 : (Int) × (Int)) k3 =>
 (bif (Dat.ige s2.2 0) then Dat.bnd (Dat.wrap .u64 (Dat.mul 256 s2.1)) fun (x4 : Int) =>
 if (Dat.Ix s2.2 (Dat.len d0)) then Dat.bnd (Dat.get d0 (Dat.toN s2.2) 0) fun (x7 : Int) =>
 Dat.bnd (Dat.wrap .u64 x7) fun (x8 : Int) =>
 Dat.bnd (Dat.wrap .u64 (Dat.add x4 x8)) fun (x9 : Int) =>
 Dat.bnd (Dat.wrap .i64 (Dat.sub s2.2 1)) fun (x10 : Int) =>
 k3 (x9, x10)
 else none
 else some s2.1)) (0, x1)
noncomputable def p_ref01_Number : PFn := { args := [(.list (.int .u8))], res := [(.int .u64)], fn := ref01_Number }
def sp31_31 : List LSpec × List Nat := ([{ id := 3100, known := true, toks := [], items := [.slot 3 (.val (.int .u64)), .slot 4 (.val (.int .i64))], junk := [8, 9, 12, 13, 14, 15, 16, 17, 18, 19, 10, 11], tails := [] }], [])
def spt31 : Tab (List LSpec × List Nat) := (.node (.node (.node (.node (.node (.node .leaf (some sp31_31) .leaf) none .leaf) none .leaf) none .leaf) none .leaf) none .leaf)
def spf31 (f : Nat) : List LSpec × List Nat := (spt31.get f).getD ([], [])
theorem pd_ref01_Number : PureD Try.prog cfg 31 p_ref01_Number := fnD spf31 (l := []) cfgOk rfl .nil (fun d => by kernel_rfl)

/-- thimblerig/thimblerigref07.Many -/
noncomputable def ref07_Many (d0 : Int) : Option (Int) :=
 Dat.loop (fun (s1 : (Int) × (Int)) k2 =>
 (bif (Dat.ilt s1.2 d0) then Dat.bnd (Dat.wrap .i64 (Dat.mul 2 s1.1)) fun (x3 : Int) =>
 Dat.bnd (Dat.wrap .i64 (Dat.add s1.2 1)) fun (x4 : Int) =>
 k2 (x3, x4)
 else some s1.1)) (1, 0)
noncomputable def p_ref07_Many : PFn := { args := [(.int .i64)], res := [(.int .i64)], fn := ref07_Many }
def sp32_32 : List LSpec × List Nat := ([{ id := 3200, known := true, toks := [], items := [.slot 3 (.val (.int .i64)), .slot 4 (.val (.int .i64))], junk := [5, 6, 7, 10, 11, 8, 9], tails := [] }], [])
def spt32 : Tab (List LSpec × List Nat) := (.node .leaf none (.node (.node (.node (.node (.node .leaf (some sp32_32) .leaf) none .leaf) none .leaf) none .leaf) none .leaf))
def spf32 (f : Nat) : List LSpec × List Nat := (spt32.get f).getD ([], [])
theorem pd_ref07_Many : PureD Try.prog cfg 32 p_ref07_Many := fnD spf32 (l := []) cfgOk rfl .nil (fun d => by kernel_rfl)

/-- thimblerig/thimblerigref19.Read -/
noncomputable def ref19_Read (d0 : (Int) × ((List (Int)) × (Int))) : Option ((Int) × (Int)) :=
 Dat.bind (ref19_asked (d0.1, (d0.2.1, d0.2.2))) fun (x1 : Bool) =>
 (bif (Dat.bnot x1) then some (0, 2)
 else Dat.bnd (Dat.wrap .i64 (Dat.mul 4 d0.2.2)) fun (x2 : Int) =>
 Dat.bnd (Dat.wrap .i64 (Dat.mul 4 d0.2.2)) fun (x3 : Int) =>
 Dat.bnd (Dat.wrap .i64 (Dat.add x3 4)) fun (x4 : Int) =>
 if (Dat.Bd x4 (Dat.len d0.2.1)) then if (Dat.Bd x2 (Dat.toN x4)) then Dat.bnd (Dat.slice d0.2.1 (Dat.toN x2) (Dat.toN x4)) fun (x9 : List (Int)) =>
 Dat.bind (ref01_Number x9) fun (x10 : Int) =>
 Dat.bind (ref07_Many d0.1) fun (x11 : Int) =>
 Dat.bnd (Dat.wrap .u64 x11) fun (x12 : Int) =>
 (bif (Dat.igt x10 x12) then some (0, 8)
 else Dat.bnd (Dat.wrap .i64 x10) fun (x13 : Int) =>
 some (x13, 0))
 else none
 else none)
noncomputable def p_ref19_Read : PFn := { args := [(.int .i64), (.list (.int .u8)), (.int .i64)], res := [(.int .i64), (.int .i64)], fn := ref19_Read }
theorem pd_ref19_Read : PureD Try.prog cfg 17 p_ref19_Read := fnD sp0 (l := [(30, p_ref19_asked), (31, p_ref01_Number), (32, p_ref07_Many)]) cfgOk rfl (.cons pd_ref19_asked (.cons pd_ref01_Number (.cons pd_ref07_Many .nil))) (fun d => by kernel_rfl)

/-- thimblerig/entry.Check -/
noncomputable def entry_Check (d0 : (Int) × (Int)) : Option (Int) :=
 Dat.bind (geo_Leaves d0.1) fun (x1 : (Int) × (Int)) =>
 (bif (Dat.ine x1.2 0) then (bif (Dat.ine x1.2 0) then some x1.2
 else Dat.bnd (Dat.wrap .u64 d0.2) fun (x2 : Int) =>
 none)
 else (bif (Dat.ine 0 0) then some 0
 else Dat.bnd (Dat.wrap .u64 d0.2) fun (x3 : Int) =>
 (bif (Dat.ieq x3 0) then some 0
 else Dat.bnd (Dat.wrap .i64 (Dat.add 1 x1.1)) fun (x4 : Int) =>
 Dat.bnd (Dat.wrap .u64 x4) fun (x5 : Int) =>
 (bif (Dat.bnot (Dat.pickB false true (Dat.ilt x3 x5))) then some 8
 else some 0))))
noncomputable def p_entry_Check : PFn := { args := [(.int .i64), (.int .i64)], res := [(.int .i64)], fn := entry_Check }
theorem pd_entry_Check : PureD Try.prog cfg 12 p_entry_Check := fnD sp0 (l := [(20, p_geo_Leaves)]) cfgOk rfl (.cons pd_geo_Leaves .nil) (fun d => by kernel_rfl)

/-- thimblerig/num.fits -/
noncomputable def num_fits (d0 : (Int) × (Int)) : Option (Bool) :=
 (bif (Dat.ige d0.2 8) then some true
 else Dat.bnd (Dat.wrap .i64 (Dat.mul 8 d0.2)) fun (x1 : Int) =>
 if (Dat.Neg x1) then none
 else Dat.bnd (Dat.shr .u64 d0.1 x1) fun (x4 : Int) =>
 some (Dat.pickB false true (Dat.ieq x4 0)))
noncomputable def p_num_fits : PFn := { args := [(.int .u64), (.int .i64)], res := [.bool], fn := num_fits }
theorem pd_num_fits : PureD Try.prog cfg 36 p_num_fits := fnD sp0 (l := []) cfgOk rfl .nil (fun d => by kernel_rfl)

/-- thimblerig/num.Put -/
noncomputable def num_Put (d0 : (List (Int)) × (List (Int))) : Option ((List (Int)) × (Int)) :=
 Dat.bind (num_together (d0.2, (1, 8))) fun (x1 : (Int) × (Int)) =>
 (bif (Dat.ine x1.2 0) then some (([] : List (Int)), x1.2)
 else (bif (Dat.ine (Dat.ofN (Dat.len d0.1)) (Dat.ofN (Dat.len d0.2))) then some (([] : List (Int)), 2)
 else if (Dat.MkOk 0 x1.1 1) then if (Dat.EqN (Dat.toN 0) 0) then if (Dat.EqN 0 (Dat.len ([] : List (Int)))) then Dat.loop (fun (s8 : (List (Int)) × (Int)) k9 =>
 (bif (Dat.ilt s8.2 (Dat.ofN (Dat.len d0.2))) then if (Dat.Ix s8.2 (Dat.len d0.2)) then Dat.bnd (Dat.get d0.2 (Dat.toN s8.2) 0) fun (x12 : Int) =>
 if (Dat.Ix s8.2 (Dat.len d0.1)) then Dat.bnd (Dat.get d0.1 (Dat.toN s8.2) 0) fun (x15 : Int) =>
 Dat.bind (num_fits (x15, x12)) fun (x16 : Bool) =>
 (bif (Dat.bnot x16) then some (([] : List (Int)), 4)
 else if (Dat.Ix s8.2 (Dat.len d0.1)) then Dat.bnd (Dat.get d0.1 (Dat.toN s8.2) 0) fun (x19 : Int) =>
 if (Dat.EqN (Dat.len s8.1) (Dat.len s8.1)) then Dat.loop (fun (s22 : (List (Int)) × (Int)) k23 =>
 (bif (Dat.ilt s22.2 x12) then Dat.bnd (Dat.wrap .i64 (Dat.mul 8 s22.2)) fun (x24 : Int) =>
 if (Dat.Neg x24) then none
 else Dat.bnd (Dat.shr .u64 x19 x24) fun (x27 : Int) =>
 Dat.bnd (Dat.wrap .u8 x27) fun (x28 : Int) =>
 if (Dat.Le (Dat.addN 0 1) (Dat.len (x28 :: ([] : List (Int))))) then if (Dat.Big (Dat.len s22.1) (Dat.len (Dat.seg (x28 :: ([] : List (Int))) 0 1)) 1) then none
 else if (Dat.EqN (Dat.len s22.1) (Dat.len s22.1)) then Dat.bnd (Dat.app s22.1 (Dat.seg (x28 :: ([] : List (Int))) 0 1)) fun (x35 : List (Int)) =>
 Dat.bnd (Dat.wrap .i64 (Dat.add s22.2 1)) fun (x36 : Int) =>
 if (Dat.EqN (Dat.len x35) (Dat.len x35)) then k23 (x35, x36)
 else none
 else none
 else none
 else Dat.bnd (Dat.wrap .i64 (Dat.add s8.2 1)) fun (x39 : Int) =>
 if (Dat.EqN (Dat.len s22.1) (Dat.len s22.1)) then k9 (s22.1, x39)
 else none)) (s8.1, 0)
 else none
 else none)
 else none
 else none
 else some (s8.1, 0))) (([] : List (Int)), 0)
 else none
 else none
 else none))
noncomputable def p_num_Put : PFn := { args := [(.list (.int .u64)), (.list (.int .i64))], res := [(.list (.int .u8)), (.int .i64)], fn := num_Put }
def sp21_37 : List LSpec × List Nat := ([{ id := 3700, known := true, toks := [(0, (.int .u8))], items := [.slot 0 (.slt (.int .u8) (some 1000000) false), .slot 9 (.val (.int .i64))], junk := [10, 11, 7, 12, 13, 14, 15, 16, 17, 18, 19, 20], tails := [(1000000, 0)] }], [])
def sp21_21 : List LSpec × List Nat := ([{ id := 2100, known := true, toks := [(8, (.int .u8))], items := [.slot 8 (.slt (.int .u8) (some 1000008) false), .slot 28 (.val (.int .i64))], junk := [29, 30, 31, 32, 9, 10, 33, 34, 35, 36, 37, 38, 39, 4, 5, 40, 41, 42, 43, 44, 45, 46, 47], tails := [(1000008, 8)] }], [])
def spt21 : Tab (List LSpec × List Nat) := (.node (.node .leaf none (.node .leaf none (.node (.node (.node .leaf (some sp21_37) .leaf) (some sp21_21) .leaf) none .leaf))) none .leaf)
def spf21 (f : Nat) : List LSpec × List Nat := (spt21.get f).getD ([], [])
theorem pd_num_Put : PureD Try.prog cfg 21 p_num_Put := fnD spf21 (l := [(35, p_num_together), (36, p_num_fits)]) cfgOk rfl (.cons pd_num_together (.cons pd_num_fits .nil)) (fun d => by kernel_rfl)

/-- thimblerig/entry.Write -/
noncomputable def entry_Write (d0 : (Int) × (Int)) : Option ((List (Int)) × (Int)) :=
 Dat.bind (entry_Check (d0.1, d0.2)) fun (x1 : Int) =>
 (bif (Dat.ine x1 0) then some (([] : List (Int)), x1)
 else Dat.bnd (Dat.wrap .u64 d0.2) fun (x2 : Int) =>
 if (Dat.Le (Dat.addN 0 1) (Dat.len (x2 :: ([] : List (Int))))) then if (Dat.Le (Dat.addN 0 1) (Dat.len (4 :: ([] : List (Int))))) then Dat.bind (num_Put ((Dat.seg (x2 :: ([] : List (Int))) 0 1), (Dat.seg (4 :: ([] : List (Int))) 0 1))) fun (x7 : (List (Int)) × (Int)) =>
 some (x7.1, x7.2)
 else none
 else none)
noncomputable def p_entry_Write : PFn := { args := [(.int .i64), (.int .i64)], res := [(.list (.int .u8)), (.int .i64)], fn := entry_Write }
theorem pd_entry_Write : PureD Try.prog cfg 8 p_entry_Write := fnD sp0 (l := [(12, p_entry_Check), (21, p_num_Put)]) cfgOk rfl (.cons pd_entry_Check (.cons pd_num_Put .nil)) (fun d => by kernel_rfl)

/-- thimblerig/entry.Put -/
noncomputable def entry_Put (d0 : (Int) × ((List (Int)) × ((Int) × (Int)))) : Option ((List (Int)) × (Int)) :=
 Dat.bind (geo_Check d0.1) fun (x1 : Int) =>
 (bif (Dat.ine x1 0) then some (([] : List (Int)), 2)
 else Dat.bind (entry_isPlace (d0.2.1, d0.2.2.1)) fun (x2 : Bool) =>
 (bif (Dat.pickB false true (Dat.bnot x2)) then some (([] : List (Int)), 2)
 else Dat.bind (entry_Write (d0.1, d0.2.2.2)) fun (x3 : (List (Int)) × (Int)) =>
 (bif (Dat.ine x3.2 0) then some (([] : List (Int)), x3.2)
 else if (Dat.EqN (Dat.len d0.2.1) 0) then Dat.bind (slices_Clone_byte_byte d0.2.1) fun (x6 : List (Int)) =>
 Dat.bnd (Dat.wrap .i64 (Dat.mul d0.2.2.1 4)) fun (x7 : Int) =>
 Dat.bnd (Dat.wrap .i64 (Dat.add x7 4)) fun (x8 : Int) =>
 Dat.bnd (Dat.wrap .i64 (Dat.add x7 4)) fun (x9 : Int) =>
 if (Dat.Bd x9 (Dat.len x6)) then if (Dat.Bd x8 (Dat.toN x9)) then if (Dat.Bd x7 (Dat.toN x8)) then Dat.bnd (Dat.slice x6 (Dat.toN x7) (Dat.toN x8)) fun (x16 : List (Int)) =>
 none
 else none
 else none
 else none
 else if (Dat.EqN (Dat.len d0.2.1) 0) then none
 else if (Dat.Le (Dat.addN 0 0) (Dat.len ([] : List (Int)))) then if (Dat.EqN (Dat.len d0.2.1) 0) then Dat.bnd (Dat.wrap .i64 (Dat.mul d0.2.2.1 4)) fun (x23 : Int) =>
 Dat.bnd (Dat.wrap .i64 (Dat.add x23 4)) fun (x24 : Int) =>
 Dat.bnd (Dat.wrap .i64 (Dat.add x23 4)) fun (x25 : Int) =>
 if (Dat.Bd x25 0) then if (Dat.Bd x24 (Dat.toN x25)) then if (Dat.Bd x23 (Dat.toN x24)) then if (Dat.Lt (Dat.toN x23) (Dat.toN x25)) then if (Dat.Le (Dat.addN (Dat.addN 0 (Dat.toN x23)) (Dat.subN (Dat.toN x24) (Dat.toN x23))) (Dat.len ([] : List (Int)))) then if (Dat.Le (Dat.addN 0 0) (Dat.len (Dat.put ([] : List (Int)) (Dat.addN 0 (Dat.toN x23)) (Dat.take (Dat.minN (Dat.len x3.1) (Dat.subN (Dat.toN x24) (Dat.toN x23))) x3.1)))) then some ((Dat.seg (Dat.put ([] : List (Int)) (Dat.addN 0 (Dat.toN x23)) (Dat.take (Dat.minN (Dat.len x3.1) (Dat.subN (Dat.toN x24) (Dat.toN x23))) x3.1)) 0 0), 0)
 else none
 else none
 else none
 else none
 else none
 else none
 else if (Dat.Big (Dat.len (Dat.seg ([] : List (Int)) 0 0)) (Dat.len d0.2.1) 1) then none
 else Dat.bnd (Dat.app (Dat.seg ([] : List (Int)) 0 0) d0.2.1) fun (x40 : List (Int)) =>
 Dat.bnd (Dat.wrap .i64 (Dat.mul d0.2.2.1 4)) fun (x41 : Int) =>
 Dat.bnd (Dat.wrap .i64 (Dat.add x41 4)) fun (x42 : Int) =>
 Dat.bnd (Dat.wrap .i64 (Dat.add x41 4)) fun (x43 : Int) =>
 if (Dat.Bd x43 (Dat.len x40)) then if (Dat.Bd x42 (Dat.toN x43)) then if (Dat.Bd x41 (Dat.toN x42)) then if (Dat.Lt (Dat.toN x41) (Dat.toN x43)) then if (Dat.Le (Dat.addN (Dat.addN 0 (Dat.toN x41)) (Dat.subN (Dat.toN x42) (Dat.toN x41))) (Dat.len x40)) then if (Dat.Le (Dat.addN 0 (Dat.len x40)) (Dat.len (Dat.put x40 (Dat.addN 0 (Dat.toN x41)) (Dat.take (Dat.minN (Dat.len x3.1) (Dat.subN (Dat.toN x42) (Dat.toN x41))) x3.1)))) then some ((Dat.seg (Dat.put x40 (Dat.addN 0 (Dat.toN x41)) (Dat.take (Dat.minN (Dat.len x3.1) (Dat.subN (Dat.toN x42) (Dat.toN x41))) x3.1)) 0 (Dat.len x40)), 0)
 else none
 else none
 else none
 else none
 else none
 else none
 else none)))
noncomputable def p_entry_Put : PFn := { args := [(.int .i64), (.list (.int .u8)), (.int .i64), (.int .i64)], res := [(.list (.int .u8)), (.int .i64)], fn := entry_Put }
def sp18_34 : List LSpec × List Nat := ([], [3])
def spt18 : Tab (List LSpec × List Nat) := (.node .leaf none (.node .leaf none (.node (.node (.node (.node .leaf (some sp18_34) .leaf) none .leaf) none .leaf) none .leaf)))
def spf18 (f : Nat) : List LSpec × List Nat := (spt18.get f).getD ([], [])
noncomputable def o_entry_Put : OFn := { args := [(.int .i64), (.list (.int .u8)), (.int .i64), (.int .i64)], ores := [(.own (.int .u8)), (.plain (.int .i64))], fn := entry_Put }
theorem od_entry_Put : OwnD Try.prog cfg 18 o_entry_Put ∧ PureD Try.prog cfg 18 o_entry_Put.pfn := fnO spf18 [34] (l := [(33, p_geo_Check), (23, p_entry_isPlace), (8, p_entry_Write), (34, p_slices_Clone_byte_byte)]) (lo := []) cfgOk rfl (.cons pd_geo_Check (.cons pd_entry_isPlace (.cons pd_entry_Write (.cons pd_slices_Clone_byte_byte .nil)))) .nil (fun d => by kernel_rfl)
theorem pd_entry_Put : PureD Try.prog cfg 18 p_entry_Put := od_entry_Put.2

/-- thimblerig/thimblerigref19.May -/
noncomputable def ref19_May (d0 : (Int) × (Int)) : Option (Bool) :=
 (bif (Dat.ige d0.2 0) then Dat.bind (ref07_Many d0.1) fun (x1 : Int) =>
 some (Dat.pickB true (Dat.ile d0.2 x1) false)
 else some false)
noncomputable def p_ref19_May : PFn := { args := [(.int .i64), (.int .i64)], res := [.bool], fn := ref19_May }
theorem pd_ref19_May : PureD Try.prog cfg 29 p_ref19_May := fnD sp0 (l := [(32, p_ref07_Many)]) cfgOk rfl (.cons pd_ref07_Many .nil) (fun d => by kernel_rfl)

/-- thimblerig/thimblerigref01.Digits -/
noncomputable def ref01_Digits (d0 : (Int) × (Int)) : Option ((List (Int)) × (Bool)) :=
 if (Dat.EqN 0 (Dat.len ([] : List (Int)))) then Dat.loop (fun (s3 : (List (Int)) × ((Int) × (Int))) k4 =>
 (bif (Dat.ilt s3.2.2 d0.2) then if (Dat.IsZ 256) then none
 else Dat.bnd (Dat.tmod s3.2.1 256) fun (x7 : Int) =>
 Dat.bnd (Dat.wrap .u8 x7) fun (x8 : Int) =>
 if (Dat.Le (Dat.addN 0 1) (Dat.len (x8 :: ([] : List (Int))))) then if (Dat.Big (Dat.len s3.1) (Dat.len (Dat.seg (x8 :: ([] : List (Int))) 0 1)) 1) then none
 else if (Dat.EqN (Dat.len s3.1) (Dat.len s3.1)) then Dat.bnd (Dat.app s3.1 (Dat.seg (x8 :: ([] : List (Int))) 0 1)) fun (x15 : List (Int)) =>
 if (Dat.IsZ 256) then none
 else Dat.bnd (Dat.wrap .u64 (Dat.tdiv s3.2.1 256)) fun (x18 : Int) =>
 Dat.bnd (Dat.wrap .i64 (Dat.add s3.2.2 1)) fun (x19 : Int) =>
 if (Dat.EqN (Dat.len x15) (Dat.len x15)) then k4 (x15, (x18, x19))
 else none
 else none
 else none
 else some (s3.1, (Dat.ieq s3.2.1 0)))) (([] : List (Int)), (d0.1, 0))
 else none
noncomputable def p_ref01_Digits : PFn := { args := [(.int .u64), (.int .i64)], res := [(.list (.int .u8)), .bool], fn := ref01_Digits }
def sp41_41 : List LSpec × List Nat := ([{ id := 4100, known := true, toks := [(6, (.int .u8))], items := [.slot 6 (.slt (.int .u8) (some 1000006) false), .slot 0 (.val (.int .u64)), .slot 7 (.val (.int .i64))], junk := [8, 9, 10, 13, 14, 15, 16, 17, 18, 19, 20, 11, 12], tails := [(1000006, 6)] }], [])
def spt41 : Tab (List LSpec × List Nat) := (.node (.node .leaf none (.node (.node .leaf none (.node (.node .leaf (some sp41_41) .leaf) none .leaf)) none .leaf)) none .leaf)
def spf41 (f : Nat) : List LSpec × List Nat := (spt41.get f).getD ([], [])
theorem pd_ref01_Digits : PureD Try.prog cfg 41 p_ref01_Digits := fnD spf41 (l := []) cfgOk rfl .nil (fun d => by kernel_rfl)

/-- thimblerig/thimblerigref19.Bytes -/
noncomputable def ref19_Bytes (d0 : Int) : Option (List (Int)) :=
 Dat.bnd (Dat.wrap .u64 d0) fun (x1 : Int) =>
 Dat.bind (ref01_Digits (x1, 4)) fun (x2 : (List (Int)) × (Bool)) =>
 some x2.1
noncomputable def p_ref19_Bytes : PFn := { args := [(.int .i64)], res := [(.list (.int .u8))], fn := ref19_Bytes }
theorem pd_ref19_Bytes : PureD Try.prog cfg 28 p_ref19_Bytes := fnD sp0 (l := [(41, p_ref01_Digits)]) cfgOk rfl (.cons pd_ref01_Digits .nil) (fun d => by kernel_rfl)

/-- thimblerig/thimblerigref19.Put -/
noncomputable def ref19_Put (d0 : (Int) × ((List (Int)) × ((Int) × (Int)))) : Option ((List (Int)) × (Int)) :=
 Dat.bind (ref19_asked (d0.1, (d0.2.1, d0.2.2.1))) fun (x1 : Bool) =>
 (bif (Dat.bnot x1) then some (([] : List (Int)), 2)
 else Dat.bind (ref19_May (d0.1, d0.2.2.2)) fun (x2 : Bool) =>
 (bif (Dat.bnot x2) then some (([] : List (Int)), 8)
 else if (Dat.Le (Dat.addN 0 0) (Dat.len ([] : List (Int)))) then if (Dat.EqN (Dat.len d0.2.1) 0) then Dat.bind (ref19_Bytes d0.2.2.2) fun (x7 : List (Int)) =>
 Dat.loop (fun (s8 : (Int) × (List (Int))) k9 =>
 (bif (Dat.ilt s8.1 4) then Dat.bnd (Dat.wrap .i64 (Dat.mul 4 d0.2.2.1)) fun (x10 : Int) =>
 Dat.bnd (Dat.wrap .i64 (Dat.add x10 s8.1)) fun (x11 : Int) =>
 if (Dat.Ix s8.1 (Dat.len x7)) then Dat.bnd (Dat.get x7 (Dat.toN s8.1) 0) fun (x14 : Int) =>
 if (Dat.In x11 0) then if (Dat.Lt (Dat.addN 0 (Dat.toN x11)) (Dat.len s8.2)) then Dat.bnd (Dat.set s8.2 (Dat.addN 0 (Dat.toN x11)) x14) fun (x19 : List (Int)) =>
 Dat.bnd (Dat.wrap .i64 (Dat.add s8.1 1)) fun (x20 : Int) =>
 k9 (x20, x19)
 else none
 else none
 else none
 else if (Dat.Le (Dat.addN 0 0) (Dat.len s8.2)) then some ((Dat.seg s8.2 0 0), 0)
 else none)) (0, ([] : List (Int)))
 else if (Dat.Big (Dat.len (Dat.seg ([] : List (Int)) 0 0)) (Dat.len d0.2.1) 1) then none
 else Dat.bnd (Dat.app (Dat.seg ([] : List (Int)) 0 0) d0.2.1) fun (x25 : List (Int)) =>
 Dat.bind (ref19_Bytes d0.2.2.2) fun (x26 : List (Int)) =>
 Dat.loop (fun (s27 : (Int) × (List (Int))) k28 =>
 (bif (Dat.ilt s27.1 4) then Dat.bnd (Dat.wrap .i64 (Dat.mul 4 d0.2.2.1)) fun (x29 : Int) =>
 Dat.bnd (Dat.wrap .i64 (Dat.add x29 s27.1)) fun (x30 : Int) =>
 if (Dat.Ix s27.1 (Dat.len x26)) then Dat.bnd (Dat.get x26 (Dat.toN s27.1) 0) fun (x33 : Int) =>
 if (Dat.In x30 (Dat.len x25)) then if (Dat.Lt (Dat.addN 0 (Dat.toN x30)) (Dat.len s27.2)) then Dat.bnd (Dat.set s27.2 (Dat.addN 0 (Dat.toN x30)) x33) fun (x38 : List (Int)) =>
 Dat.bnd (Dat.wrap .i64 (Dat.add s27.1 1)) fun (x39 : Int) =>
 k28 (x39, x38)
 else none
 else none
 else none
 else if (Dat.Le (Dat.addN 0 (Dat.len x25)) (Dat.len s27.2)) then some ((Dat.seg s27.2 0 (Dat.len x25)), 0)
 else none)) (0, x25)
 else none))
noncomputable def p_ref19_Put : PFn := { args := [(.int .i64), (.list (.int .u8)), (.int .i64), (.int .i64)], res := [(.list (.int .u8)), (.int .i64)], fn := ref19_Put }
def sp19_19 : List LSpec × List Nat := ([{ id := 1900, known := true, toks := [], items := [.slot 12 (.val (.int .i64)), .vec 1000010 (.int .u8)], junk := [27, 28, 31, 32, 33, 34, 35, 36, 37, 38, 39, 40, 29, 30], tails := [] }], [5])
def spt19 : Tab (List LSpec × List Nat) := (.node (.node (.node .leaf none (.node (.node .leaf (some sp19_19) .leaf) none .leaf)) none .leaf) none .leaf)
def spf19 (f : Nat) : List LSpec × List Nat := (spt19.get f).getD ([], [])
theorem pd_ref19_Put : PureD Try.prog cfg 19 p_ref19_Put := fnD spf19 (l := [(30, p_ref19_asked), (29, p_ref19_May), (28, p_ref19_Bytes)]) cfgOk rfl (.cons pd_ref19_asked (.cons pd_ref19_May (.cons pd_ref19_Bytes .nil))) (fun d => by kernel_rfl)

/-- thimblerig/thimblerigref01.Same -/
noncomputable def ref01_Same (d0 : (List (Int)) × (List (Int))) : Option (Bool) :=
 Dat.bnd (Dat.str d0.1) fun (x1 : List (UInt8)) =>
 Dat.bnd (Dat.str d0.2) fun (x2 : List (UInt8)) =>
 some (Dat.seq x1 x2)
noncomputable def p_ref01_Same : PFn := { args := [(.list (.int .u8)), (.list (.int .u8))], res := [.bool], fn := ref01_Same }
theorem pd_ref01_Same : PureD Try.prog cfg 11 p_ref01_Same := fnD sp0 (l := []) cfgOk rfl .nil (fun d => by kernel_rfl)

/-- thimblerig/thimbleriglaw19.EntryPuts -/
noncomputable def law19_EntryPuts (d0 : (Int) × ((List (Int)) × ((Int) × (Int)))) : Option (Bool) :=
 (bif (Dat.igt (Dat.ofN (Dat.len d0.2.1)) 100) then some true
 else if (Dat.Le (Dat.addN 0 0) (Dat.len ([] : List (Int)))) then if (Dat.Big (Dat.len (Dat.seg ([] : List (Int)) 0 0)) (Dat.len d0.2.1) 1) then none
 else Dat.bnd (Dat.app (Dat.seg ([] : List (Int)) 0 0) d0.2.1) fun (x5 : List (Int)) =>
 Dat.bind (entry_Read (d0.1, (x5, d0.2.2.1))) fun (x6 : (Int) × (Int)) =>
 Dat.bind (ref19_Read (d0.1, (d0.2.1, d0.2.2.1))) fun (x7 : (Int) × (Int)) =>
 Dat.bind (entry_Put (d0.1, (x5, (d0.2.2.1, d0.2.2.2)))) fun (x8 : (List (Int)) × (Int)) =>
 if (Dat.EqN (Dat.len x8.1) 0) then Dat.bind (ref19_Put (d0.1, (d0.2.1, (d0.2.2.1, d0.2.2.2)))) fun (x11 : (List (Int)) × (Int)) =>
 (bif (Dat.ieq x6.1 x7.1) then (bif (Dat.pickB true (Dat.ieq x6.2 x7.2) false) then Dat.bind (ref01_Same (x8.1, x11.1)) fun (x12 : Bool) =>
 (bif (Dat.pickB true x12 false) then Dat.loop (fun (s13 : Int) k14 =>
 (bif (Dat.ilt s13 (Dat.ofN (Dat.len x8.1))) then if (Dat.Ix s13 (Dat.len x8.1)) then Dat.bnd (Dat.get x8.1 (Dat.toN s13) 0) fun (x17 : Int) =>
 Dat.bnd (Dat.wrap .u8 (Dat.add x17 1)) fun (x18 : Int) =>
 if (Dat.Ix s13 (Dat.len x8.1)) then Dat.bnd (Dat.get x8.1 (Dat.toN s13) 0) fun (x21 : Int) =>
 none
 else none
 else none
 else (bif (Dat.pickB true (Dat.ieq x8.2 x11.2) false) then Dat.bind (ref01_Same (x5, d0.2.1)) fun (x22 : Bool) =>
 some (Dat.pickB true x22 false)
 else some false))) 0
 else Dat.loop (fun (s23 : Int) k24 =>
 (bif (Dat.ilt s23 (Dat.ofN (Dat.len x8.1))) then if (Dat.Ix s23 (Dat.len x8.1)) then Dat.bnd (Dat.get x8.1 (Dat.toN s23) 0) fun (x27 : Int) =>
 Dat.bnd (Dat.wrap .u8 (Dat.add x27 1)) fun (x28 : Int) =>
 if (Dat.Ix s23 (Dat.len x8.1)) then Dat.bnd (Dat.get x8.1 (Dat.toN s23) 0) fun (x31 : Int) =>
 none
 else none
 else none
 else some false)) 0)
 else Dat.loop (fun (s32 : Int) k33 =>
 (bif (Dat.ilt s32 (Dat.ofN (Dat.len x8.1))) then if (Dat.Ix s32 (Dat.len x8.1)) then Dat.bnd (Dat.get x8.1 (Dat.toN s32) 0) fun (x36 : Int) =>
 Dat.bnd (Dat.wrap .u8 (Dat.add x36 1)) fun (x37 : Int) =>
 if (Dat.Ix s32 (Dat.len x8.1)) then Dat.bnd (Dat.get x8.1 (Dat.toN s32) 0) fun (x40 : Int) =>
 none
 else none
 else none
 else some false)) 0)
 else Dat.loop (fun (s41 : Int) k42 =>
 (bif (Dat.ilt s41 (Dat.ofN (Dat.len x8.1))) then if (Dat.Ix s41 (Dat.len x8.1)) then Dat.bnd (Dat.get x8.1 (Dat.toN s41) 0) fun (x45 : Int) =>
 Dat.bnd (Dat.wrap .u8 (Dat.add x45 1)) fun (x46 : Int) =>
 if (Dat.Ix s41 (Dat.len x8.1)) then Dat.bnd (Dat.get x8.1 (Dat.toN s41) 0) fun (x49 : Int) =>
 none
 else none
 else none
 else some false)) 0)
 else Dat.bind (ref19_Put (d0.1, (d0.2.1, (d0.2.2.1, d0.2.2.2)))) fun (x50 : (List (Int)) × (Int)) =>
 (bif (Dat.ieq x6.1 x7.1) then (bif (Dat.pickB true (Dat.ieq x6.2 x7.2) false) then if (Dat.Le (Dat.addN 0 (Dat.len x8.1)) (Dat.len x8.1)) then Dat.bind (ref01_Same ((Dat.seg x8.1 0 (Dat.len x8.1)), x50.1)) fun (x53 : Bool) =>
 (bif (Dat.pickB true x53 false) then Dat.loop (fun (s54 : (Int) × (List (Int))) k55 =>
 (bif (Dat.ilt s54.1 (Dat.ofN (Dat.len x8.1))) then if (Dat.In s54.1 (Dat.len x8.1)) then if (Dat.Lt (Dat.addN 0 (Dat.toN s54.1)) (Dat.len s54.2)) then Dat.bnd (Dat.get s54.2 (Dat.addN 0 (Dat.toN s54.1)) 0) fun (x60 : Int) =>
 Dat.bnd (Dat.wrap .u8 (Dat.add x60 1)) fun (x61 : Int) =>
 if (Dat.In s54.1 (Dat.len x8.1)) then if (Dat.Lt (Dat.addN 0 (Dat.toN s54.1)) (Dat.len s54.2)) then Dat.bnd (Dat.set s54.2 (Dat.addN 0 (Dat.toN s54.1)) x61) fun (x66 : List (Int)) =>
 Dat.bnd (Dat.wrap .i64 (Dat.add s54.1 1)) fun (x67 : Int) =>
 k55 (x67, x66)
 else none
 else none
 else none
 else none
 else (bif (Dat.pickB true (Dat.ieq x8.2 x50.2) false) then Dat.bind (ref01_Same (x5, d0.2.1)) fun (x68 : Bool) =>
 some (Dat.pickB true x68 false)
 else some false))) (0, x8.1)
 else Dat.loop (fun (s69 : (Int) × (List (Int))) k70 =>
 (bif (Dat.ilt s69.1 (Dat.ofN (Dat.len x8.1))) then if (Dat.In s69.1 (Dat.len x8.1)) then if (Dat.Lt (Dat.addN 0 (Dat.toN s69.1)) (Dat.len s69.2)) then Dat.bnd (Dat.get s69.2 (Dat.addN 0 (Dat.toN s69.1)) 0) fun (x75 : Int) =>
 Dat.bnd (Dat.wrap .u8 (Dat.add x75 1)) fun (x76 : Int) =>
 if (Dat.In s69.1 (Dat.len x8.1)) then if (Dat.Lt (Dat.addN 0 (Dat.toN s69.1)) (Dat.len s69.2)) then Dat.bnd (Dat.set s69.2 (Dat.addN 0 (Dat.toN s69.1)) x76) fun (x81 : List (Int)) =>
 Dat.bnd (Dat.wrap .i64 (Dat.add s69.1 1)) fun (x82 : Int) =>
 k70 (x82, x81)
 else none
 else none
 else none
 else none
 else some false)) (0, x8.1))
 else none
 else Dat.loop (fun (s83 : (Int) × (List (Int))) k84 =>
 (bif (Dat.ilt s83.1 (Dat.ofN (Dat.len x8.1))) then if (Dat.In s83.1 (Dat.len x8.1)) then if (Dat.Lt (Dat.addN 0 (Dat.toN s83.1)) (Dat.len s83.2)) then Dat.bnd (Dat.get s83.2 (Dat.addN 0 (Dat.toN s83.1)) 0) fun (x89 : Int) =>
 Dat.bnd (Dat.wrap .u8 (Dat.add x89 1)) fun (x90 : Int) =>
 if (Dat.In s83.1 (Dat.len x8.1)) then if (Dat.Lt (Dat.addN 0 (Dat.toN s83.1)) (Dat.len s83.2)) then Dat.bnd (Dat.set s83.2 (Dat.addN 0 (Dat.toN s83.1)) x90) fun (x95 : List (Int)) =>
 Dat.bnd (Dat.wrap .i64 (Dat.add s83.1 1)) fun (x96 : Int) =>
 k84 (x96, x95)
 else none
 else none
 else none
 else none
 else some false)) (0, x8.1))
 else Dat.loop (fun (s97 : (Int) × (List (Int))) k98 =>
 (bif (Dat.ilt s97.1 (Dat.ofN (Dat.len x8.1))) then if (Dat.In s97.1 (Dat.len x8.1)) then if (Dat.Lt (Dat.addN 0 (Dat.toN s97.1)) (Dat.len s97.2)) then Dat.bnd (Dat.get s97.2 (Dat.addN 0 (Dat.toN s97.1)) 0) fun (x103 : Int) =>
 Dat.bnd (Dat.wrap .u8 (Dat.add x103 1)) fun (x104 : Int) =>
 if (Dat.In s97.1 (Dat.len x8.1)) then if (Dat.Lt (Dat.addN 0 (Dat.toN s97.1)) (Dat.len s97.2)) then Dat.bnd (Dat.set s97.2 (Dat.addN 0 (Dat.toN s97.1)) x104) fun (x109 : List (Int)) =>
 Dat.bnd (Dat.wrap .i64 (Dat.add s97.1 1)) fun (x110 : Int) =>
 k98 (x110, x109)
 else none
 else none
 else none
 else none
 else some false)) (0, x8.1))
 else none)
noncomputable def p_law19_EntryPuts : PFn := { args := [(.int .i64), (.list (.int .u8)), (.int .i64), (.int .i64)], res := [.bool], fn := law19_EntryPuts }
def sp5_5 : List LSpec × List Nat := ([{ id := 500, known := true, toks := [], items := [.slot 19 (.val (.int .i64)), .vec 1000014 (.int .u8)], junk := [74, 75, 76, 77, 80, 81, 82, 83, 84, 85, 86, 87, 78, 79], tails := [] }], [])
def spt5 : Tab (List LSpec × List Nat) := (.node (.node .leaf none (.node .leaf (some sp5_5) .leaf)) none .leaf)
def spf5 (f : Nat) : List LSpec × List Nat := (spt5.get f).getD ([], [])
theorem pd_law19_EntryPuts : PureD Try.prog cfg 5 p_law19_EntryPuts := fnDa spf5 [] (l := [(9, p_entry_Read), (17, p_ref19_Read), (18, p_entry_Put), (19, p_ref19_Put), (11, p_ref01_Same)]) (lo := [(18, o_entry_Put)]) cfgOk rfl (.cons pd_entry_Read (.cons pd_ref19_Read (.cons pd_entry_Put (.cons pd_ref19_Put (.cons pd_ref01_Same .nil))))) (.cons od_entry_Put.1 .nil) (fun d => by kernel_rfl)
end Go.Proofs.Ythpbheemjajegaa
