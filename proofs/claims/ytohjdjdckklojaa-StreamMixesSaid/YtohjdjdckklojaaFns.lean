/- The functions of the program, as functions on plain data. -/
import Derived.Test.YtohjdjdckklojaaCfg
import Derived.Test.YtohjdjdckklojaaM5
import Derived.ProofKit
namespace Go.Proofs.Ytohjdjdckklojaa
open Go.Eng
set_option linter.unusedVariables false
set_option maxRecDepth 100000
def sp0 (f : Nat) : List LSpec × List Nat := ([], [])

/-- thimblerig/stream.Xor -/
noncomputable def stream_Xor (d0 : (List (Int)) × (List (Int))) : Option ((List (Int)) × (Int)) :=
 (bif (Dat.ine (Dat.ofN (Dat.len d0.1)) (Dat.ofN (Dat.len d0.2))) then some (([] : List (Int)), 2)
 else if (Dat.MkOk 0 (Dat.ofN (Dat.len d0.1)) 1) then if (Dat.EqN (Dat.toN 0) 0) then if (Dat.EqN 0 (Dat.len ([] : List (Int)))) then Dat.loop (fun (s7 : (Int) × (List (Int))) k8 =>
 (bif (Dat.ilt s7.1 (Dat.ofN (Dat.len d0.1))) then if (Dat.Ix s7.1 (Dat.len d0.1)) then Dat.bnd (Dat.get d0.1 (Dat.toN s7.1) 0) fun (x11 : Int) =>
 if (Dat.Ix s7.1 (Dat.len d0.2)) then Dat.bnd (Dat.get d0.2 (Dat.toN s7.1) 0) fun (x14 : Int) =>
 Dat.bnd (Dat.bxor .u8 x11 x14) fun (x15 : Int) =>
 if (Dat.Le (Dat.addN 0 1) (Dat.len (x15 :: ([] : List (Int))))) then if (Dat.Big (Dat.len s7.2) (Dat.len (Dat.seg (x15 :: ([] : List (Int))) 0 1)) 1) then none
 else if (Dat.EqN (Dat.len s7.2) (Dat.len s7.2)) then Dat.bnd (Dat.app s7.2 (Dat.seg (x15 :: ([] : List (Int))) 0 1)) fun (x22 : List (Int)) =>
 Dat.bnd (Dat.wrap .i64 (Dat.add s7.1 1)) fun (x23 : Int) =>
 if (Dat.EqN (Dat.len x22) (Dat.len x22)) then k8 (x23, x22)
 else none
 else none
 else none
 else none
 else none
 else if (Dat.EqN (Dat.len s7.2) (Dat.len s7.2)) then some (s7.2, 0)
 else none)) (0, ([] : List (Int)))
 else none
 else none
 else none)
noncomputable def p_stream_Xor : PFn := { args := [(.list (.int .u8)), (.list (.int .u8))], res := [(.list (.int .u8)), (.int .i64)], fn := stream_Xor }
def sp9_17 : List LSpec × List Nat := ([{ id := 1700, known := true, toks := [(2003000, (.int .u8))], items := [.slot 6 (.val (.int .i64)), .cells 3 [.slt (.int .u8) (some 2003000) false]], junk := [7, 8, 4, 9, 10, 11, 12], tails := [(2003000, 2003000)] }], [])
def spt9 : Tab (List LSpec × List Nat) := (.node (.node .leaf none (.node (.node (.node .leaf (some sp9_17) .leaf) none .leaf) none .leaf)) none .leaf)
def spf9 (f : Nat) : List LSpec × List Nat := (spt9.get f).getD ([], [])
noncomputable def o_stream_Xor : OFn := { args := [(.list (.int .u8)), (.list (.int .u8))], ores := [(.own (.int .u8)), (.plain (.int .i64))], fn := stream_Xor }
theorem od_stream_Xor : OwnD Try.prog cfg 9 o_stream_Xor ∧ PureD Try.prog cfg 9 o_stream_Xor.pfn := fnO spf9 [] (l := []) (lo := []) cfgOk rfl .nil .nil (fun d => by kernel_rfl)
theorem pd_stream_Xor : PureD Try.prog cfg 9 p_stream_Xor := od_stream_Xor.2

/-- thimblerig/thimblerigref04.Mixed -/
noncomputable def ref04_Mixed (d0 : (List (Int)) × (List (Int))) : Option (List (Int)) :=
 if (Dat.EqN 0 (Dat.len ([] : List (Int)))) then Dat.loop (fun (s3 : (List (Int)) × (Int)) k4 =>
 (bif (Dat.ilt s3.2 (Dat.ofN (Dat.len d0.1))) then if (Dat.Ix s3.2 (Dat.len d0.1)) then Dat.bnd (Dat.get d0.1 (Dat.toN s3.2) 0) fun (x7 : Int) =>
 if (Dat.Ix s3.2 (Dat.len d0.2)) then Dat.bnd (Dat.get d0.2 (Dat.toN s3.2) 0) fun (x10 : Int) =>
 Dat.bnd (Dat.bxor .u8 x7 x10) fun (x11 : Int) =>
 if (Dat.Le (Dat.addN 0 1) (Dat.len (x11 :: ([] : List (Int))))) then if (Dat.Big (Dat.len s3.1) (Dat.len (Dat.seg (x11 :: ([] : List (Int))) 0 1)) 1) then none
 else if (Dat.EqN (Dat.len s3.1) (Dat.len s3.1)) then Dat.bnd (Dat.app s3.1 (Dat.seg (x11 :: ([] : List (Int))) 0 1)) fun (x18 : List (Int)) =>
 Dat.bnd (Dat.wrap .i64 (Dat.add s3.2 1)) fun (x19 : Int) =>
 if (Dat.EqN (Dat.len x18) (Dat.len x18)) then k4 (x18, x19)
 else none
 else none
 else none
 else none
 else none
 else some s3.1)) (([] : List (Int)), 0)
 else none
noncomputable def p_ref04_Mixed : PFn := { args := [(.list (.int .u8)), (.list (.int .u8))], res := [(.list (.int .u8))], fn := ref04_Mixed }
def sp23_23 : List LSpec × List Nat := ([{ id := 2300, known := true, toks := [(5, (.int .u8))], items := [.slot 5 (.slt (.int .u8) (some 1000005) false), .slot 6 (.val (.int .i64))], junk := [7, 8, 9, 10, 13, 14, 15, 16, 17, 18, 19, 20, 21, 22, 23, 24, 11, 12], tails := [(1000005, 5)] }], [])
def spt23 : Tab (List LSpec × List Nat) := (.node (.node (.node (.node .leaf none (.node .leaf (some sp23_23) .leaf)) none .leaf) none .leaf) none .leaf)
def spf23 (f : Nat) : List LSpec × List Nat := (spt23.get f).getD ([], [])
theorem pd_ref04_Mixed : PureD Try.prog cfg 23 p_ref04_Mixed := fnD spf23 (l := []) cfgOk rfl .nil (fun d => by kernel_rfl)

/-- thimblerig/thimblerigref04.Xor -/
noncomputable def ref04_Xor (d0 : (List (Int)) × (List (Int))) : Option ((List (Int)) × (Int)) :=
 (bif (Dat.ine (Dat.ofN (Dat.len d0.1)) (Dat.ofN (Dat.len d0.2))) then some (([] : List (Int)), 2)
 else Dat.bind (ref04_Mixed (d0.1, d0.2)) fun (x1 : List (Int)) =>
 some (x1, 0))
noncomputable def p_ref04_Xor : PFn := { args := [(.list (.int .u8)), (.list (.int .u8))], res := [(.list (.int .u8)), (.int .i64)], fn := ref04_Xor }
theorem pd_ref04_Xor : PureD Try.prog cfg 16 p_ref04_Xor := fnD sp0 (l := [(23, p_ref04_Mixed)]) cfgOk rfl (.cons pd_ref04_Mixed .nil) (fun d => by kernel_rfl)

/-- thimblerig/thimblerigref01.Same -/
noncomputable def ref01_Same (d0 : (List (Int)) × (List (Int))) : Option (Bool) :=
 Dat.bnd (Dat.str d0.1) fun (x1 : List (UInt8)) =>
 Dat.bnd (Dat.str d0.2) fun (x2 : List (UInt8)) =>
 some (Dat.seq x1 x2)
noncomputable def p_ref01_Same : PFn := { args := [(.list (.int .u8)), (.list (.int .u8))], res := [.bool], fn := ref01_Same }
theorem pd_ref01_Same : PureD Try.prog cfg 13 p_ref01_Same := fnD sp0 (l := []) cfgOk rfl .nil (fun d => by kernel_rfl)

/-- thimblerig/thimbleriglaw04.StreamMixes -/
noncomputable def law04_StreamMixes (d0 : (List (Int)) × (List (Int))) : Option (Bool) :=
 (bif (Dat.igt (Dat.ofN (Dat.len d0.1)) 3000) then some true
 else (bif (Dat.pickB false true (Dat.igt (Dat.ofN (Dat.len d0.2)) 3000)) then some true
 else if (Dat.Le (Dat.addN 0 0) (Dat.len ([] : List (Int)))) then if (Dat.Big (Dat.len (Dat.seg ([] : List (Int)) 0 0)) (Dat.len d0.1) 1) then none
 else Dat.bnd (Dat.app (Dat.seg ([] : List (Int)) 0 0) d0.1) fun (x5 : List (Int)) =>
 if (Dat.Le (Dat.addN 0 0) (Dat.len ([] : List (Int)))) then if (Dat.Big (Dat.len (Dat.seg ([] : List (Int)) 0 0)) (Dat.len d0.2) 1) then none
 else Dat.bnd (Dat.app (Dat.seg ([] : List (Int)) 0 0) d0.2) fun (x10 : List (Int)) =>
 Dat.bind (stream_Xor (x5, x10)) fun (x11 : (List (Int)) × (Int)) =>
 if (Dat.EqN (Dat.len x11.1) 0) then Dat.bind (ref04_Xor (d0.1, d0.2)) fun (x14 : (List (Int)) × (Int)) =>
 Dat.bind (ref01_Same (x11.1, x14.1)) fun (x15 : Bool) =>
 (bif x15 then Dat.loop (fun (s16 : Int) k17 =>
 (bif (Dat.ilt s16 (Dat.ofN (Dat.len x11.1))) then if (Dat.Ix s16 (Dat.len x11.1)) then Dat.bnd (Dat.get x11.1 (Dat.toN s16) 0) fun (x20 : Int) =>
 Dat.bnd (Dat.wrap .u8 (Dat.add x20 1)) fun (x21 : Int) =>
 if (Dat.Ix s16 (Dat.len x11.1)) then Dat.bnd (Dat.get x11.1 (Dat.toN s16) 0) fun (x24 : Int) =>
 none
 else none
 else none
 else (bif (Dat.pickB true (Dat.ieq x11.2 x14.2) false) then Dat.bind (ref01_Same (x5, d0.1)) fun (x25 : Bool) =>
 (bif (Dat.pickB true x25 false) then Dat.bind (ref01_Same (x10, d0.2)) fun (x26 : Bool) =>
 some (Dat.pickB true x26 false)
 else some false)
 else some false))) 0
 else Dat.loop (fun (s27 : Int) k28 =>
 (bif (Dat.ilt s27 (Dat.ofN (Dat.len x11.1))) then if (Dat.Ix s27 (Dat.len x11.1)) then Dat.bnd (Dat.get x11.1 (Dat.toN s27) 0) fun (x31 : Int) =>
 Dat.bnd (Dat.wrap .u8 (Dat.add x31 1)) fun (x32 : Int) =>
 if (Dat.Ix s27 (Dat.len x11.1)) then Dat.bnd (Dat.get x11.1 (Dat.toN s27) 0) fun (x35 : Int) =>
 none
 else none
 else none
 else some false)) 0)
 else Dat.bind (ref04_Xor (d0.1, d0.2)) fun (x36 : (List (Int)) × (Int)) =>
 if (Dat.Le (Dat.addN 0 (Dat.len x11.1)) (Dat.len x11.1)) then Dat.bind (ref01_Same ((Dat.seg x11.1 0 (Dat.len x11.1)), x36.1)) fun (x39 : Bool) =>
 (bif x39 then Dat.loop (fun (s40 : (Int) × (List (Int))) k41 =>
 (bif (Dat.ilt s40.1 (Dat.ofN (Dat.len x11.1))) then if (Dat.In s40.1 (Dat.len x11.1)) then if (Dat.Lt (Dat.addN 0 (Dat.toN s40.1)) (Dat.len s40.2)) then Dat.bnd (Dat.get s40.2 (Dat.addN 0 (Dat.toN s40.1)) 0) fun (x46 : Int) =>
 Dat.bnd (Dat.wrap .u8 (Dat.add x46 1)) fun (x47 : Int) =>
 if (Dat.In s40.1 (Dat.len x11.1)) then if (Dat.Lt (Dat.addN 0 (Dat.toN s40.1)) (Dat.len s40.2)) then Dat.bnd (Dat.set s40.2 (Dat.addN 0 (Dat.toN s40.1)) x47) fun (x52 : List (Int)) =>
 Dat.bnd (Dat.wrap .i64 (Dat.add s40.1 1)) fun (x53 : Int) =>
 k41 (x53, x52)
 else none
 else none
 else none
 else none
 else (bif (Dat.pickB true (Dat.ieq x11.2 x36.2) false) then Dat.bind (ref01_Same (x5, d0.1)) fun (x54 : Bool) =>
 (bif (Dat.pickB true x54 false) then Dat.bind (ref01_Same (x10, d0.2)) fun (x55 : Bool) =>
 some (Dat.pickB true x55 false)
 else some false)
 else some false))) (0, x11.1)
 else Dat.loop (fun (s56 : (Int) × (List (Int))) k57 =>
 (bif (Dat.ilt s56.1 (Dat.ofN (Dat.len x11.1))) then if (Dat.In s56.1 (Dat.len x11.1)) then if (Dat.Lt (Dat.addN 0 (Dat.toN s56.1)) (Dat.len s56.2)) then Dat.bnd (Dat.get s56.2 (Dat.addN 0 (Dat.toN s56.1)) 0) fun (x62 : Int) =>
 Dat.bnd (Dat.wrap .u8 (Dat.add x62 1)) fun (x63 : Int) =>
 if (Dat.In s56.1 (Dat.len x11.1)) then if (Dat.Lt (Dat.addN 0 (Dat.toN s56.1)) (Dat.len s56.2)) then Dat.bnd (Dat.set s56.2 (Dat.addN 0 (Dat.toN s56.1)) x63) fun (x68 : List (Int)) =>
 Dat.bnd (Dat.wrap .i64 (Dat.add s56.1 1)) fun (x69 : Int) =>
 k57 (x69, x68)
 else none
 else none
 else none
 else none
 else some false)) (0, x11.1))
 else none
 else none
 else none))
noncomputable def p_law04_StreamMixes : PFn := { args := [(.list (.int .u8)), (.list (.int .u8))], res := [.bool], fn := law04_StreamMixes }
def sp5_5 : List LSpec × List Nat := ([{ id := 500, known := true, toks := [], items := [.slot 12 (.val (.int .i64)), .vec 1000007 (.int .u8)], junk := [47, 48, 49, 50, 53, 54, 55, 56, 57, 58, 59, 60, 51, 52], tails := [] }], [])
def spt5 : Tab (List LSpec × List Nat) := (.node (.node .leaf none (.node .leaf (some sp5_5) .leaf)) none .leaf)
def spf5 (f : Nat) : List LSpec × List Nat := (spt5.get f).getD ([], [])
theorem pd_law04_StreamMixes : PureD Try.prog cfg 5 p_law04_StreamMixes := fnDa spf5 [] (l := [(9, p_stream_Xor), (16, p_ref04_Xor), (13, p_ref01_Same)]) (lo := [(9, o_stream_Xor)]) cfgOk rfl (.cons pd_stream_Xor (.cons pd_ref04_Xor (.cons pd_ref01_Same .nil))) (.cons od_stream_Xor.1 .nil) (fun d => by kernel_rfl)
end Go.Proofs.Ytohjdjdckklojaa
