/- The functions of the program, as functions on plain data. -/
import Derived.Test.YtohjdjdckklojaaCfg
import Derived.Test.YtohjdjdckklojaaM5
import Derived.ProofKit
import Derived.Test.YtohjdjdckklojaaChachaS
namespace Go.Proofs.Ytohjdjdckklojaa
open Go.Eng
set_option linter.unusedVariables false
set_option maxRecDepth 100000
def sp0 (f : Nat) : List LSpec × List Nat := ([], [])

/-- thimblerig/num.together -/
noncomputable def num_together (d0 : (List (Int)) × ((Int) × (Int))) : Option ((Int) × (Int)) :=
 (bif (Dat.igt (Dat.ofN (Dat.len d0.1)) 64) then some (0, 2)
 else Dat.loop (fun (s1 : (Int) × (Int)) k2 =>
 (bif (Dat.ilt s1.1 (Dat.ofN (Dat.len d0.1))) then if (Dat.Ix s1.1 (Dat.len d0.1)) then Dat.bnd (Dat.get d0.1 (Dat.toN s1.1) 0) fun (x5 : Int) =>
 (bif (Dat.ilt x5 d0.2.1) then some (0, 2)
 else (bif (Dat.pickB false true (Dat.igt x5 d0.2.2)) then some (0, 2)
 else Dat.bnd (Dat.wrap .i64 (Dat.add s1.2 x5)) fun (x6 : Int) =>
 (bif (Dat.bnot (Dat.ile x6 65536)) then some (0, 2)
 else Dat.bnd (Dat.wrap .i64 (Dat.add s1.1 1)) fun (x7 : Int) =>
 k2 (x7, x6))))
 else none
 else some (s1.2, 0))) (0, 0))
noncomputable def p_num_together : PFn := { args := [(.list (.int .i64)), (.int .i64), (.int .i64)], res := [(.int .i64), (.int .i64)], fn := num_together }
def sp27_27 : List LSpec × List Nat := ([{ id := 2700, known := true, toks := [], items := [.slot 18 (.val (.int .i64)), .cells 1000008 [.val (.int .i64)]], junk := [19, 20, 21, 11, 22, 23, 24, 25, 6, 7, 26], tails := [] }], [])
def spt27 : Tab (List LSpec × List Nat) := (.node (.node (.node .leaf none (.node .leaf none (.node .leaf (some sp27_27) .leaf))) none .leaf) none .leaf)
def spf27 (f : Nat) : List LSpec × List Nat := (spt27.get f).getD ([], [])
theorem pd_num_together : PureD Try.prog cfg 27 p_num_together := fnD spf27 (l := []) cfgOk rfl .nil (fun d => by kernel_rfl)

/-- thimblerig/num.fits -/
noncomputable def num_fits (d0 : (Int) × (Int)) : Option (Bool) :=
 (bif (Dat.ige d0.2 8) then some true
 else Dat.bnd (Dat.wrap .i64 (Dat.mul 8 d0.2)) fun (x1 : Int) =>
 if (Dat.Neg x1) then none
 else Dat.bnd (Dat.shr .u64 d0.1 x1) fun (x4 : Int) =>
 some (Dat.pickB false true (Dat.ieq x4 0)))
noncomputable def p_num_fits : PFn := { args := [(.int .u64), (.int .i64)], res := [.bool], fn := num_fits }
theorem pd_num_fits : PureD Try.prog cfg 28 p_num_fits := fnD sp0 (l := []) cfgOk rfl .nil (fun d => by kernel_rfl)

/-- thimblerig/num.Put -/
noncomputable def num_Put (d0 : (List (Int)) × (List (Int))) : Option ((List (Int)) × (Int)) :=
 Dat.bind (num_together (d0.2, (1, 8))) fun (x1 : (Int) × (Int)) =>
 (bif (Dat.ine x1.2 0) then some (([] : List (Int)), x1.2)
 else (bif (Dat.ine (Dat.ofN (Dat.len d0.1)) (Dat.ofN (Dat.len d0.2))) then some (([] : List (Int)), 2)
 else if (Dat.MkOk 0 x1.1 1) then if (Dat.EqN (Dat.toN 0) 0) then if (Dat.EqN 0 (Dat.len ([] : List (Int)))) then Dat.loop (fun (s8 : (List (Int)) × (Int)) k9 =>
 (bif (Dat.ilt s8.2 (Dat.ofN (Dat.len d0.2))) then if (Dat.Ix s8.2 (Dat.len d0.2)) then Dat.bnd (Dat.get d0.2 (Dat.toN s8.2) 0) fun (x12 : Int) =>
 if (Dat.Ix s8.2 (Dat.len d0.1)) then Dat.bnd (Dat.get d0.1 (Dat.toN s8.2) 0) fun (x15 : Int) =>
 Dat.bind (num_fits (x15, x12)) fun (x16 : Bool) =>
 (bif (Dat.bnot x16) then some (([] : List (Int)), 4)
 else if (Dat.Ix s8.2 (Dat.len d0.1)) then Dat.bnd (Dat.get d0.1 (Dat.toN s8.2) 0) fun (x19 : Int) =>
 if (Dat.EqN (Dat.len s8.1) (Dat.len s8.1)) then Dat.loop (fun (s22 : (List (Int)) × (Int)) k23 =>
 (bif (Dat.ilt s22.2 x12) then Dat.bnd (Dat.wrap .i64 (Dat.mul 8 s22.2)) fun (x24 : Int) =>
 if (Dat.Neg x24) then none
 else Dat.bnd (Dat.shr .u64 x19 x24) fun (x27 : Int) =>
 Dat.bnd (Dat.wrap .u8 x27) fun (x28 : Int) =>
 if (Dat.Le (Dat.addN 0 1) (Dat.len (x28 :: ([] : List (Int))))) then if (Dat.Big (Dat.len s22.1) (Dat.len (Dat.seg (x28 :: ([] : List (Int))) 0 1)) 1) then none
 else if (Dat.EqN (Dat.len s22.1) (Dat.len s22.1)) then Dat.bnd (Dat.app s22.1 (Dat.seg (x28 :: ([] : List (Int))) 0 1)) fun (x35 : List (Int)) =>
 Dat.bnd (Dat.wrap .i64 (Dat.add s22.2 1)) fun (x36 : Int) =>
 if (Dat.EqN (Dat.len x35) (Dat.len x35)) then k23 (x35, x36)
 else none
 else none
 else none
 else Dat.bnd (Dat.wrap .i64 (Dat.add s8.2 1)) fun (x39 : Int) =>
 if (Dat.EqN (Dat.len s22.1) (Dat.len s22.1)) then k9 (s22.1, x39)
 else none)) (s8.1, 0)
 else none
 else none)
 else none
 else none
 else some (s8.1, 0))) (([] : List (Int)), 0)
 else none
 else none
 else none))
noncomputable def p_num_Put : PFn := { args := [(.list (.int .u64)), (.list (.int .i64))], res := [(.list (.int .u8)), (.int .i64)], fn := num_Put }
def sp21_29 : List LSpec × List Nat := ([{ id := 2900, known := true, toks := [(0, (.int .u8))], items := [.slot 0 (.slt (.int .u8) (some 1000000) false), .slot 9 (.val (.int .i64))], junk := [10, 11, 7, 12, 13, 14, 15, 16, 17, 18, 19, 20], tails := [(1000000, 0)] }], [])
def sp21_21 : List LSpec × List Nat := ([{ id := 2100, known := true, toks := [(8, (.int .u8))], items := [.slot 8 (.slt (.int .u8) (some 1000008) false), .slot 28 (.val (.int .i64))], junk := [29, 30, 31, 32, 9, 10, 33, 34, 35, 36, 37, 38, 39, 4, 5, 40, 41, 42, 43, 44, 45, 46, 47], tails := [(1000008, 8)] }], [])
def spt21 : Tab (List LSpec × List Nat) := (.node (.node .leaf none (.node .leaf none (.node (.node .leaf (some sp21_21) .leaf) none (.node .leaf (some sp21_29) .leaf)))) none .leaf)
def spf21 (f : Nat) : List LSpec × List Nat := (spt21.get f).getD ([], [])
theorem pd_num_Put : PureD Try.prog cfg 21 p_num_Put := fnD spf21 (l := [(27, p_num_together), (28, p_num_fits)]) cfgOk rfl (.cons pd_num_together (.cons pd_num_fits .nil)) (fun d => by kernel_rfl)

/-- thimblerig/stream.Nonce -/
noncomputable def stream_Nonce (d0 : Int) : Option (List (Int)) :=
 if (Dat.Le (Dat.addN 0 1) (Dat.len (d0 :: ([] : List (Int))))) then if (Dat.Le (Dat.addN 0 1) (Dat.len (8 :: ([] : List (Int))))) then Dat.bind (num_Put ((Dat.seg (d0 :: ([] : List (Int))) 0 1), (Dat.seg (8 :: ([] : List (Int))) 0 1))) fun (x5 : (List (Int)) × (Int)) =>
 if (Dat.Le 12 (Dat.len (Dat.rep 12 0))) then if (Dat.Bd 4 12) then if (Dat.Lt (Dat.toN 4) 12) then if (Dat.Le (Dat.addN (Dat.toN 4) (Dat.subN 12 (Dat.toN 4))) (Dat.len (Dat.rep 12 0))) then if (Dat.EqN (Dat.len (Dat.put (Dat.rep 12 0) (Dat.toN 4) (Dat.take (Dat.minN (Dat.len x5.1) (Dat.subN 12 (Dat.toN 4))) x5.1))) 12) then if (Dat.EqN (Dat.len (Dat.rep 12 0)) 12) then if (Dat.EqN (Dat.len (Dat.norm 12 (Dat.put (Dat.rep 12 0) (Dat.toN 4) (Dat.take (Dat.minN (Dat.len x5.1) (Dat.subN 12 (Dat.toN 4))) x5.1)) 0)) 12) then some (Dat.norm 12 (Dat.put (Dat.rep 12 0) (Dat.toN 4) (Dat.take (Dat.minN (Dat.len x5.1) (Dat.subN 12 (Dat.toN 4))) x5.1)) 0)
 else none
 else none
 else none
 else none
 else none
 else none
 else none
 else none
 else none
noncomputable def p_stream_Nonce : PFn := { args := [(.int .u64)], res := [(.arr 12 (.int .u8))], fn := stream_Nonce }
theorem pd_stream_Nonce : PureD Try.prog cfg 14 p_stream_Nonce := fnD sp0 (l := [(21, p_num_Put)]) cfgOk rfl (.cons pd_num_Put .nil) (fun d => by kernel_rfl)

/-- thimblerig/chacha.word -/
noncomputable def chacha_word (d0 : List (Int)) : Option (Int) :=
 if (Dat.Ix 0 (Dat.len d0)) then Dat.bnd (Dat.get d0 (Dat.toN 0) 0) fun (x3 : Int) =>
 Dat.bnd (Dat.wrap .u32 x3) fun (x4 : Int) =>
 if (Dat.Ix 1 (Dat.len d0)) then Dat.bnd (Dat.get d0 (Dat.toN 1) 0) fun (x7 : Int) =>
 Dat.bnd (Dat.wrap .u32 x7) fun (x8 : Int) =>
 if (Dat.Neg 8) then none
 else Dat.bnd (Dat.shl .u32 x8 8) fun (x11 : Int) =>
 Dat.bnd (Dat.bor .u32 x4 x11) fun (x12 : Int) =>
 if (Dat.Ix 2 (Dat.len d0)) then Dat.bnd (Dat.get d0 (Dat.toN 2) 0) fun (x15 : Int) =>
 Dat.bnd (Dat.wrap .u32 x15) fun (x16 : Int) =>
 if (Dat.Neg 16) then none
 else Dat.bnd (Dat.shl .u32 x16 16) fun (x19 : Int) =>
 Dat.bnd (Dat.bor .u32 x12 x19) fun (x20 : Int) =>
 if (Dat.Ix 3 (Dat.len d0)) then Dat.bnd (Dat.get d0 (Dat.toN 3) 0) fun (x23 : Int) =>
 Dat.bnd (Dat.wrap .u32 x23) fun (x24 : Int) =>
 if (Dat.Neg 24) then none
 else Dat.bnd (Dat.shl .u32 x24 24) fun (x27 : Int) =>
 Dat.bnd (Dat.bor .u32 x20 x27) fun (x28 : Int) =>
 some x28
 else none
 else none
 else none
 else none
noncomputable def p_chacha_word : PFn := { args := [(.list (.int .u8))], res := [(.int .u32)], fn := chacha_word }
theorem pd_chacha_word : PureD Try.prog cfg 35 p_chacha_word := fnD sp0 (l := []) cfgOk rfl .nil (fun d => by kernel_rfl)

/-- math/bits.RotateLeft32 -/
noncomputable def math_bits_RotateLeft32 (d0 : (Int) × (Int)) : Option (Int) :=
 Dat.bnd (Dat.wrap .u64 d0.2) fun (x1 : Int) =>
 Dat.bnd (Dat.band .u64 x1 31) fun (x2 : Int) =>
 if (Dat.Neg x2) then none
 else Dat.bnd (Dat.shl .u32 d0.1 x2) fun (x5 : Int) =>
 Dat.bnd (Dat.wrap .u64 (Dat.sub 32 x2)) fun (x6 : Int) =>
 if (Dat.Neg x6) then none
 else Dat.bnd (Dat.shr .u32 d0.1 x6) fun (x9 : Int) =>
 Dat.bnd (Dat.bor .u32 x5 x9) fun (x10 : Int) =>
 some x10
noncomputable def p_math_bits_RotateLeft32 : PFn := { args := [(.int .u32), (.int .i64)], res := [(.int .u32)], fn := math_bits_RotateLeft32 }
theorem pd_math_bits_RotateLeft32 : PureD Try.prog cfg 43 p_math_bits_RotateLeft32 := fnD sp0 (l := []) cfgOk rfl .nil (fun d => by kernel_rfl)

/-- thimblerig/chacha.places -/
noncomputable def chacha_places (d0 : Unit) : Option (List (List (Int))) :=
 none
noncomputable def p_chacha_places : PFn := { args := [], res := [(.arr 8 (.arr 4 (.int .i64)))], fn := chacha_places }
theorem pd_chacha_places : PureD Try.prog cfg 37 p_chacha_places := fnD sp0 (l := []) cfgOk rfl .nil (fun d => by kernel_rfl)

/-- thimblerig/chacha.Block -/
noncomputable def chacha_Block (d0 : (List (Int)) × ((Int) × (List (Int)))) : Option (List (Int)) :=
 if (Dat.EqN (Dat.len (Dat.norm 32 d0.1 0)) 32) then if (Dat.EqN (Dat.len (Dat.norm 12 d0.2.2 0)) 12) then Dat.bind (chacha_Words ((Dat.norm 32 d0.1 0), (d0.2.1, (Dat.norm 12 d0.2.2 0)))) fun (x5 : List (Int)) =>
 if (Dat.EqN (Dat.len (Dat.rep 16 0)) 16) then if (Dat.EqN (Dat.len (Dat.norm 16 x5 0)) 16) then if (Dat.EqN (Dat.len (Dat.rep 16 0)) 16) then Dat.loop (fun (s12 : (Int) × (List (Int))) k13 =>
 (bif (Dat.ilt s12.1 10) then if (Dat.EqN (Dat.len s12.2) 16) then Dat.bind (chacha_Double s12.2) fun (x16 : List (Int)) =>
 if (Dat.EqN (Dat.len s12.2) 16) then Dat.bnd (Dat.wrap .i64 (Dat.add s12.1 1)) fun (x19 : Int) =>
 k13 (x19, (Dat.norm 16 x16 0))
 else none
 else none
 else Dat.loop (fun (s20 : (Int) × (List (Int))) k21 =>
 (bif (Dat.ilt s20.1 16) then if (Dat.In s20.1 16) then if (Dat.Lt (Dat.toN s20.1) (Dat.len s12.2)) then Dat.bnd (Dat.get s12.2 (Dat.toN s20.1) 0) fun (x26 : Int) =>
 if (Dat.In s20.1 16) then if (Dat.Lt (Dat.toN s20.1) (Dat.len (Dat.norm 16 x5 0))) then Dat.bnd (Dat.get (Dat.norm 16 x5 0) (Dat.toN s20.1) 0) fun (x31 : Int) =>
 Dat.bnd (Dat.wrap .u32 (Dat.add x26 x31)) fun (x32 : Int) =>
 Dat.loop (fun (s33 : (Int) × (List (Int))) k34 =>
 (bif (Dat.ilt s33.1 4) then Dat.bnd (Dat.wrap .i64 (Dat.mul 4 s20.1)) fun (x35 : Int) =>
 Dat.bnd (Dat.wrap .i64 (Dat.add x35 s33.1)) fun (x36 : Int) =>
 Dat.bnd (Dat.wrap .i64 (Dat.mul 8 s33.1)) fun (x37 : Int) =>
 if (Dat.Neg x37) then none
 else Dat.bnd (Dat.shr .u32 x32 x37) fun (x40 : Int) =>
 Dat.bnd (Dat.wrap .u8 x40) fun (x41 : Int) =>
 if (Dat.In x36 64) then if (Dat.Lt (Dat.toN x36) (Dat.len s33.2)) then Dat.bnd (Dat.set s33.2 (Dat.toN x36) x41) fun (x46 : List (Int)) =>
 Dat.bnd (Dat.wrap .i64 (Dat.add s33.1 1)) fun (x47 : Int) =>
 k34 (x47, x46)
 else none
 else none
 else Dat.bnd (Dat.wrap .i64 (Dat.add s20.1 1)) fun (x48 : Int) =>
 k21 (x48, s33.2))) (0, s20.2)
 else none
 else none
 else none
 else none
 else if (Dat.EqN (Dat.len s20.2) 64) then if (Dat.EqN (Dat.len (Dat.rep 64 0)) 64) then if (Dat.EqN (Dat.len (Dat.norm 64 s20.2 0)) 64) then some (Dat.norm 64 s20.2 0)
 else none
 else none
 else none)) (0, (Dat.rep 64 0)))) (0, (Dat.norm 16 (Dat.norm 16 x5 0) 0))
 else none
 else none
 else none
 else none
 else none
noncomputable def p_chacha_Block : PFn := { args := [(.arr 32 (.int .u8)), (.int .u32), (.arr 12 (.int .u8))], res := [(.arr 64 (.int .u8))], fn := chacha_Block }
def sp25_25 : List LSpec × List Nat := ([{ id := 2500, known := true, toks := [], items := [.slot 18 (.val (.int .i64)), .vec 1000008 (.int .u32)], junk := [19, 20, 21, 22], tails := [] }, { id := 2501, known := true, toks := [], items := [.slot 23 (.val (.int .i64)), .vec 1000009 (.int .u8)], junk := [24, 25, 10, 26, 27, 28, 29, 30, 31, 32, 11, 33, 34, 35, 12, 36, 37, 38, 39, 40, 41, 42, 43, 44, 45, 46, 47], tails := [] }, { id := 2502, known := true, toks := [], items := [.slot 33 (.val (.int .i64)), .vec 1000009 (.int .u8)], junk := [34, 35, 12, 36, 37, 38, 39, 40, 41, 42, 43, 44, 45, 46], tails := [] }], [])
def spt25 : Tab (List LSpec × List Nat) := (.node (.node .leaf none (.node (.node .leaf none (.node .leaf (some sp25_25) .leaf)) none .leaf)) none .leaf)
def spf25 (f : Nat) : List LSpec × List Nat := (spt25.get f).getD ([], [])
theorem pd_chacha_Block : PureD Try.prog cfg 25 p_chacha_Block := fnD spf25 (l := [(30, p_chacha_Words), (31, p_chacha_Double)]) cfgOk rfl (.cons pd_chacha_Words (.cons pd_chacha_Double .nil)) (fun d => by kernel_rfl)

/-- thimblerig/stream.Of -/
noncomputable def stream_Of (d0 : (List (Int)) × ((Int) × (Int))) : Option ((List (Int)) × (Int)) :=
 (bif (Dat.ilt d0.2.2 0) then some (([] : List (Int)), 4)
 else (bif (Dat.pickB false true (Dat.igt d0.2.2 2048)) then some (([] : List (Int)), 4)
 else if (Dat.MkOk 0 d0.2.2 1) then if (Dat.EqN (Dat.len (Dat.norm 32 d0.1 0)) 32) then Dat.bind (stream_Nonce d0.2.1) fun (x5 : List (Int)) =>
 if (Dat.EqN (Dat.len (Dat.rep 12 0)) 12) then if (Dat.EqN (Dat.toN 0) 0) then if (Dat.EqN 0 (Dat.len ([] : List (Int)))) then Dat.loop (fun (s12 : (Int) × (List (Int))) k13 =>
 if (Dat.EqN (Dat.len (Dat.norm 32 (Dat.norm 32 d0.1 0) 0)) 32) then if (Dat.EqN (Dat.len (Dat.norm 12 x5 0)) 12) then Dat.bind (chacha_Block ((Dat.norm 32 (Dat.norm 32 d0.1 0) 0), (s12.1, (Dat.norm 12 x5 0)))) fun (x18 : List (Int)) =>
 if (Dat.EqN (Dat.len (Dat.rep 64 0)) 64) then Dat.bnd (Dat.wrap .i64 (Dat.sub d0.2.2 (Dat.ofN (Dat.len s12.2)))) fun (x21 : Int) =>
 (bif (Dat.ile x21 64) then if (Dat.Le 64 (Dat.len (Dat.norm 64 x18 0))) then if (Dat.Bd x21 64) then if (Dat.Lt 0 64) then if (Dat.Le (Dat.addN 0 (Dat.subN (Dat.toN x21) 0)) (Dat.len (Dat.norm 64 x18 0))) then if (Dat.Big (Dat.len s12.2) (Dat.len (Dat.seg (Dat.norm 64 x18 0) 0 (Dat.subN (Dat.toN x21) 0))) 1) then none
 else if (Dat.EqN (Dat.len s12.2) (Dat.len s12.2)) then Dat.bnd (Dat.app s12.2 (Dat.seg (Dat.norm 64 x18 0) 0 (Dat.subN (Dat.toN x21) 0))) fun (x34 : List (Int)) =>
 some (x34, 0)
 else none
 else none
 else if (Dat.Big (Dat.len s12.2) (Dat.len ([] : List (Int))) 1) then none
 else if (Dat.EqN (Dat.len s12.2) (Dat.len s12.2)) then Dat.bnd (Dat.app s12.2 ([] : List (Int))) fun (x39 : List (Int)) =>
 some (x39, 0)
 else none
 else none
 else none
 else if (Dat.Le 64 (Dat.len (Dat.norm 64 x18 0))) then if (Dat.Lt 0 64) then if (Dat.Le (Dat.addN 0 (Dat.subN 64 0)) (Dat.len (Dat.norm 64 x18 0))) then if (Dat.Big (Dat.len s12.2) (Dat.len (Dat.seg (Dat.norm 64 x18 0) 0 (Dat.subN 64 0))) 1) then none
 else if (Dat.EqN (Dat.len s12.2) (Dat.len s12.2)) then Dat.bnd (Dat.app s12.2 (Dat.seg (Dat.norm 64 x18 0) 0 (Dat.subN 64 0))) fun (x50 : List (Int)) =>
 Dat.bnd (Dat.wrap .u32 (Dat.add s12.1 1)) fun (x51 : Int) =>
 if (Dat.EqN (Dat.len x50) (Dat.len x50)) then k13 (x51, x50)
 else none
 else none
 else none
 else if (Dat.Big (Dat.len s12.2) (Dat.len ([] : List (Int))) 1) then none
 else if (Dat.EqN (Dat.len s12.2) (Dat.len s12.2)) then Dat.bnd (Dat.app s12.2 ([] : List (Int))) fun (x58 : List (Int)) =>
 Dat.bnd (Dat.wrap .u32 (Dat.add s12.1 1)) fun (x59 : Int) =>
 if (Dat.EqN (Dat.len x58) (Dat.len x58)) then k13 (x59, x58)
 else none
 else none
 else none)
 else none
 else none
 else none) (0, ([] : List (Int)))
 else none
 else none
 else none
 else none
 else none))
noncomputable def p_stream_Of : PFn := { args := [(.arr 32 (.int .u8)), (.int .u64), (.int .i64)], res := [(.list (.int .u8)), (.int .i64)], fn := stream_Of }
def sp10_24 : List LSpec × List Nat := ([{ id := 2400, known := true, toks := [(2003000, (.int .u8))], items := [.slot 4 (.val (.int .u32)), .cells 3 [.slt (.int .u8) (some 2003000) false]], junk := [5, 6, 7, 8, 9, 10, 11, 12], tails := [(2003000, 2003000)] }], [])
def spt10 : Tab (List LSpec × List Nat) := (.node .leaf none (.node (.node (.node .leaf none (.node .leaf (some sp10_24) .leaf)) none .leaf) none .leaf))
def spf10 (f : Nat) : List LSpec × List Nat := (spt10.get f).getD ([], [])
theorem pd_stream_Of : PureD Try.prog cfg 10 p_stream_Of := fnD spf10 (l := [(14, p_stream_Nonce), (25, p_chacha_Block)]) cfgOk rfl (.cons pd_stream_Nonce (.cons pd_chacha_Block .nil)) (fun d => by kernel_rfl)

/-- thimblerig/thimblerigref01.Digits -/
noncomputable def ref01_Digits (d0 : (Int) × (Int)) : Option ((List (Int)) × (Bool)) :=
 if (Dat.EqN 0 (Dat.len ([] : List (Int)))) then Dat.loop (fun (s3 : (List (Int)) × ((Int) × (Int))) k4 =>
 (bif (Dat.ilt s3.2.2 d0.2) then if (Dat.IsZ 256) then none
 else Dat.bnd (Dat.tmod s3.2.1 256) fun (x7 : Int) =>
 Dat.bnd (Dat.wrap .u8 x7) fun (x8 : Int) =>
 if (Dat.Le (Dat.addN 0 1) (Dat.len (x8 :: ([] : List (Int))))) then if (Dat.Big (Dat.len s3.1) (Dat.len (Dat.seg (x8 :: ([] : List (Int))) 0 1)) 1) then none
 else if (Dat.EqN (Dat.len s3.1) (Dat.len s3.1)) then Dat.bnd (Dat.app s3.1 (Dat.seg (x8 :: ([] : List (Int))) 0 1)) fun (x15 : List (Int)) =>
 if (Dat.IsZ 256) then none
 else Dat.bnd (Dat.wrap .u64 (Dat.tdiv s3.2.1 256)) fun (x18 : Int) =>
 Dat.bnd (Dat.wrap .i64 (Dat.add s3.2.2 1)) fun (x19 : Int) =>
 if (Dat.EqN (Dat.len x15) (Dat.len x15)) then k4 (x15, (x18, x19))
 else none
 else none
 else none
 else some (s3.1, (Dat.ieq s3.2.1 0)))) (([] : List (Int)), (d0.1, 0))
 else none
noncomputable def p_ref01_Digits : PFn := { args := [(.int .u64), (.int .i64)], res := [(.list (.int .u8)), .bool], fn := ref01_Digits }
def sp22_22 : List LSpec × List Nat := ([{ id := 2200, known := true, toks := [(6, (.int .u8))], items := [.slot 6 (.slt (.int .u8) (some 1000006) false), .slot 0 (.val (.int .u64)), .slot 7 (.val (.int .i64))], junk := [8, 9, 10, 13, 14, 15, 16, 17, 18, 19, 20, 11, 12], tails := [(1000006, 6)] }], [])
def spt22 : Tab (List LSpec × List Nat) := (.node .leaf none (.node .leaf none (.node .leaf none (.node (.node .leaf (some sp22_22) .leaf) none .leaf))))
def spf22 (f : Nat) : List LSpec × List Nat := (spt22.get f).getD ([], [])
theorem pd_ref01_Digits : PureD Try.prog cfg 22 p_ref01_Digits := fnD spf22 (l := []) cfgOk rfl .nil (fun d => by kernel_rfl)

/-- thimblerig/thimblerigref04.Nonce -/
noncomputable def ref04_Nonce (d0 : Int) : Option (List (Int)) :=
 Dat.bind (ref01_Digits (d0, 8)) fun (x1 : (List (Int)) × (Bool)) =>
 Dat.loop (fun (s2 : (Int) × (List (Int))) k3 =>
 (bif (Dat.ilt s2.1 8) then Dat.bnd (Dat.wrap .i64 (Dat.add 4 s2.1)) fun (x4 : Int) =>
 if (Dat.Ix s2.1 (Dat.len x1.1)) then Dat.bnd (Dat.get x1.1 (Dat.toN s2.1) 0) fun (x7 : Int) =>
 if (Dat.In x4 12) then if (Dat.Lt (Dat.toN x4) (Dat.len s2.2)) then Dat.bnd (Dat.set s2.2 (Dat.toN x4) x7) fun (x12 : List (Int)) =>
 Dat.bnd (Dat.wrap .i64 (Dat.add s2.1 1)) fun (x13 : Int) =>
 k3 (x13, x12)
 else none
 else none
 else none
 else if (Dat.EqN (Dat.len s2.2) 12) then if (Dat.EqN (Dat.len (Dat.rep 12 0)) 12) then if (Dat.EqN (Dat.len (Dat.norm 12 s2.2 0)) 12) then some (Dat.norm 12 s2.2 0)
 else none
 else none
 else none)) (0, (Dat.rep 12 0))
noncomputable def p_ref04_Nonce : PFn := { args := [(.int .u64)], res := [(.arr 12 (.int .u8))], fn := ref04_Nonce }
def sp15_15 : List LSpec × List Nat := ([{ id := 1500, known := true, toks := [], items := [.slot 6 (.val (.int .i64)), .vec 1000003 (.int .u8)], junk := [12, 13, 16, 17, 18, 19, 20, 21, 22, 14, 15], tails := [] }], [])
def spt15 : Tab (List LSpec × List Nat) := (.node (.node (.node (.node (.node .leaf (some sp15_15) .leaf) none .leaf) none .leaf) none .leaf) none .leaf)
def spf15 (f : Nat) : List LSpec × List Nat := (spt15.get f).getD ([], [])
theorem pd_ref04_Nonce : PureD Try.prog cfg 15 p_ref04_Nonce := fnD spf15 (l := [(22, p_ref01_Digits)]) cfgOk rfl (.cons pd_ref01_Digits .nil) (fun d => by kernel_rfl)

/-- thimblerig/thimblerigref03.word -/
noncomputable def ref03_word (d0 : (Int) × ((Int) × ((Int) × (Int)))) : Option (Int) :=
 Dat.bnd (Dat.wrap .u32 d0.1) fun (x1 : Int) =>
 Dat.bnd (Dat.wrap .u32 d0.2.1) fun (x2 : Int) =>
 if (Dat.Neg 8) then none
 else Dat.bnd (Dat.shl .u32 x2 8) fun (x5 : Int) =>
 Dat.bnd (Dat.bor .u32 x1 x5) fun (x6 : Int) =>
 Dat.bnd (Dat.wrap .u32 d0.2.2.1) fun (x7 : Int) =>
 if (Dat.Neg 16) then none
 else Dat.bnd (Dat.shl .u32 x7 16) fun (x10 : Int) =>
 Dat.bnd (Dat.bor .u32 x6 x10) fun (x11 : Int) =>
 Dat.bnd (Dat.wrap .u32 d0.2.2.2) fun (x12 : Int) =>
 if (Dat.Neg 24) then none
 else Dat.bnd (Dat.shl .u32 x12 24) fun (x15 : Int) =>
 Dat.bnd (Dat.bor .u32 x11 x15) fun (x16 : Int) =>
 some x16
noncomputable def p_ref03_word : PFn := { args := [(.int .u8), (.int .u8), (.int .u8), (.int .u8)], res := [(.int .u32)], fn := ref03_word }
theorem pd_ref03_word : PureD Try.prog cfg 38 p_ref03_word := fnD sp0 (l := []) cfgOk rfl .nil (fun d => by kernel_rfl)

/-- thimblerig/thimblerigref03.rolled -/
noncomputable def ref03_rolled (d0 : (Int) × (Int)) : Option (Int) :=
 if (Dat.Neg d0.2) then none
 else Dat.bnd (Dat.shl .u32 d0.1 d0.2) fun (x3 : Int) =>
 Dat.bnd (Dat.wrap .u32 (Dat.sub 32 d0.2)) fun (x4 : Int) =>
 if (Dat.Neg x4) then none
 else Dat.bnd (Dat.shr .u32 d0.1 x4) fun (x7 : Int) =>
 Dat.bnd (Dat.bor .u32 x3 x7) fun (x8 : Int) =>
 some x8
noncomputable def p_ref03_rolled : PFn := { args := [(.int .u32), (.int .u32)], res := [(.int .u32)], fn := ref03_rolled }
theorem pd_ref03_rolled : PureD Try.prog cfg 44 p_ref03_rolled := fnD sp0 (l := []) cfgOk rfl .nil (fun d => by kernel_rfl)

/-- thimblerig/thimblerigref03.at -/
noncomputable def ref03_at (d0 : (List (Int)) × ((Int) × ((Int) × ((Int) × (Int))))) : Option (List (Int)) :=
 if (Dat.In d0.2.1 16) then if (Dat.Lt (Dat.toN d0.2.1) (Dat.len (Dat.norm 16 d0.1 0))) then Dat.bnd (Dat.get (Dat.norm 16 d0.1 0) (Dat.toN d0.2.1) 0) fun (x5 : Int) =>
 if (Dat.In d0.2.2.1 16) then if (Dat.Lt (Dat.toN d0.2.2.1) (Dat.len (Dat.norm 16 d0.1 0))) then Dat.bnd (Dat.get (Dat.norm 16 d0.1 0) (Dat.toN d0.2.2.1) 0) fun (x10 : Int) =>
 if (Dat.In d0.2.2.2.1 16) then if (Dat.Lt (Dat.toN d0.2.2.2.1) (Dat.len (Dat.norm 16 d0.1 0))) then Dat.bnd (Dat.get (Dat.norm 16 d0.1 0) (Dat.toN d0.2.2.2.1) 0) fun (x15 : Int) =>
 if (Dat.In d0.2.2.2.2 16) then if (Dat.Lt (Dat.toN d0.2.2.2.2) (Dat.len (Dat.norm 16 d0.1 0))) then Dat.bnd (Dat.get (Dat.norm 16 d0.1 0) (Dat.toN d0.2.2.2.2) 0) fun (x20 : Int) =>
 Dat.bind (ref03_Quarter (x5 :: (x10 :: (x15 :: (x20 :: ([] : List (Int))))))) fun (x21 : List (Int)) =>
 if (Dat.EqN (Dat.len (Dat.rep 4 0)) 4) then if (Dat.In 0 4) then if (Dat.Lt (Dat.toN 0) (Dat.len (Dat.norm 4 x21 0))) then Dat.bnd (Dat.get (Dat.norm 4 x21 0) (Dat.toN 0) 0) fun (x28 : Int) =>
 if (Dat.In d0.2.1 16) then if (Dat.Lt (Dat.toN d0.2.1) (Dat.len (Dat.norm 16 d0.1 0))) then Dat.bnd (Dat.set (Dat.norm 16 d0.1 0) (Dat.toN d0.2.1) x28) fun (x33 : List (Int)) =>
 if (Dat.In 1 4) then if (Dat.Lt (Dat.toN 1) (Dat.len (Dat.norm 4 x21 0))) then Dat.bnd (Dat.get (Dat.norm 4 x21 0) (Dat.toN 1) 0) fun (x38 : Int) =>
 if (Dat.In d0.2.2.1 16) then if (Dat.Lt (Dat.toN d0.2.2.1) (Dat.len x33)) then Dat.bnd (Dat.set x33 (Dat.toN d0.2.2.1) x38) fun (x43 : List (Int)) =>
 if (Dat.In 2 4) then if (Dat.Lt (Dat.toN 2) (Dat.len (Dat.norm 4 x21 0))) then Dat.bnd (Dat.get (Dat.norm 4 x21 0) (Dat.toN 2) 0) fun (x48 : Int) =>
 if (Dat.In d0.2.2.2.1 16) then if (Dat.Lt (Dat.toN d0.2.2.2.1) (Dat.len x43)) then Dat.bnd (Dat.set x43 (Dat.toN d0.2.2.2.1) x48) fun (x53 : List (Int)) =>
 if (Dat.In 3 4) then if (Dat.Lt (Dat.toN 3) (Dat.len (Dat.norm 4 x21 0))) then Dat.bnd (Dat.get (Dat.norm 4 x21 0) (Dat.toN 3) 0) fun (x58 : Int) =>
 if (Dat.In d0.2.2.2.2 16) then if (Dat.Lt (Dat.toN d0.2.2.2.2) (Dat.len x53)) then Dat.bnd (Dat.set x53 (Dat.toN d0.2.2.2.2) x58) fun (x63 : List (Int)) =>
 if (Dat.EqN (Dat.len x63) 16) then if (Dat.EqN (Dat.len (Dat.rep 16 0)) 16) then if (Dat.EqN (Dat.len (Dat.norm 16 x63 0)) 16) then some (Dat.norm 16 x63 0)
 else none
 else none
 else none
 else none
 else none
 else none
 else none
 else none
 else none
 else none
 else none
 else none
 else none
 else none
 else none
 else none
 else none
 else none
 else none
 else none
 else none
 else none
 else none
 else none
 else none
 else none
 else none
 else none
noncomputable def p_ref03_at : PFn := { args := [(.arr 16 (.int .u32)), (.int .i64), (.int .i64), (.int .i64), (.int .i64)], res := [(.arr 16 (.int .u32))], fn := ref03_at }
theorem pd_ref03_at : PureD Try.prog cfg 39 p_ref03_at := fnD sp0 (l := [(41, p_ref03_Quarter)]) cfgOk rfl (.cons pd_ref03_Quarter .nil) (fun d => by kernel_rfl)

/-- thimblerig/thimblerigref03.Block -/
noncomputable def ref03_Block (d0 : (List (Int)) × ((Int) × (List (Int)))) : Option (List (Int)) :=
 if (Dat.EqN (Dat.len (Dat.norm 32 d0.1 0)) 32) then if (Dat.EqN (Dat.len (Dat.norm 12 d0.2.2 0)) 12) then Dat.bind (ref03_Words ((Dat.norm 32 d0.1 0), (d0.2.1, (Dat.norm 12 d0.2.2 0)))) fun (x5 : List (Int)) =>
 if (Dat.EqN (Dat.len (Dat.rep 16 0)) 16) then if (Dat.EqN (Dat.len (Dat.norm 16 x5 0)) 16) then if (Dat.EqN (Dat.len (Dat.rep 16 0)) 16) then Dat.loop (fun (s12 : (Int) × (List (Int))) k13 =>
 (bif (Dat.ilt s12.1 10) then if (Dat.EqN (Dat.len s12.2) 16) then Dat.bind (ref03_Double s12.2) fun (x16 : List (Int)) =>
 if (Dat.EqN (Dat.len s12.2) 16) then Dat.bnd (Dat.wrap .i64 (Dat.add s12.1 1)) fun (x19 : Int) =>
 k13 (x19, (Dat.norm 16 x16 0))
 else none
 else none
 else Dat.loop (fun (s20 : (Int) × (List (Int))) k21 =>
 (bif (Dat.ilt s20.1 64) then if (Dat.IsZ 4) then none
 else Dat.bnd (Dat.wrap .i64 (Dat.tdiv s20.1 4)) fun (x24 : Int) =>
 if (Dat.In x24 16) then if (Dat.Lt (Dat.toN x24) (Dat.len s12.2)) then Dat.bnd (Dat.get s12.2 (Dat.toN x24) 0) fun (x29 : Int) =>
 if (Dat.IsZ 4) then none
 else Dat.bnd (Dat.wrap .i64 (Dat.tdiv s20.1 4)) fun (x32 : Int) =>
 if (Dat.In x32 16) then if (Dat.Lt (Dat.toN x32) (Dat.len (Dat.norm 16 x5 0))) then Dat.bnd (Dat.get (Dat.norm 16 x5 0) (Dat.toN x32) 0) fun (x37 : Int) =>
 Dat.bnd (Dat.wrap .u32 (Dat.add x29 x37)) fun (x38 : Int) =>
 if (Dat.IsZ 4) then none
 else Dat.bnd (Dat.tmod s20.1 4) fun (x41 : Int) =>
 Dat.bnd (Dat.wrap .i64 (Dat.mul 8 x41)) fun (x42 : Int) =>
 Dat.bnd (Dat.wrap .u64 x42) fun (x43 : Int) =>
 if (Dat.Neg x43) then none
 else Dat.bnd (Dat.shr .u32 x38 x43) fun (x46 : Int) =>
 Dat.bnd (Dat.wrap .u8 x46) fun (x47 : Int) =>
 if (Dat.In s20.1 64) then if (Dat.Lt (Dat.toN s20.1) (Dat.len s20.2)) then Dat.bnd (Dat.set s20.2 (Dat.toN s20.1) x47) fun (x52 : List (Int)) =>
 Dat.bnd (Dat.wrap .i64 (Dat.add s20.1 1)) fun (x53 : Int) =>
 k21 (x53, x52)
 else none
 else none
 else none
 else none
 else none
 else none
 else if (Dat.EqN (Dat.len s20.2) 64) then if (Dat.EqN (Dat.len (Dat.rep 64 0)) 64) then if (Dat.EqN (Dat.len (Dat.norm 64 s20.2 0)) 64) then some (Dat.norm 64 s20.2 0)
 else none
 else none
 else none)) (0, (Dat.rep 64 0)))) (0, (Dat.norm 16 (Dat.norm 16 x5 0) 0))
 else none
 else none
 else none
 else none
 else none
noncomputable def p_ref03_Block : PFn := { args := [(.arr 32 (.int .u8)), (.int .u32), (.arr 12 (.int .u8))], res := [(.arr 64 (.int .u8))], fn := ref03_Block }
def sp26_26 : List LSpec × List Nat := ([{ id := 2600, known := true, toks := [], items := [.slot 9 (.val (.int .i64)), .vec 1000008 (.int .u32)], junk := [18, 19, 22, 23, 20, 21], tails := [] }, { id := 2601, known := true, toks := [], items := [.slot 11 (.val (.int .i64)), .vec 1000010 (.int .u8)], junk := [24, 25, 28, 29, 30, 31, 32, 33, 34, 35, 36, 12, 37, 38, 39, 40, 41, 42, 43, 44, 45, 26, 27], tails := [] }], [])
def spt26 : Tab (List LSpec × List Nat) := (.node .leaf none (.node .leaf none (.node (.node .leaf none (.node .leaf (some sp26_26) .leaf)) none .leaf)))
def spf26 (f : Nat) : List LSpec × List Nat := (spt26.get f).getD ([], [])
theorem pd_ref03_Block : PureD Try.prog cfg 26 p_ref03_Block := fnD spf26 (l := [(32, p_ref03_Words), (33, p_ref03_Double)]) cfgOk rfl (.cons pd_ref03_Words (.cons pd_ref03_Double .nil)) (fun d => by kernel_rfl)

/-- thimblerig/thimblerigref04.First -/
noncomputable def ref04_First (d0 : (List (Int)) × ((Int) × (Int))) : Option (List (Int)) :=
 if (Dat.EqN 0 (Dat.len ([] : List (Int)))) then Dat.loop (fun (s3 : (List (Int)) × (Int)) k4 =>
 (bif (Dat.ilt (Dat.ofN (Dat.len s3.1)) d0.2.2) then if (Dat.EqN (Dat.len (Dat.norm 32 d0.1 0)) 32) then Dat.bind (ref04_Nonce d0.2.1) fun (x7 : List (Int)) =>
 Dat.bind (ref03_Block ((Dat.norm 32 d0.1 0), (s3.2, x7))) fun (x8 : List (Int)) =>
 if (Dat.EqN (Dat.len (Dat.rep 64 0)) 64) then if (Dat.Le 64 (Dat.len (Dat.norm 64 x8 0))) then if (Dat.Lt 0 64) then if (Dat.Le (Dat.addN 0 (Dat.subN 64 0)) (Dat.len (Dat.norm 64 x8 0))) then if (Dat.Big (Dat.len s3.1) (Dat.len (Dat.seg (Dat.norm 64 x8 0) 0 (Dat.subN 64 0))) 1) then none
 else if (Dat.EqN (Dat.len s3.1) (Dat.len s3.1)) then Dat.bnd (Dat.app s3.1 (Dat.seg (Dat.norm 64 x8 0) 0 (Dat.subN 64 0))) fun (x21 : List (Int)) =>
 Dat.bnd (Dat.wrap .u32 (Dat.add s3.2 1)) fun (x22 : Int) =>
 if (Dat.EqN (Dat.len x21) (Dat.len x21)) then k4 (x21, x22)
 else none
 else none
 else none
 else if (Dat.Big (Dat.len s3.1) (Dat.len ([] : List (Int))) 1) then none
 else if (Dat.EqN (Dat.len s3.1) (Dat.len s3.1)) then Dat.bnd (Dat.app s3.1 ([] : List (Int))) fun (x29 : List (Int)) =>
 Dat.bnd (Dat.wrap .u32 (Dat.add s3.2 1)) fun (x30 : Int) =>
 if (Dat.EqN (Dat.len x29) (Dat.len x29)) then k4 (x29, x30)
 else none
 else none
 else none
 else none
 else none
 else if (Dat.Bd d0.2.2 (Dat.len s3.1)) then if (Dat.EqN 0 0) then if (Dat.EqN (Dat.toN d0.2.2) (Dat.len s3.1)) then Dat.bnd (Dat.slice s3.1 0 (Dat.toN d0.2.2)) fun (x39 : List (Int)) =>
 some x39
 else Dat.bnd (Dat.slice s3.1 0 (Dat.toN d0.2.2)) fun (x40 : List (Int)) =>
 some x40
 else Dat.bnd (Dat.slice s3.1 0 (Dat.toN d0.2.2)) fun (x41 : List (Int)) =>
 some x41
 else none)) (([] : List (Int)), 0)
 else none
noncomputable def p_ref04_First : PFn := { args := [(.arr 32 (.int .u8)), (.int .u64), (.int .i64)], res := [(.list (.int .u8))], fn := ref04_First }
def sp20_20 : List LSpec × List Nat := ([{ id := 2000, known := true, toks := [(7, (.int .u8))], items := [.slot 7 (.slt (.int .u8) (some 1000007) false), .slot 8 (.val (.int .u32))], junk := [10, 11, 12, 13, 16, 17, 18, 19, 20, 9, 21, 22, 23, 14, 15], tails := [(1000007, 7)] }], [])
def spt20 : Tab (List LSpec × List Nat) := (.node .leaf none (.node (.node .leaf none (.node (.node .leaf (some sp20_20) .leaf) none .leaf)) none .leaf))
def spf20 (f : Nat) : List LSpec × List Nat := (spt20.get f).getD ([], [])
theorem pd_ref04_First : PureD Try.prog cfg 20 p_ref04_First := fnD spf20 (l := [(15, p_ref04_Nonce), (26, p_ref03_Block)]) cfgOk rfl (.cons pd_ref04_Nonce (.cons pd_ref03_Block .nil)) (fun d => by kernel_rfl)

/-- thimblerig/thimblerigref04.Of -/
noncomputable def ref04_Of (d0 : (List (Int)) × ((Int) × (Int))) : Option ((List (Int)) × (Int)) :=
 (bif (Dat.ilt d0.2.2 0) then some (([] : List (Int)), 4)
 else (bif (Dat.pickB false true (Dat.igt d0.2.2 2048)) then some (([] : List (Int)), 4)
 else if (Dat.EqN (Dat.len (Dat.norm 32 d0.1 0)) 32) then Dat.bind (ref04_First ((Dat.norm 32 d0.1 0), (d0.2.1, d0.2.2))) fun (x3 : List (Int)) =>
 some (x3, 0)
 else none))
noncomputable def p_ref04_Of : PFn := { args := [(.arr 32 (.int .u8)), (.int .u64), (.int .i64)], res := [(.list (.int .u8)), (.int .i64)], fn := ref04_Of }
theorem pd_ref04_Of : PureD Try.prog cfg 12 p_ref04_Of := fnD sp0 (l := [(20, p_ref04_First)]) cfgOk rfl (.cons pd_ref04_First .nil) (fun d => by kernel_rfl)

/-- thimblerig/thimblerigref01.Same -/
noncomputable def ref01_Same (d0 : (List (Int)) × (List (Int))) : Option (Bool) :=
 Dat.bnd (Dat.str d0.1) fun (x1 : List (UInt8)) =>
 Dat.bnd (Dat.str d0.2) fun (x2 : List (UInt8)) =>
 some (Dat.seq x1 x2)
noncomputable def p_ref01_Same : PFn := { args := [(.list (.int .u8)), (.list (.int .u8))], res := [.bool], fn := ref01_Same }
theorem pd_ref01_Same : PureD Try.prog cfg 13 p_ref01_Same := fnD sp0 (l := []) cfgOk rfl .nil (fun d => by kernel_rfl)

/-- thimblerig/thimbleriglaw04.StreamTells -/
noncomputable def law04_StreamTells (d0 : (List (Int)) × ((Int) × (Int))) : Option (Bool) :=
 if (Dat.EqN (Dat.len (Dat.norm 32 d0.1 0)) 32) then Dat.bind (stream_Of ((Dat.norm 32 d0.1 0), (d0.2.1, d0.2.2))) fun (x3 : (List (Int)) × (Int)) =>
 if (Dat.EqN (Dat.len (Dat.norm 32 d0.1 0)) 32) then Dat.bind (ref04_Of ((Dat.norm 32 d0.1 0), (d0.2.1, d0.2.2))) fun (x6 : (List (Int)) × (Int)) =>
 Dat.bind (ref01_Same (x3.1, x6.1)) fun (x7 : Bool) =>
 (bif x7 then (bif (Dat.pickB true (Dat.ieq x3.2 x6.2) false) then Dat.bind (stream_Nonce d0.2.1) fun (x8 : List (Int)) =>
 Dat.bind (ref04_Nonce d0.2.1) fun (x9 : List (Int)) =>
 some (Dat.pickB true (Dat.lq 12 x8 x9) false)
 else some false)
 else some false)
 else none
 else none
noncomputable def p_law04_StreamTells : PFn := { args := [(.arr 32 (.int .u8)), (.int .u64), (.int .i64)], res := [.bool], fn := law04_StreamTells }
theorem pd_law04_StreamTells : PureD Try.prog cfg 4 p_law04_StreamTells := fnD sp0 (l := [(10, p_stream_Of), (12, p_ref04_Of), (13, p_ref01_Same), (14, p_stream_Nonce), (15, p_ref04_Nonce)]) cfgOk rfl (.cons pd_stream_Of (.cons pd_ref04_Of (.cons pd_ref01_Same (.cons pd_stream_Nonce (.cons pd_ref04_Nonce .nil))))) (fun d => by kernel_rfl)

/-- thimblerig/stream.Xor -/
noncomputable def stream_Xor (d0 : (List (Int)) × (List (Int))) : Option ((List (Int)) × (Int)) :=
 (bif (Dat.ine (Dat.ofN (Dat.len d0.1)) (Dat.ofN (Dat.len d0.2))) then some (([] : List (Int)), 2)
 else if (Dat.MkOk 0 (Dat.ofN (Dat.len d0.1)) 1) then if (Dat.EqN (Dat.toN 0) 0) then if (Dat.EqN 0 (Dat.len ([] : List (Int)))) then Dat.loop (fun (s7 : (Int) × (List (Int))) k8 =>
 (bif (Dat.ilt s7.1 (Dat.ofN (Dat.len d0.1))) then if (Dat.Ix s7.1 (Dat.len d0.1)) then Dat.bnd (Dat.get d0.1 (Dat.toN s7.1) 0) fun (x11 : Int) =>
 if (Dat.Ix s7.1 (Dat.len d0.2)) then Dat.bnd (Dat.get d0.2 (Dat.toN s7.1) 0) fun (x14 : Int) =>
 Dat.bnd (Dat.bxor .u8 x11 x14) fun (x15 : Int) =>
 if (Dat.Le (Dat.addN 0 1) (Dat.len (x15 :: ([] : List (Int))))) then if (Dat.Big (Dat.len s7.2) (Dat.len (Dat.seg (x15 :: ([] : List (Int))) 0 1)) 1) then none
 else if (Dat.EqN (Dat.len s7.2) (Dat.len s7.2)) then Dat.bnd (Dat.app s7.2 (Dat.seg (x15 :: ([] : List (Int))) 0 1)) fun (x22 : List (Int)) =>
 Dat.bnd (Dat.wrap .i64 (Dat.add s7.1 1)) fun (x23 : Int) =>
 if (Dat.EqN (Dat.len x22) (Dat.len x22)) then k8 (x23, x22)
 else none
 else none
 else none
 else none
 else none
 else some (s7.2, 0))) (0, ([] : List (Int)))
 else none
 else none
 else none)
noncomputable def p_stream_Xor : PFn := { args := [(.list (.int .u8)), (.list (.int .u8))], res := [(.list (.int .u8)), (.int .i64)], fn := stream_Xor }
def sp9_17 : List LSpec × List Nat := ([{ id := 1700, known := true, toks := [(2003000, (.int .u8))], items := [.slot 6 (.val (.int .i64)), .cells 3 [.slt (.int .u8) (some 2003000) false]], junk := [7, 8, 4, 9, 10, 11, 12], tails := [(2003000, 2003000)] }], [])
def spt9 : Tab (List LSpec × List Nat) := (.node (.node .leaf none (.node (.node (.node .leaf (some sp9_17) .leaf) none .leaf) none .leaf)) none .leaf)
def spf9 (f : Nat) : List LSpec × List Nat := (spt9.get f).getD ([], [])
theorem pd_stream_Xor : PureD Try.prog cfg 9 p_stream_Xor := fnD spf9 (l := []) cfgOk rfl .nil (fun d => by kernel_rfl)

/-- thimblerig/thimbleriglaw04.alive -/
noncomputable def law04_alive (d0 : Unit) : Option (Bool) :=
 Dat.bind (stream_Of ((0 :: (0 :: (0 :: (0 :: (0 :: (0 :: (0 :: (0 :: (0 :: (0 :: (0 :: (0 :: (0 :: (0 :: (0 :: (0 :: (0 :: (0 :: (0 :: (0 :: (0 :: (0 :: (0 :: (0 :: (0 :: (0 :: (0 :: (0 :: (0 :: (0 :: (0 :: (0 :: ([] : List (Int)))))))))))))))))))))))))))))))))), (0, 4))) fun (x1 : (List (Int)) × (Int)) =>
 if (Dat.Le (Dat.addN 0 2) (Dat.len (1 :: (2 :: ([] : List (Int)))))) then if (Dat.Le (Dat.addN 0 2) (Dat.len (3 :: (3 :: ([] : List (Int)))))) then Dat.bind (stream_Xor ((Dat.seg (1 :: (2 :: ([] : List (Int)))) 0 2), (Dat.seg (3 :: (3 :: ([] : List (Int)))) 0 2))) fun (x6 : (List (Int)) × (Int)) =>
 Dat.bind (stream_Nonce 258) fun (x7 : List (Int)) =>
 (bif (Dat.andB (Dat.ieq (Dat.get x7 0 0) 0) (Dat.andB (Dat.ieq (Dat.get x7 1 0) 0) (Dat.andB (Dat.ieq (Dat.get x7 2 0) 0) (Dat.andB (Dat.ieq (Dat.get x7 3 0) 0) (Dat.andB (Dat.ieq (Dat.get x7 4 0) 2) (Dat.andB (Dat.ieq (Dat.get x7 5 0) 1) (Dat.andB (Dat.ieq (Dat.get x7 6 0) 0) (Dat.andB (Dat.ieq (Dat.get x7 7 0) 0) (Dat.andB (Dat.ieq (Dat.get x7 8 0) 0) (Dat.andB (Dat.ieq (Dat.get x7 9 0) 0) (Dat.andB (Dat.ieq (Dat.get x7 10 0) 0) (Dat.andB (Dat.ieq (Dat.get x7 11 0) 0) true)))))))))))) then (bif (Dat.pickB true (Dat.ieq x1.2 0) false) then if (Dat.Le (Dat.addN 0 4) (Dat.len (118 :: (184 :: (224 :: (173 :: ([] : List (Int)))))))) then Dat.bind (ref01_Same (x1.1, (Dat.seg (118 :: (184 :: (224 :: (173 :: ([] : List (Int)))))) 0 4))) fun (x10 : Bool) =>
 (bif (Dat.pickB true x10 false) then (bif (Dat.pickB true (Dat.ieq x6.2 0) false) then if (Dat.Le (Dat.addN 0 2) (Dat.len (2 :: (1 :: ([] : List (Int)))))) then Dat.bind (ref01_Same (x6.1, (Dat.seg (2 :: (1 :: ([] : List (Int)))) 0 2))) fun (x13 : Bool) =>
 some (Dat.pickB true x13 false)
 else none
 else some false)
 else some false)
 else none
 else some false)
 else some false)
 else none
 else none
noncomputable def p_law04_alive : PFn := { args := [], res := [.bool], fn := law04_alive }
theorem pd_law04_alive : PureD Try.prog cfg 11 p_law04_alive := fnD sp0 (l := [(10, p_stream_Of), (9, p_stream_Xor), (14, p_stream_Nonce), (13, p_ref01_Same)]) cfgOk rfl (.cons pd_stream_Of (.cons pd_stream_Xor (.cons pd_stream_Nonce (.cons pd_ref01_Same .nil)))) (fun d => by kernel_rfl)

/-- thimblerig/thimbleriglaw04.StreamGoesOn -/
noncomputable def law04_StreamGoesOn (d0 : (List (Int)) × ((Int) × ((Int) × (Int)))) : Option (Bool) :=
 Dat.bind (law04_alive ()) fun (x1 : Bool) =>
 if (Dat.EqN (Dat.len (Dat.norm 32 d0.1 0)) 32) then Dat.bind (stream_Of ((Dat.norm 32 d0.1 0), (d0.2.1, d0.2.2.1))) fun (x4 : (List (Int)) × (Int)) =>
 if (Dat.EqN (Dat.len (Dat.norm 32 d0.1 0)) 32) then Dat.bind (stream_Of ((Dat.norm 32 d0.1 0), (d0.2.1, d0.2.2.2))) fun (x7 : (List (Int)) × (Int)) =>
 (bif (Dat.ine x4.2 0) then (bif x1 then (bif (Dat.ieq x4.2 0) then some (Dat.pickB true true false)
 else some (Dat.pickB true (Dat.pickB false true (Dat.ieq (Dat.ofN (Dat.len x4.1)) 0)) false))
 else some false)
 else (bif (Dat.pickB false true (Dat.ine x7.2 0)) then (bif x1 then (bif (Dat.ieq x4.2 0) then some (Dat.pickB true true false)
 else some (Dat.pickB true (Dat.pickB false true (Dat.ieq (Dat.ofN (Dat.len x4.1)) 0)) false))
 else some false)
 else (bif (Dat.pickB false true (Dat.igt d0.2.2.1 d0.2.2.2)) then (bif x1 then (bif (Dat.ieq x4.2 0) then some (Dat.pickB true true false)
 else some (Dat.pickB true (Dat.pickB false true (Dat.ieq (Dat.ofN (Dat.len x4.1)) 0)) false))
 else some false)
 else (bif x1 then (bif (Dat.pickB true (Dat.ieq (Dat.ofN (Dat.len x4.1)) d0.2.2.1) false) then (bif (Dat.pickB true (Dat.ieq (Dat.ofN (Dat.len x7.1)) d0.2.2.2) false) then if (Dat.Bd d0.2.2.1 (Dat.len x7.1)) then Dat.bnd (Dat.slice x7.1 0 (Dat.toN d0.2.2.1)) fun (x10 : List (Int)) =>
 Dat.bind (ref01_Same (x10, x4.1)) fun (x11 : Bool) =>
 some (Dat.pickB true x11 false)
 else none
 else some false)
 else some false)
 else some false))))
 else none
 else none
noncomputable def p_law04_StreamGoesOn : PFn := { args := [(.arr 32 (.int .u8)), (.int .u64), (.int .i64), (.int .i64)], res := [.bool], fn := law04_StreamGoesOn }
theorem pd_law04_StreamGoesOn : PureD Try.prog cfg 6 p_law04_StreamGoesOn := fnD sp0 (l := [(11, p_law04_alive), (10, p_stream_Of), (13, p_ref01_Same)]) cfgOk rfl (.cons pd_law04_alive (.cons pd_stream_Of (.cons pd_ref01_Same .nil))) (fun d => by kernel_rfl)

/-- thimblerig/thimbleriglaw04.StreamTwice -/
noncomputable def law04_StreamTwice (d0 : (List (Int)) × ((List (Int)) × (Int))) : Option (Bool) :=
 Dat.bind (law04_alive ()) fun (x1 : Bool) =>
 (bif (Dat.igt (Dat.ofN (Dat.len d0.1)) 2048) then some x1
 else (bif (Dat.pickB false true (Dat.bnot x1)) then some x1
 else if (Dat.EqN (Dat.len (Dat.norm 32 d0.2.1 0)) 32) then Dat.bind (stream_Of ((Dat.norm 32 d0.2.1 0), (d0.2.2, (Dat.ofN (Dat.len d0.1))))) fun (x4 : (List (Int)) × (Int)) =>
 Dat.bind (stream_Xor (d0.1, x4.1)) fun (x5 : (List (Int)) × (Int)) =>
 Dat.bind (stream_Xor (x5.1, x4.1)) fun (x6 : (List (Int)) × (Int)) =>
 Dat.bind (stream_Xor (x4.1, d0.1)) fun (x7 : (List (Int)) × (Int)) =>
 (bif x1 then (bif (Dat.pickB true (Dat.ieq x4.2 0) false) then (bif (Dat.pickB true (Dat.ieq x5.2 0) false) then (bif (Dat.pickB true (Dat.ieq x6.2 0) false) then (bif (Dat.pickB true (Dat.ieq x7.2 0) false) then Dat.bind (ref01_Same (x6.1, d0.1)) fun (x8 : Bool) =>
 (bif (Dat.pickB true x8 false) then Dat.bind (ref01_Same (x7.1, x5.1)) fun (x9 : Bool) =>
 some (Dat.pickB true x9 false)
 else some false)
 else some false)
 else some false)
 else some false)
 else some false)
 else some false)
 else none))
noncomputable def p_law04_StreamTwice : PFn := { args := [(.list (.int .u8)), (.arr 32 (.int .u8)), (.int .u64)], res := [.bool], fn := law04_StreamTwice }
theorem pd_law04_StreamTwice : PureD Try.prog cfg 7 p_law04_StreamTwice := fnD sp0 (l := [(11, p_law04_alive), (10, p_stream_Of), (9, p_stream_Xor), (13, p_ref01_Same)]) cfgOk rfl (.cons pd_law04_alive (.cons pd_stream_Of (.cons pd_stream_Xor (.cons pd_ref01_Same .nil)))) (fun d => by kernel_rfl)

/-- thimblerig/thimbleriglaw04.StreamApart -/
noncomputable def law04_StreamApart (d0 : (Int) × (Int)) : Option (Bool) :=
 Dat.bind (law04_alive ()) fun (x1 : Bool) =>
 (bif x1 then Dat.bind (stream_Nonce d0.1) fun (x2 : List (Int)) =>
 Dat.bind (stream_Nonce d0.2) fun (x3 : List (Int)) =>
 some (Dat.pickB true (Dat.beq (Dat.lq 12 x2 x3) (Dat.ieq d0.1 d0.2)) false)
 else some false)
noncomputable def p_law04_StreamApart : PFn := { args := [(.int .u64), (.int .u64)], res := [.bool], fn := law04_StreamApart }
theorem pd_law04_StreamApart : PureD Try.prog cfg 8 p_law04_StreamApart := fnD sp0 (l := [(11, p_law04_alive), (14, p_stream_Nonce)]) cfgOk rfl (.cons pd_law04_alive (.cons pd_stream_Nonce .nil)) (fun d => by kernel_rfl)

/-- thimblerig/thimbleriglaw04.StreamNames -/
noncomputable def law04_StreamNames (d0 : Unit) : Option (Bool) :=
 if (Dat.Le (Dat.addN 0 1) (Dat.len (1 :: ([] : List (Int))))) then Dat.bind (stream_Xor ((Dat.seg (1 :: ([] : List (Int))) 0 1), ([] : List (Int)))) fun (x3 : (List (Int)) × (Int)) =>
 Dat.bind (stream_Of ((0 :: (0 :: (0 :: (0 :: (0 :: (0 :: (0 :: (0 :: (0 :: (0 :: (0 :: (0 :: (0 :: (0 :: (0 :: (0 :: (0 :: (0 :: (0 :: (0 :: (0 :: (0 :: (0 :: (0 :: (0 :: (0 :: (0 :: (0 :: (0 :: (0 :: (0 :: (0 :: ([] : List (Int)))))))))))))))))))))))))))))))))), (0, 2049))) fun (x4 : (List (Int)) × (Int)) =>
 Dat.bind (stream_Of ((0 :: (0 :: (0 :: (0 :: (0 :: (0 :: (0 :: (0 :: (0 :: (0 :: (0 :: (0 :: (0 :: (0 :: (0 :: (0 :: (0 :: (0 :: (0 :: (0 :: (0 :: (0 :: (0 :: (0 :: (0 :: (0 :: (0 :: (0 :: (0 :: (0 :: (0 :: (0 :: ([] : List (Int)))))))))))))))))))))))))))))))))), (0, (-1)))) fun (x5 : (List (Int)) × (Int)) =>
 Dat.bind (stream_Of ((0 :: (0 :: (0 :: (0 :: (0 :: (0 :: (0 :: (0 :: (0 :: (0 :: (0 :: (0 :: (0 :: (0 :: (0 :: (0 :: (0 :: (0 :: (0 :: (0 :: (0 :: (0 :: (0 :: (0 :: (0 :: (0 :: (0 :: (0 :: (0 :: (0 :: (0 :: (0 :: ([] : List (Int)))))))))))))))))))))))))))))))))), (0, 2048))) fun (x6 : (List (Int)) × (Int)) =>
 Dat.bind (stream_Of ((0 :: (0 :: (0 :: (0 :: (0 :: (0 :: (0 :: (0 :: (0 :: (0 :: (0 :: (0 :: (0 :: (0 :: (0 :: (0 :: (0 :: (0 :: (0 :: (0 :: (0 :: (0 :: (0 :: (0 :: (0 :: (0 :: (0 :: (0 :: (0 :: (0 :: (0 :: (0 :: ([] : List (Int)))))))))))))))))))))))))))))))))), (0, 0))) fun (x7 : (List (Int)) × (Int)) =>
 Dat.bind (law04_alive ()) fun (x8 : Bool) =>
 (bif (Dat.pickB true x8 false) then (bif (Dat.pickB true (Dat.ieq x3.2 2) false) then (bif (Dat.pickB true (Dat.ieq x4.2 4) false) then (bif (Dat.pickB true (Dat.ieq x5.2 4) false) then (bif (Dat.pickB true (Dat.ieq x6.2 0) false) then (bif (Dat.pickB true (Dat.ieq (Dat.ofN (Dat.len x6.1)) 2048) false) then (bif (Dat.pickB true (Dat.ieq x7.2 0) false) then some (Dat.pickB true (Dat.ieq (Dat.ofN (Dat.len x7.1)) 0) false)
 else some false)
 else some false)
 else some false)
 else some false)
 else some false)
 else some false)
 else some false)
 else none
noncomputable def p_law04_StreamNames : PFn := { args := [], res := [.bool], fn := law04_StreamNames }
theorem pd_law04_StreamNames : PureD Try.prog cfg 3 p_law04_StreamNames := fnD sp0 (l := [(9, p_stream_Xor), (10, p_stream_Of), (11, p_law04_alive)]) cfgOk rfl (.cons pd_stream_Xor (.cons pd_stream_Of (.cons pd_law04_alive .nil))) (fun d => by kernel_rfl)
end Go.Proofs.Ytohjdjdckklojaa
