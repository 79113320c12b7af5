/- The functions of the program, as functions on plain data. -/
import Derived.Test.YtjfiojmfcpeaoaaCfg
import Derived.Test.YtjfiojmfcpeaoaaM5
import Derived.ProofKit
import Derived.Test.YtjfiojmfcpeaoaaChachaS
namespace Go.Proofs.Ytjfiojmfcpeaoaa
open Go.Eng
set_option linter.unusedVariables false
set_option maxRecDepth 100000
def sp26 : List LSpec × List Nat := ([{ id := 2600, known := true, toks := [], items := [], junk := [], tails := [] }], [])
def sp17 : List LSpec × List Nat := ([{ id := 1700, known := true, toks := [], items := [], junk := [], tails := [] }], [])
def sp10 : List LSpec × List Nat := ([{ id := 1000, known := true, toks := [], items := [], junk := [], tails := [] }, { id := 1001, known := true, toks := [], items := [], junk := [], tails := [] }], [])
def sp19 : List LSpec × List Nat := ([{ id := 1900, known := true, toks := [], items := [], junk := [], tails := [] }, { id := 1901, known := true, toks := [], items := [], junk := [], tails := [] }], [])
def sp9 : List LSpec × List Nat := ([{ id := 900, known := true, toks := [], items := [.slot 18 (.val (.int .i64)), .vec 1000008 (.int .u32)], junk := [19, 20, 21, 22], tails := [] }, { id := 901, known := true, toks := [], items := [.slot 23 (.val (.int .i64)), .vec 1000009 (.int .u8)], junk := [24, 25, 10, 26, 27, 28, 29, 30, 31, 32, 11, 33, 34, 35, 12, 36, 37, 38, 39, 40, 41, 42, 43, 44, 45, 46, 47], tails := [] }, { id := 902, known := true, toks := [], items := [.slot 33 (.val (.int .i64)), .vec 1000009 (.int .u8)], junk := [34, 35, 12, 36, 37, 38, 39, 40, 41, 42, 43, 44, 45, 46], tails := [] }], [])
def sp20 : List LSpec × List Nat := ([{ id := 2000, known := true, toks := [], items := [.slot 9 (.val (.int .i64)), .vec 1000008 (.int .u32)], junk := [18, 19, 22, 23, 20, 21], tails := [] }, { id := 2001, known := true, toks := [], items := [.slot 11 (.val (.int .i64)), .vec 1000010 (.int .u8)], junk := [24, 25, 28, 29, 30, 31, 32, 33, 34, 35, 36, 12, 37, 38, 39, 40, 41, 42, 43, 44, 45, 26, 27], tails := [] }], [])
def sp7 : List LSpec × List Nat := ([{ id := 700, known := true, toks := [], items := [.slot 10 (.val (.int .i64)), .vec 1000009 (.int .u32)], junk := [20, 21, 24, 25, 22, 23], tails := [] }, { id := 701, known := true, toks := [], items := [.slot 12 (.val (.int .i64))], junk := [30, 31, 34, 35, 36, 37, 38, 39, 40, 41, 42, 43, 44, 45, 46, 47, 48, 49, 50, 51, 52, 53, 54, 55, 56, 57, 58, 59, 60, 61, 62, 13, 63, 64, 65, 66, 67, 68, 69, 70, 71, 6, 32, 33], tails := [] }], [])
def spt : Tab (List LSpec × List Nat) := (.node (.node (.node (.node .leaf (some sp7) .leaf) none (.node (.node .leaf (some sp19) .leaf) none .leaf)) none (.node (.node (.node .leaf (some sp17) .leaf) (some sp9) .leaf) none .leaf)) none (.node (.node .leaf none (.node (.node .leaf (some sp20) .leaf) none .leaf)) none (.node (.node .leaf (some sp10) (.node .leaf (some sp26) .leaf)) none .leaf)))
def spf (f : Nat) : List LSpec × List Nat := (spt.get f).getD ([], [])

/-- math/bits.RotateLeft32 -/
noncomputable def math_bits_RotateLeft32 (d0 : (Int) × (Int)) : Option (Int) :=
 Dat.bnd (Dat.wrap .u64 d0.2) fun (x1 : Int) =>
 Dat.bnd (Dat.band .u64 x1 31) fun (x2 : Int) =>
 if (Dat.Neg x2) then none
 else Dat.bnd (Dat.shl .u32 d0.1 x2) fun (x5 : Int) =>
 Dat.bnd (Dat.wrap .u64 (Dat.sub 32 x2)) fun (x6 : Int) =>
 if (Dat.Neg x6) then none
 else Dat.bnd (Dat.shr .u32 d0.1 x6) fun (x9 : Int) =>
 Dat.bnd (Dat.bor .u32 x5 x9) fun (x10 : Int) =>
 some x10
noncomputable def p_math_bits_RotateLeft32 : PFn := { args := [(.int .u32), (.int .i64)], res := [(.int .u32)], fn := math_bits_RotateLeft32 }
theorem pd_math_bits_RotateLeft32 : PureD Try.prog cfg 23 p_math_bits_RotateLeft32 := fnD spf (l := []) cfgOk rfl .nil (fun d => by kernel_rfl)

/-- thimblerig/thimblerigref03.rolled -/
noncomputable def ref03_rolled (d0 : (Int) × (Int)) : Option (Int) :=
 if (Dat.Neg d0.2) then none
 else Dat.bnd (Dat.shl .u32 d0.1 d0.2) fun (x3 : Int) =>
 Dat.bnd (Dat.wrap .u32 (Dat.sub 32 d0.2)) fun (x4 : Int) =>
 if (Dat.Neg x4) then none
 else Dat.bnd (Dat.shr .u32 d0.1 x4) fun (x7 : Int) =>
 Dat.bnd (Dat.bor .u32 x3 x7) fun (x8 : Int) =>
 some x8
noncomputable def p_ref03_rolled : PFn := { args := [(.int .u32), (.int .u32)], res := [(.int .u32)], fn := ref03_rolled }
theorem pd_ref03_rolled : PureD Try.prog cfg 24 p_ref03_rolled := fnD spf (l := []) cfgOk rfl .nil (fun d => by kernel_rfl)

/-- thimblerig/chacha.places -/
noncomputable def chacha_places (d0 : Unit) : Option (List (List (Int))) :=
 none
noncomputable def p_chacha_places : PFn := { args := [], res := [(.arr 8 (.arr 4 (.int .i64)))], fn := chacha_places }
theorem pd_chacha_places : PureD Try.prog cfg 27 p_chacha_places := fnD spf (l := []) cfgOk rfl .nil (fun d => by kernel_rfl)

/-- thimblerig/thimblerigref03.at -/
noncomputable def ref03_at (d0 : (List (Int)) × ((Int) × ((Int) × ((Int) × (Int))))) : Option (List (Int)) :=
 if (Dat.In d0.2.1 16) then if (Dat.Lt (Dat.toN d0.2.1) (Dat.len (Dat.norm 16 d0.1 0))) then Dat.bnd (Dat.get (Dat.norm 16 d0.1 0) (Dat.toN d0.2.1) 0) fun (x5 : Int) =>
 if (Dat.In d0.2.2.1 16) then if (Dat.Lt (Dat.toN d0.2.2.1) (Dat.len (Dat.norm 16 d0.1 0))) then Dat.bnd (Dat.get (Dat.norm 16 d0.1 0) (Dat.toN d0.2.2.1) 0) fun (x10 : Int) =>
 if (Dat.In d0.2.2.2.1 16) then if (Dat.Lt (Dat.toN d0.2.2.2.1) (Dat.len (Dat.norm 16 d0.1 0))) then Dat.bnd (Dat.get (Dat.norm 16 d0.1 0) (Dat.toN d0.2.2.2.1) 0) fun (x15 : Int) =>
 if (Dat.In d0.2.2.2.2 16) then if (Dat.Lt (Dat.toN d0.2.2.2.2) (Dat.len (Dat.norm 16 d0.1 0))) then Dat.bnd (Dat.get (Dat.norm 16 d0.1 0) (Dat.toN d0.2.2.2.2) 0) fun (x20 : Int) =>
 none
 else none
 else none
 else none
 else none
 else none
 else none
 else none
 else none
noncomputable def p_ref03_at : PFn := { args := [(.arr 16 (.int .u32)), (.int .i64), (.int .i64), (.int .i64), (.int .i64)], res := [(.arr 16 (.int .u32))], fn := ref03_at }
theorem pd_ref03_at : PureD Try.prog cfg 28 p_ref03_at := fnD spf (l := []) cfgOk rfl .nil (fun d => by kernel_rfl)

/-- thimblerig/thimbleriglaw03.ChachaTurns -/
noncomputable def law03_ChachaTurns (d0 : (List (Int)) × (List (Int))) : Option (Bool) :=
 if (Dat.EqN (Dat.len (Dat.norm 4 d0.1 0)) 4) then if (Dat.EqN (Dat.len (Dat.norm 4 d0.1 0)) 4) then Dat.bind (chacha_Quarter (Dat.norm 4 d0.1 0)) fun (x5 : List (Int)) =>
 Dat.bind (ref03_Quarter (Dat.norm 4 d0.1 0)) fun (x6 : List (Int)) =>
 (bif (Dat.lq 4 x5 x6) then if (Dat.EqN (Dat.len (Dat.norm 4 d0.1 0)) 4) then if (Dat.EqN (Dat.len (Dat.norm 4 d0.1 0)) 4) then Dat.bind (chacha_Undo (Dat.norm 4 d0.1 0)) fun (x11 : List (Int)) =>
 Dat.bind (ref03_Undo (Dat.norm 4 d0.1 0)) fun (x12 : List (Int)) =>
 (bif (Dat.pickB true (Dat.lq 4 x11 x12) false) then if (Dat.EqN (Dat.len (Dat.norm 16 d0.2 0)) 16) then if (Dat.EqN (Dat.len (Dat.norm 16 d0.2 0)) 16) then Dat.bind (chacha_Double (Dat.norm 16 d0.2 0)) fun (x17 : List (Int)) =>
 Dat.bind (ref03_Double (Dat.norm 16 d0.2 0)) fun (x18 : List (Int)) =>
 some (Dat.pickB true (Dat.lq 16 x17 x18) false)
 else none
 else none
 else some false)
 else none
 else none
 else some false)
 else none
 else none
noncomputable def p_law03_ChachaTurns : PFn := { args := [(.arr 4 (.int .u32)), (.arr 16 (.int .u32))], res := [.bool], fn := law03_ChachaTurns }
theorem pd_law03_ChachaTurns : PureD Try.prog cfg 4 p_law03_ChachaTurns := fnD spf (l := [(13, p_chacha_Quarter), (14, p_ref03_Quarter), (15, p_chacha_Undo), (16, p_ref03_Undo), (17, p_chacha_Double), (18, p_ref03_Double)]) cfgOk rfl (.cons pd_chacha_Quarter (.cons pd_ref03_Quarter (.cons pd_chacha_Undo (.cons pd_ref03_Undo (.cons pd_chacha_Double (.cons pd_ref03_Double .nil)))))) (fun d => by kernel_rfl)

/-- thimblerig/chacha.word -/
noncomputable def chacha_word (d0 : List (Int)) : Option (Int) :=
 if (Dat.Ix 0 (Dat.len d0)) then Dat.bnd (Dat.get d0 (Dat.toN 0) 0) fun (x3 : Int) =>
 Dat.bnd (Dat.wrap .u32 x3) fun (x4 : Int) =>
 if (Dat.Ix 1 (Dat.len d0)) then Dat.bnd (Dat.get d0 (Dat.toN 1) 0) fun (x7 : Int) =>
 Dat.bnd (Dat.wrap .u32 x7) fun (x8 : Int) =>
 if (Dat.Neg 8) then none
 else Dat.bnd (Dat.shl .u32 x8 8) fun (x11 : Int) =>
 Dat.bnd (Dat.bor .u32 x4 x11) fun (x12 : Int) =>
 if (Dat.Ix 2 (Dat.len d0)) then Dat.bnd (Dat.get d0 (Dat.toN 2) 0) fun (x15 : Int) =>
 Dat.bnd (Dat.wrap .u32 x15) fun (x16 : Int) =>
 if (Dat.Neg 16) then none
 else Dat.bnd (Dat.shl .u32 x16 16) fun (x19 : Int) =>
 Dat.bnd (Dat.bor .u32 x12 x19) fun (x20 : Int) =>
 if (Dat.Ix 3 (Dat.len d0)) then Dat.bnd (Dat.get d0 (Dat.toN 3) 0) fun (x23 : Int) =>
 Dat.bnd (Dat.wrap .u32 x23) fun (x24 : Int) =>
 if (Dat.Neg 24) then none
 else Dat.bnd (Dat.shl .u32 x24 24) fun (x27 : Int) =>
 Dat.bnd (Dat.bor .u32 x20 x27) fun (x28 : Int) =>
 some x28
 else none
 else none
 else none
 else none
noncomputable def p_chacha_word : PFn := { args := [(.list (.int .u8))], res := [(.int .u32)], fn := chacha_word }
theorem pd_chacha_word : PureD Try.prog cfg 21 p_chacha_word := fnD spf (l := []) cfgOk rfl .nil (fun d => by kernel_rfl)

/-- thimblerig/thimblerigref03.word -/
noncomputable def ref03_word (d0 : (Int) × ((Int) × ((Int) × (Int)))) : Option (Int) :=
 Dat.bnd (Dat.wrap .u32 d0.1) fun (x1 : Int) =>
 Dat.bnd (Dat.wrap .u32 d0.2.1) fun (x2 : Int) =>
 if (Dat.Neg 8) then none
 else Dat.bnd (Dat.shl .u32 x2 8) fun (x5 : Int) =>
 Dat.bnd (Dat.bor .u32 x1 x5) fun (x6 : Int) =>
 Dat.bnd (Dat.wrap .u32 d0.2.2.1) fun (x7 : Int) =>
 if (Dat.Neg 16) then none
 else Dat.bnd (Dat.shl .u32 x7 16) fun (x10 : Int) =>
 Dat.bnd (Dat.bor .u32 x6 x10) fun (x11 : Int) =>
 Dat.bnd (Dat.wrap .u32 d0.2.2.2) fun (x12 : Int) =>
 if (Dat.Neg 24) then none
 else Dat.bnd (Dat.shl .u32 x12 24) fun (x15 : Int) =>
 Dat.bnd (Dat.bor .u32 x11 x15) fun (x16 : Int) =>
 some x16
noncomputable def p_ref03_word : PFn := { args := [(.int .u8), (.int .u8), (.int .u8), (.int .u8)], res := [(.int .u32)], fn := ref03_word }
theorem pd_ref03_word : PureD Try.prog cfg 29 p_ref03_word := fnD spf (l := []) cfgOk rfl .nil (fun d => by kernel_rfl)

/-- thimblerig/chacha.Block -/
noncomputable def chacha_Block (d0 : (List (Int)) × ((Int) × (List (Int)))) : Option (List (Int)) :=
 if (Dat.EqN (Dat.len (Dat.norm 32 d0.1 0)) 32) then if (Dat.EqN (Dat.len (Dat.norm 12 d0.2.2 0)) 12) then Dat.bind (chacha_Words ((Dat.norm 32 d0.1 0), (d0.2.1, (Dat.norm 12 d0.2.2 0)))) fun (x5 : List (Int)) =>
 if (Dat.EqN (Dat.len (Dat.rep 16 0)) 16) then if (Dat.EqN (Dat.len (Dat.norm 16 x5 0)) 16) then if (Dat.EqN (Dat.len (Dat.rep 16 0)) 16) then Dat.loop (fun (s12 : (Int) × (List (Int))) k13 =>
 (bif (Dat.ilt s12.1 10) then if (Dat.EqN (Dat.len s12.2) 16) then Dat.bind (chacha_Double s12.2) fun (x16 : List (Int)) =>
 if (Dat.EqN (Dat.len s12.2) 16) then Dat.bnd (Dat.wrap .i64 (Dat.add s12.1 1)) fun (x19 : Int) =>
 k13 (x19, (Dat.norm 16 x16 0))
 else none
 else none
 else Dat.loop (fun (s20 : (Int) × (List (Int))) k21 =>
 (bif (Dat.ilt s20.1 16) then if (Dat.In s20.1 16) then if (Dat.Lt (Dat.toN s20.1) (Dat.len s12.2)) then Dat.bnd (Dat.get s12.2 (Dat.toN s20.1) 0) fun (x26 : Int) =>
 if (Dat.In s20.1 16) then if (Dat.Lt (Dat.toN s20.1) (Dat.len (Dat.norm 16 x5 0))) then Dat.bnd (Dat.get (Dat.norm 16 x5 0) (Dat.toN s20.1) 0) fun (x31 : Int) =>
 Dat.bnd (Dat.wrap .u32 (Dat.add x26 x31)) fun (x32 : Int) =>
 Dat.loop (fun (s33 : (Int) × (List (Int))) k34 =>
 (bif (Dat.ilt s33.1 4) then Dat.bnd (Dat.wrap .i64 (Dat.mul 4 s20.1)) fun (x35 : Int) =>
 Dat.bnd (Dat.wrap .i64 (Dat.add x35 s33.1)) fun (x36 : Int) =>
 Dat.bnd (Dat.wrap .i64 (Dat.mul 8 s33.1)) fun (x37 : Int) =>
 if (Dat.Neg x37) then none
 else Dat.bnd (Dat.shr .u32 x32 x37) fun (x40 : Int) =>
 Dat.bnd (Dat.wrap .u8 x40) fun (x41 : Int) =>
 if (Dat.In x36 64) then if (Dat.Lt (Dat.toN x36) (Dat.len s33.2)) then Dat.bnd (Dat.set s33.2 (Dat.toN x36) x41) fun (x46 : List (Int)) =>
 Dat.bnd (Dat.wrap .i64 (Dat.add s33.1 1)) fun (x47 : Int) =>
 k34 (x47, x46)
 else none
 else none
 else Dat.bnd (Dat.wrap .i64 (Dat.add s20.1 1)) fun (x48 : Int) =>
 k21 (x48, s33.2))) (0, s20.2)
 else none
 else none
 else none
 else none
 else if (Dat.EqN (Dat.len s20.2) 64) then if (Dat.EqN (Dat.len (Dat.rep 64 0)) 64) then if (Dat.EqN (Dat.len (Dat.norm 64 s20.2 0)) 64) then some (Dat.norm 64 s20.2 0)
 else none
 else none
 else none)) (0, (Dat.rep 64 0)))) (0, (Dat.norm 16 (Dat.norm 16 x5 0) 0))
 else none
 else none
 else none
 else none
 else none
noncomputable def p_chacha_Block : PFn := { args := [(.arr 32 (.int .u8)), (.int .u32), (.arr 12 (.int .u8))], res := [(.arr 64 (.int .u8))], fn := chacha_Block }
theorem pd_chacha_Block : PureD Try.prog cfg 9 p_chacha_Block := fnD spf (l := [(10, p_chacha_Words), (17, p_chacha_Double)]) cfgOk rfl (.cons pd_chacha_Words (.cons pd_chacha_Double .nil)) (fun d => by kernel_rfl)

/-- thimblerig/thimblerigref03.Block -/
noncomputable def ref03_Block (d0 : (List (Int)) × ((Int) × (List (Int)))) : Option (List (Int)) :=
 if (Dat.EqN (Dat.len (Dat.norm 32 d0.1 0)) 32) then if (Dat.EqN (Dat.len (Dat.norm 12 d0.2.2 0)) 12) then Dat.bind (ref03_Words ((Dat.norm 32 d0.1 0), (d0.2.1, (Dat.norm 12 d0.2.2 0)))) fun (x5 : List (Int)) =>
 if (Dat.EqN (Dat.len (Dat.rep 16 0)) 16) then if (Dat.EqN (Dat.len (Dat.norm 16 x5 0)) 16) then if (Dat.EqN (Dat.len (Dat.rep 16 0)) 16) then Dat.loop (fun (s12 : (Int) × (List (Int))) k13 =>
 (bif (Dat.ilt s12.1 10) then if (Dat.EqN (Dat.len s12.2) 16) then Dat.bind (ref03_Double s12.2) fun (x16 : List (Int)) =>
 if (Dat.EqN (Dat.len s12.2) 16) then Dat.bnd (Dat.wrap .i64 (Dat.add s12.1 1)) fun (x19 : Int) =>
 k13 (x19, (Dat.norm 16 x16 0))
 else none
 else none
 else Dat.loop (fun (s20 : (Int) × (List (Int))) k21 =>
 (bif (Dat.ilt s20.1 64) then if (Dat.IsZ 4) then none
 else Dat.bnd (Dat.wrap .i64 (Dat.tdiv s20.1 4)) fun (x24 : Int) =>
 if (Dat.In x24 16) then if (Dat.Lt (Dat.toN x24) (Dat.len s12.2)) then Dat.bnd (Dat.get s12.2 (Dat.toN x24) 0) fun (x29 : Int) =>
 if (Dat.IsZ 4) then none
 else Dat.bnd (Dat.wrap .i64 (Dat.tdiv s20.1 4)) fun (x32 : Int) =>
 if (Dat.In x32 16) then if (Dat.Lt (Dat.toN x32) (Dat.len (Dat.norm 16 x5 0))) then Dat.bnd (Dat.get (Dat.norm 16 x5 0) (Dat.toN x32) 0) fun (x37 : Int) =>
 Dat.bnd (Dat.wrap .u32 (Dat.add x29 x37)) fun (x38 : Int) =>
 if (Dat.IsZ 4) then none
 else Dat.bnd (Dat.tmod s20.1 4) fun (x41 : Int) =>
 Dat.bnd (Dat.wrap .i64 (Dat.mul 8 x41)) fun (x42 : Int) =>
 Dat.bnd (Dat.wrap .u64 x42) fun (x43 : Int) =>
 if (Dat.Neg x43) then none
 else Dat.bnd (Dat.shr .u32 x38 x43) fun (x46 : Int) =>
 Dat.bnd (Dat.wrap .u8 x46) fun (x47 : Int) =>
 if (Dat.In s20.1 64) then if (Dat.Lt (Dat.toN s20.1) (Dat.len s20.2)) then Dat.bnd (Dat.set s20.2 (Dat.toN s20.1) x47) fun (x52 : List (Int)) =>
 Dat.bnd (Dat.wrap .i64 (Dat.add s20.1 1)) fun (x53 : Int) =>
 k21 (x53, x52)
 else none
 else none
 else none
 else none
 else none
 else none
 else if (Dat.EqN (Dat.len s20.2) 64) then if (Dat.EqN (Dat.len (Dat.rep 64 0)) 64) then if (Dat.EqN (Dat.len (Dat.norm 64 s20.2 0)) 64) then some (Dat.norm 64 s20.2 0)
 else none
 else none
 else none)) (0, (Dat.rep 64 0)))) (0, (Dat.norm 16 (Dat.norm 16 x5 0) 0))
 else none
 else none
 else none
 else none
 else none
noncomputable def p_ref03_Block : PFn := { args := [(.arr 32 (.int .u8)), (.int .u32), (.arr 12 (.int .u8))], res := [(.arr 64 (.int .u8))], fn := ref03_Block }
theorem pd_ref03_Block : PureD Try.prog cfg 20 p_ref03_Block := fnD spf (l := [(19, p_ref03_Words), (18, p_ref03_Double)]) cfgOk rfl (.cons pd_ref03_Words (.cons pd_ref03_Double .nil)) (fun d => by kernel_rfl)

/-- thimblerig/thimbleriglaw03.ChachaBlocks -/
noncomputable def law03_ChachaBlocks (d0 : (List (Int)) × ((Int) × (List (Int)))) : Option (Bool) :=
 if (Dat.EqN (Dat.len (Dat.norm 32 d0.1 0)) 32) then if (Dat.EqN (Dat.len (Dat.norm 12 d0.2.2 0)) 12) then if (Dat.EqN (Dat.len (Dat.norm 32 d0.1 0)) 32) then if (Dat.EqN (Dat.len (Dat.norm 12 d0.2.2 0)) 12) then Dat.bind (chacha_Words ((Dat.norm 32 d0.1 0), (d0.2.1, (Dat.norm 12 d0.2.2 0)))) fun (x9 : List (Int)) =>
 Dat.bind (ref03_Words ((Dat.norm 32 d0.1 0), (d0.2.1, (Dat.norm 12 d0.2.2 0)))) fun (x10 : List (Int)) =>
 (bif (Dat.lq 16 x9 x10) then if (Dat.EqN (Dat.len (Dat.norm 32 d0.1 0)) 32) then if (Dat.EqN (Dat.len (Dat.norm 12 d0.2.2 0)) 12) then if (Dat.EqN (Dat.len (Dat.norm 32 d0.1 0)) 32) then if (Dat.EqN (Dat.len (Dat.norm 12 d0.2.2 0)) 12) then Dat.bind (chacha_Block ((Dat.norm 32 d0.1 0), (d0.2.1, (Dat.norm 12 d0.2.2 0)))) fun (x19 : List (Int)) =>
 Dat.bind (ref03_Block ((Dat.norm 32 d0.1 0), (d0.2.1, (Dat.norm 12 d0.2.2 0)))) fun (x20 : List (Int)) =>
 some (Dat.pickB true (Dat.lq 64 x19 x20) false)
 else none
 else none
 else none
 else none
 else some false)
 else none
 else none
 else none
 else none
noncomputable def p_law03_ChachaBlocks : PFn := { args := [(.arr 32 (.int .u8)), (.int .u32), (.arr 12 (.int .u8))], res := [.bool], fn := law03_ChachaBlocks }
theorem pd_law03_ChachaBlocks : PureD Try.prog cfg 5 p_law03_ChachaBlocks := fnD spf (l := [(10, p_chacha_Words), (19, p_ref03_Words), (9, p_chacha_Block), (20, p_ref03_Block)]) cfgOk rfl (.cons pd_chacha_Words (.cons pd_ref03_Words (.cons pd_chacha_Block (.cons pd_ref03_Block .nil)))) (fun d => by kernel_rfl)

/-- thimblerig/thimbleriglaw03.alive -/
noncomputable def law03_alive (d0 : Unit) : Option (Bool) := some true
noncomputable def p_law03_alive : PFn := { args := [], res := [.bool], fn := law03_alive }
theorem pd_law03_alive : PureD Try.prog cfg 11 p_law03_alive := closedD (n := 4000) cfgOk (by kernel_rfl)

/-- thimblerig/thimbleriglaw03.ChachaBack -/
noncomputable def law03_ChachaBack (d0 : List (Int)) : Option (Bool) :=
 Dat.bind (law03_alive ()) fun (x1 : Bool) =>
 (bif x1 then if (Dat.EqN (Dat.len (Dat.norm 4 d0 0)) 4) then if (Dat.EqN (Dat.len (Dat.norm 4 d0 0)) 4) then Dat.bind (chacha_Quarter (Dat.norm 4 d0 0)) fun (x6 : List (Int)) =>
 Dat.bind (chacha_Undo x6) fun (x7 : List (Int)) =>
 (bif (Dat.pickB true (Dat.lq 4 x7 (Dat.norm 4 d0 0)) false) then if (Dat.EqN (Dat.len (Dat.norm 4 d0 0)) 4) then if (Dat.EqN (Dat.len (Dat.norm 4 d0 0)) 4) then Dat.bind (chacha_Undo (Dat.norm 4 d0 0)) fun (x12 : List (Int)) =>
 Dat.bind (chacha_Quarter x12) fun (x13 : List (Int)) =>
 some (Dat.pickB true (Dat.lq 4 x13 (Dat.norm 4 d0 0)) false)
 else none
 else none
 else some false)
 else none
 else none
 else some false)
noncomputable def p_law03_ChachaBack : PFn := { args := [(.arr 4 (.int .u32))], res := [.bool], fn := law03_ChachaBack }
theorem pd_law03_ChachaBack : PureD Try.prog cfg 6 p_law03_ChachaBack := fnD spf (l := [(11, p_law03_alive), (13, p_chacha_Quarter), (15, p_chacha_Undo)]) cfgOk rfl (.cons pd_law03_alive (.cons pd_chacha_Quarter (.cons pd_chacha_Undo .nil))) (fun d => by kernel_rfl)

/-- thimblerig/thimbleriglaw03.ChachaTold -/
noncomputable def law03_ChachaTold (d0 : (List (Int)) × ((Int) × (List (Int)))) : Option (Bool) :=
 Dat.bind (law03_alive ()) fun (x1 : Bool) =>
 if (Dat.EqN (Dat.len (Dat.norm 32 d0.1 0)) 32) then if (Dat.EqN (Dat.len (Dat.norm 12 d0.2.2 0)) 12) then Dat.bind (chacha_Words ((Dat.norm 32 d0.1 0), (d0.2.1, (Dat.norm 12 d0.2.2 0)))) fun (x6 : List (Int)) =>
 if (Dat.EqN (Dat.len (Dat.rep 16 0)) 16) then if (Dat.EqN (Dat.len (Dat.norm 16 x6 0)) 16) then if (Dat.EqN (Dat.len (Dat.rep 16 0)) 16) then Dat.loop (fun (s13 : (Int) × (List (Int))) k14 =>
 (bif (Dat.ilt s13.1 10) then if (Dat.EqN (Dat.len s13.2) 16) then Dat.bind (chacha_Double s13.2) fun (x17 : List (Int)) =>
 if (Dat.EqN (Dat.len s13.2) 16) then Dat.bnd (Dat.wrap .i64 (Dat.add s13.1 1)) fun (x20 : Int) =>
 k14 (x20, (Dat.norm 16 x17 0))
 else none
 else none
 else if (Dat.EqN (Dat.len (Dat.norm 32 d0.1 0)) 32) then if (Dat.EqN (Dat.len (Dat.norm 12 d0.2.2 0)) 12) then Dat.bind (chacha_Block ((Dat.norm 32 d0.1 0), (d0.2.1, (Dat.norm 12 d0.2.2 0)))) fun (x25 : List (Int)) =>
 if (Dat.EqN (Dat.len (Dat.rep 64 0)) 64) then Dat.loop (fun (s28 : Int) k29 =>
 (bif (Dat.ilt s28 16) then Dat.bnd (Dat.wrap .i64 (Dat.mul 4 s28)) fun (x30 : Int) =>
 if (Dat.In x30 64) then if (Dat.Lt (Dat.toN x30) (Dat.len (Dat.norm 64 x25 0))) then Dat.bnd (Dat.get (Dat.norm 64 x25 0) (Dat.toN x30) 0) fun (x35 : Int) =>
 Dat.bnd (Dat.wrap .u32 x35) fun (x36 : Int) =>
 Dat.bnd (Dat.wrap .i64 (Dat.mul 4 s28)) fun (x37 : Int) =>
 Dat.bnd (Dat.wrap .i64 (Dat.add x37 1)) fun (x38 : Int) =>
 if (Dat.In x38 64) then if (Dat.Lt (Dat.toN x38) (Dat.len (Dat.norm 64 x25 0))) then Dat.bnd (Dat.get (Dat.norm 64 x25 0) (Dat.toN x38) 0) fun (x43 : Int) =>
 Dat.bnd (Dat.wrap .u32 x43) fun (x44 : Int) =>
 if (Dat.Neg 8) then none
 else Dat.bnd (Dat.shl .u32 x44 8) fun (x47 : Int) =>
 Dat.bnd (Dat.bor .u32 x36 x47) fun (x48 : Int) =>
 Dat.bnd (Dat.wrap .i64 (Dat.mul 4 s28)) fun (x49 : Int) =>
 Dat.bnd (Dat.wrap .i64 (Dat.add x49 2)) fun (x50 : Int) =>
 if (Dat.In x50 64) then if (Dat.Lt (Dat.toN x50) (Dat.len (Dat.norm 64 x25 0))) then Dat.bnd (Dat.get (Dat.norm 64 x25 0) (Dat.toN x50) 0) fun (x55 : Int) =>
 Dat.bnd (Dat.wrap .u32 x55) fun (x56 : Int) =>
 if (Dat.Neg 16) then none
 else Dat.bnd (Dat.shl .u32 x56 16) fun (x59 : Int) =>
 Dat.bnd (Dat.bor .u32 x48 x59) fun (x60 : Int) =>
 Dat.bnd (Dat.wrap .i64 (Dat.mul 4 s28)) fun (x61 : Int) =>
 Dat.bnd (Dat.wrap .i64 (Dat.add x61 3)) fun (x62 : Int) =>
 if (Dat.In x62 64) then if (Dat.Lt (Dat.toN x62) (Dat.len (Dat.norm 64 x25 0))) then Dat.bnd (Dat.get (Dat.norm 64 x25 0) (Dat.toN x62) 0) fun (x67 : Int) =>
 Dat.bnd (Dat.wrap .u32 x67) fun (x68 : Int) =>
 if (Dat.Neg 24) then none
 else Dat.bnd (Dat.shl .u32 x68 24) fun (x71 : Int) =>
 Dat.bnd (Dat.bor .u32 x60 x71) fun (x72 : Int) =>
 if (Dat.In s28 16) then if (Dat.Lt (Dat.toN s28) (Dat.len s13.2)) then Dat.bnd (Dat.get s13.2 (Dat.toN s28) 0) fun (x77 : Int) =>
 Dat.bnd (Dat.wrap .u32 (Dat.sub x72 x77)) fun (x78 : Int) =>
 if (Dat.In s28 16) then if (Dat.Lt (Dat.toN s28) (Dat.len (Dat.norm 16 x6 0))) then Dat.bnd (Dat.get (Dat.norm 16 x6 0) (Dat.toN s28) 0) fun (x83 : Int) =>
 (bif (Dat.ine x78 x83) then some false
 else Dat.bnd (Dat.wrap .i64 (Dat.add s28 1)) fun (x84 : Int) =>
 k29 x84)
 else none
 else none
 else none
 else none
 else none
 else none
 else none
 else none
 else none
 else none
 else none
 else none
 else (bif x1 then if (Dat.In 12 16) then if (Dat.Lt (Dat.toN 12) (Dat.len (Dat.norm 16 x6 0))) then Dat.bnd (Dat.get (Dat.norm 16 x6 0) (Dat.toN 12) 0) fun (x89 : Int) =>
 some (Dat.pickB true (Dat.ieq x89 d0.2.1) false)
 else none
 else none
 else some false))) 0
 else none
 else none
 else none)) (0, (Dat.norm 16 (Dat.norm 16 x6 0) 0))
 else none
 else none
 else none
 else none
 else none
noncomputable def p_law03_ChachaTold : PFn := { args := [(.arr 32 (.int .u8)), (.int .u32), (.arr 12 (.int .u8))], res := [.bool], fn := law03_ChachaTold }
theorem pd_law03_ChachaTold : PureD Try.prog cfg 7 p_law03_ChachaTold := fnD spf (l := [(11, p_law03_alive), (10, p_chacha_Words), (17, p_chacha_Double), (9, p_chacha_Block)]) cfgOk rfl (.cons pd_law03_alive (.cons pd_chacha_Words (.cons pd_chacha_Double (.cons pd_chacha_Block .nil)))) (fun d => by kernel_rfl)

/-- thimblerig/thimbleriglaw03.ChachaApart -/
noncomputable def law03_ChachaApart (d0 : (List (Int)) × ((Int) × ((List (Int)) × ((List (Int)) × ((Int) × (List (Int))))))) : Option (Bool) :=
 Dat.bind (law03_alive ()) fun (x1 : Bool) =>
 (bif x1 then if (Dat.EqN (Dat.len (Dat.norm 32 d0.1 0)) 32) then if (Dat.EqN (Dat.len (Dat.norm 12 d0.2.2.1 0)) 12) then if (Dat.EqN (Dat.len (Dat.norm 32 d0.2.2.2.1 0)) 32) then if (Dat.EqN (Dat.len (Dat.norm 12 d0.2.2.2.2.2 0)) 12) then if (Dat.EqN (Dat.len (Dat.norm 32 d0.1 0)) 32) then if (Dat.EqN (Dat.len (Dat.norm 32 d0.2.2.2.1 0)) 32) then Dat.bind (chacha_Words ((Dat.norm 32 d0.1 0), (d0.2.1, (Dat.norm 12 d0.2.2.1 0)))) fun (x14 : List (Int)) =>
 Dat.bind (chacha_Words ((Dat.norm 32 d0.2.2.2.1 0), (d0.2.2.2.2.1, (Dat.norm 12 d0.2.2.2.2.2 0)))) fun (x15 : List (Int)) =>
 (bif (Dat.lq 32 (Dat.norm 32 d0.1 0) (Dat.norm 32 d0.2.2.2.1 0)) then (bif (Dat.pickB true (Dat.ieq d0.2.1 d0.2.2.2.2.1) false) then if (Dat.EqN (Dat.len (Dat.norm 12 d0.2.2.1 0)) 12) then if (Dat.EqN (Dat.len (Dat.norm 12 d0.2.2.2.2.2 0)) 12) then some (Dat.pickB true (Dat.beq (Dat.lq 16 x14 x15) (Dat.pickB true (Dat.lq 12 (Dat.norm 12 d0.2.2.1 0) (Dat.norm 12 d0.2.2.2.2.2 0)) false)) false)
 else none
 else none
 else some (Dat.pickB true (Dat.beq (Dat.lq 16 x14 x15) false) false))
 else some (Dat.pickB true (Dat.beq (Dat.lq 16 x14 x15) false) false))
 else none
 else none
 else none
 else none
 else none
 else none
 else some false)
noncomputable def p_law03_ChachaApart : PFn := { args := [(.arr 32 (.int .u8)), (.int .u32), (.arr 12 (.int .u8)), (.arr 32 (.int .u8)), (.int .u32), (.arr 12 (.int .u8))], res := [.bool], fn := law03_ChachaApart }
theorem pd_law03_ChachaApart : PureD Try.prog cfg 8 p_law03_ChachaApart := fnD spf (l := [(11, p_law03_alive), (10, p_chacha_Words)]) cfgOk rfl (.cons pd_law03_alive (.cons pd_chacha_Words .nil)) (fun d => by kernel_rfl)
end Go.Proofs.Ytjfiojmfcpeaoaa
