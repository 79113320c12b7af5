/- Quarter rounds, double rounds, first words and blocks, by way of data that isn't known. -/
import Derived.Test.YtohjdjdckklojaaCfg
import Derived.Test.YtohjdjdckklojaaM5
import Derived.Test.YtohjdjdckklojaaM5
import Derived.ProofKit
namespace Go.Proofs.Ytohjdjdckklojaa
open Go.Eng
set_option linter.unusedVariables false
set_option maxRecDepth 100000

noncomputable def rot (x n : Int) : Int := Dat.bor .u32 (Dat.shl .u32 x n) (Dat.shr .u32 x (32 - n))
noncomputable def qr (a b c d : Int) : List Int :=
  let a1 := Dat.wrap .u32 (Dat.add a b)
  let d1 := rot (Dat.bxor .u32 d a1) 16
  let c1 := Dat.wrap .u32 (Dat.add c d1)
  let b1 := rot (Dat.bxor .u32 b c1) 12
  let a2 := Dat.wrap .u32 (Dat.add a1 b1)
  let d2 := rot (Dat.bxor .u32 d1 a2) 8
  let c2 := Dat.wrap .u32 (Dat.add c1 d2)
  let b2 := rot (Dat.bxor .u32 b1 c2) 7
  [a2, b2, c2, d2]
noncomputable def un (a b c d : Int) : List Int :=
  let b1 := Dat.bxor .u32 (rot b 25) c
  let c1 := Dat.wrap .u32 (Dat.sub c d)
  let d1 := Dat.bxor .u32 (rot d 24) a
  let a1 := Dat.wrap .u32 (Dat.sub a b1)
  let b2 := Dat.bxor .u32 (rot b1 20) c1
  let c2 := Dat.wrap .u32 (Dat.sub c1 d1)
  let d2 := Dat.bxor .u32 (rot d1 16) a1
  let a2 := Dat.wrap .u32 (Dat.sub a1 b2)
  [a2, b2, c2, d2]
noncomputable def onFour (f : Int → Int → Int → Int → List Int) (d : List Int) : List Int := f (d.getD 0 0) (d.getD 1 0) (d.getD 2 0) (d.getD 3 0)

noncomputable def q4 (d : List Int) : List Int := onFour qr d
noncomputable def u4 (d : List Int) : List Int := onFour un d

noncomputable def rl (d : Int × Int) : Option Int :=
  if Dat.Neg (Dat.band .u64 (Dat.wrap .u64 d.2) 31) then none else
  if Dat.Neg (Dat.wrap .u64 (Dat.sub 32 (Dat.band .u64 (Dat.wrap .u64 d.2) 31))) then none else
  some (Dat.bor .u32 (Dat.shl .u32 d.1 (Dat.band .u64 (Dat.wrap .u64 d.2) 31)) (Dat.shr .u32 d.1 (Dat.wrap .u64 (Dat.sub 32 (Dat.band .u64 (Dat.wrap .u64 d.2) 31)))))
noncomputable def p_rl : PFn := { args := [(.int .u32), (.int .i64)], res := [(.int .u32)], fn := rl }
theorem pd_rl : PureD Try.prog cfg 43 p_rl := fnD (fun _ => ([], [])) (l := []) cfgOk rfl .nil (fun d => by kernel_rfl)
noncomputable def chacha_Quarter (d : List Int) : Option (List Int) := some (q4 d)
noncomputable def p_chacha_Quarter : PFn := { args := [(.arr 4 (.int .u32))], res := [(.arr 4 (.int .u32))], fn := chacha_Quarter }
theorem pd_chacha_Quarter : PureD Try.prog cfg 40 p_chacha_Quarter := symD (l := [(43, p_rl)]) (n := 400) (ts := [76]) (g := q4) cfgOk (.cons pd_rl .nil) rfl (fun d => rfl) (fun d => by kernel_rfl)
noncomputable def ref03_Quarter (d : List Int) : Option (List Int) := some (q4 d)
noncomputable def p_ref03_Quarter : PFn := { args := [(.arr 4 (.int .u32))], res := [(.arr 4 (.int .u32))], fn := ref03_Quarter }
theorem pd_ref03_Quarter : PureD Try.prog cfg 41 p_ref03_Quarter := symD (l := []) (n := 400) (ts := [76]) (g := q4) cfgOk .nil rfl (fun d => rfl) (fun d => by kernel_rfl)
noncomputable def chacha_Undo (d : List Int) : Option (List Int) := some (u4 d)
noncomputable def p_chacha_Undo : PFn := { args := [(.arr 4 (.int .u32))], res := [(.arr 4 (.int .u32))], fn := chacha_Undo }
noncomputable def ref03_Undo (d : List Int) : Option (List Int) := some (u4 d)
noncomputable def p_ref03_Undo : PFn := { args := [(.arr 4 (.int .u32))], res := [(.arr 4 (.int .u32))], fn := ref03_Undo }
/-- A double round. -/
noncomputable def dbl (w : List Int) : List Int :=
  let z0 := q4 [(w.getD 0 0), (w.getD 4 0), (w.getD 8 0), (w.getD 12 0)]
  let z1 := q4 [(w.getD 1 0), (w.getD 5 0), (w.getD 9 0), (w.getD 13 0)]
  let z2 := q4 [(w.getD 2 0), (w.getD 6 0), (w.getD 10 0), (w.getD 14 0)]
  let z3 := q4 [(w.getD 3 0), (w.getD 7 0), (w.getD 11 0), (w.getD 15 0)]
  let z4 := q4 [(z0.getD 0 0), (z1.getD 1 0), (z2.getD 2 0), (z3.getD 3 0)]
  let z5 := q4 [(z1.getD 0 0), (z2.getD 1 0), (z3.getD 2 0), (z0.getD 3 0)]
  let z6 := q4 [(z2.getD 0 0), (z3.getD 1 0), (z0.getD 2 0), (z1.getD 3 0)]
  let z7 := q4 [(z3.getD 0 0), (z0.getD 1 0), (z1.getD 2 0), (z2.getD 3 0)]
  [(z4.getD 0 0), (z5.getD 0 0), (z6.getD 0 0), (z7.getD 0 0), (z7.getD 1 0), (z4.getD 1 0), (z5.getD 1 0), (z6.getD 1 0), (z6.getD 2 0), (z7.getD 2 0), (z4.getD 2 0), (z5.getD 2 0), (z5.getD 3 0), (z6.getD 3 0), (z7.getD 3 0), (z4.getD 3 0)]
noncomputable def chacha_Double (d : List Int) : Option (List Int) := some (dbl d)
noncomputable def p_chacha_Double : PFn := { args := [(.arr 16 (.int .u32))], res := [(.arr 16 (.int .u32))], fn := chacha_Double }
theorem pd_chacha_Double : PureD Try.prog cfg 31 p_chacha_Double := symD (l := [(40, p_chacha_Quarter)]) (n := 2000) (ts := [61]) (g := dbl) cfgOk (.cons pd_chacha_Quarter .nil) rfl (fun d => rfl) (fun d => by kernel_rfl)
noncomputable def ref03_Double (d : List Int) : Option (List Int) := some (dbl d)
noncomputable def p_ref03_Double : PFn := { args := [(.arr 16 (.int .u32))], res := [(.arr 16 (.int .u32))], fn := ref03_Double }
theorem pd_ref03_Double : PureD Try.prog cfg 33 p_ref03_Double := symD (l := [(41, p_ref03_Quarter)]) (n := 2000) (ts := [61]) (g := dbl) cfgOk (.cons pd_ref03_Quarter .nil) rfl (fun d => rfl) (fun d => by kernel_rfl)

/-- Four bytes, the lowest first. -/
noncomputable def wd (a b c d : Int) : Int := Dat.bor .u32 (Dat.bor .u32 (Dat.bor .u32 (Dat.wrap .u32 a) (Dat.shl .u32 (Dat.wrap .u32 b) 8)) (Dat.shl .u32 (Dat.wrap .u32 c) 16)) (Dat.shl .u32 (Dat.wrap .u32 d) 24)
noncomputable def wds (d : List Int × (Int × List Int)) : List Int :=
  [0x61707865, 0x3320646e, 0x79622d32, 0x6b206574, (wd (d.1.getD 0 0) (d.1.getD 1 0) (d.1.getD 2 0) (d.1.getD 3 0)), (wd (d.1.getD 4 0) (d.1.getD 5 0) (d.1.getD 6 0) (d.1.getD 7 0)), (wd (d.1.getD 8 0) (d.1.getD 9 0) (d.1.getD 10 0) (d.1.getD 11 0)), (wd (d.1.getD 12 0) (d.1.getD 13 0) (d.1.getD 14 0) (d.1.getD 15 0)), (wd (d.1.getD 16 0) (d.1.getD 17 0) (d.1.getD 18 0) (d.1.getD 19 0)), (wd (d.1.getD 20 0) (d.1.getD 21 0) (d.1.getD 22 0) (d.1.getD 23 0)), (wd (d.1.getD 24 0) (d.1.getD 25 0) (d.1.getD 26 0) (d.1.getD 27 0)), (wd (d.1.getD 28 0) (d.1.getD 29 0) (d.1.getD 30 0) (d.1.getD 31 0)), d.2.1, (wd (d.2.2.getD 0 0) (d.2.2.getD 1 0) (d.2.2.getD 2 0) (d.2.2.getD 3 0)), (wd (d.2.2.getD 4 0) (d.2.2.getD 5 0) (d.2.2.getD 6 0) (d.2.2.getD 7 0)), (wd (d.2.2.getD 8 0) (d.2.2.getD 9 0) (d.2.2.getD 10 0) (d.2.2.getD 11 0))]
noncomputable def chacha_Words (d : List Int × (Int × List Int)) : Option (List Int) := some (wds d)
noncomputable def p_chacha_Words : PFn := { args := [(.arr 32 (.int .u8)), (.int .u32), (.arr 12 (.int .u8))], res := [(.arr 16 (.int .u32))], fn := chacha_Words }
theorem pd_chacha_Words : PureD Try.prog cfg 30 p_chacha_Words := symD (l := []) (n := 2000) (ts := [61]) (g := wds) cfgOk .nil rfl (fun d => rfl) (fun d => by kernel_rfl)
noncomputable def ref03_Words (d : List Int × (Int × List Int)) : Option (List Int) := some (wds d)
noncomputable def p_ref03_Words : PFn := { args := [(.arr 32 (.int .u8)), (.int .u32), (.arr 12 (.int .u8))], res := [(.arr 16 (.int .u32))], fn := ref03_Words }
theorem pd_ref03_Words : PureD Try.prog cfg 32 p_ref03_Words := symD (l := []) (n := 2000) (ts := [61]) (g := wds) cfgOk .nil rfl (fun d => rfl) (fun d => by kernel_rfl)

end Go.Proofs.Ytohjdjdckklojaa
