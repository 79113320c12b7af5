/- The functions of the program, as functions on plain data. -/
import Derived.Test.YtampmlalpifkoaaCfg
import Derived.Test.YtampmlalpifkoaaM6
import Derived.ProofKit
import Derived.Test.YtampmlalpifkoaaM6
namespace Go.Proofs.Ytampmlalpifkoaa
open Go.Eng
noncomputable section
set_option linter.unusedVariables false
set_option maxRecDepth 100000
theorem ov48 : xZ0 Try.prog 48:=ovFact (fn:=Try.prog.funcs[48]!) (tS:=22) (tR:=4) (e:=33) (size:=3) (by kernel_rfl) (by kernel_rfl) (by kernel_rfl) (by kernel_rfl) (by kernel_rfl) (by kernel_rfl) (fun w=>by kernel_rfl)
def sp0 (f : Nat) : List LSpec×List Nat:=([],[])
def zW6 (d0 : Unit) : Option ((Int)×((Int)×((Int)×((Int)×(Unit))))) :=
 some (8,(1,(3,(73,()))))
def zJ4 : PFn:={ args:=[],res:=[(.pair (.int .i64) (.pair (.int .i64) (.pair (.int .i64) (.pair (.int .i64) .unit))))],fn:=zW6 }
def sp8_22 : List LSpec×List Nat:=([{ id:=2200,known:=true,toks:=[],items:=[.slot 3 (.sref 1000003 true (.pair (.int .i64) (.pair (.int .i64) (.pair (.list (.int .u8)) .unit)))), .vec 1000003 (.pair (.int .i64) (.pair (.int .i64) (.pair (.list (.int .u8)) .unit))), .slot 11 (.val (.int .i64))],junk:=[12,13,14,5,15,16,17,18,19,20],tails:=[] }],[1000000005])
def sp8_30 : List LSpec×List Nat:=([],[1000000005])
def sp8_32 : List LSpec×List Nat:=([],[2000000007,2000000009])
def spt8 : Tab (List LSpec×List Nat):=(.node .leaf none (.node (.node (.node (.node (.node .leaf (some sp8_32) .leaf) none .leaf) none .leaf) none .leaf) none (.node .leaf none (.node (.node .leaf (some sp8_22) .leaf) none (.node .leaf (some sp8_30) .leaf)))))
def spf8 (f : Nat) : List LSpec×List Nat:=(spt8.get f).getD ([],[])
theorem yQ4 : zZt Try.prog cfg 8 zJ4:=fnD spf8 (l:=[]) zK3 zW7 .nil (fun d=>by kernel_rfl)
def zWo (d0 : (Int)×(Int)) : Option ((Int)×((Int)×((List (Int))×(Unit)))) :=
 if (Z.Le (Z.addN 0 1) (Z.len (d0.2::([] : List (Int))))) then some (d0.1,(0,((Z.seg (d0.2::([] : List (Int))) 0 1),())))
 else none
def zJ3 : PFn:={ args:=[(.int .i64),(.int .u8)],res:=[(.pair (.int .i64) (.pair (.int .i64) (.pair (.list (.int .u8)) .unit)))],fn:=zWo }
def vWl : List LSpec×List Nat:=([{ id:=2200,known:=true,toks:=[],items:=[.slot 3 (.sref 1000003 true (.pair (.int .i64) (.pair (.int .i64) (.pair (.list (.int .u8)) .unit)))), .vec 1000003 (.pair (.int .i64) (.pair (.int .i64) (.pair (.list (.int .u8)) .unit))), .slot 11 (.val (.int .i64))],junk:=[12,13,14,5,15,16,17,18,19,20],tails:=[] }],[1000000005])
def vWk : List LSpec×List Nat:=([],[1000000005])
def vWj : List LSpec×List Nat:=([],[2000000007,2000000009])
def spt11 : Tab (List LSpec×List Nat):=(.node .leaf none (.node (.node (.node (.node (.node .leaf (some vWj) .leaf) none .leaf) none .leaf) none .leaf) none (.node .leaf none (.node (.node .leaf (some vWl) .leaf) none (.node .leaf (some vWk) .leaf)))))
def spf11 (f : Nat) : List LSpec×List Nat:=(spt11.get f).getD ([],[])
theorem zYp : zZt Try.prog cfg 11 zJ3:=fnD spf11 (l:=[]) zK3 zW7 .nil (fun d=>by kernel_rfl)
def zZ7 (d0 : Unit) : Option (List ((Int)×((Int)×((List (Int))×(Unit))))) :=
 Z.bind (zWo (2,1)) fun (x1 : (Int)×((Int)×((List (Int))×(Unit)))) =>
 Z.bind (zWo (5,1)) fun (x2 : (Int)×((Int)×((List (Int))×(Unit)))) =>
 if (Z.Le (Z.addN 0 2) (Z.len ((x1.1,(x1.2.1,(x1.2.2.1,())))::((x2.1,(x2.2.1,(x2.2.2.1,())))::([] : List ((Int)×((Int)×((List (Int))×(Unit))))))))) then some (Z.seg ((x1.1,(x1.2.1,(x1.2.2.1,())))::((x2.1,(x2.2.1,(x2.2.2.1,())))::([] : List ((Int)×((Int)×((List (Int))×(Unit))))))) 0 2)
 else none
def yWe : PFn:={ args:=[],res:=[(.list (.pair (.int .i64) (.pair (.int .i64) (.pair (.list (.int .u8)) .unit))))],fn:=zZ7 }
def sp9_22 : List LSpec×List Nat:=([{ id:=2200,known:=true,toks:=[],items:=[.slot 3 (.sref 1000003 true (.pair (.int .i64) (.pair (.int .i64) (.pair (.list (.int .u8)) .unit)))), .vec 1000003 (.pair (.int .i64) (.pair (.int .i64) (.pair (.list (.int .u8)) .unit))), .slot 11 (.val (.int .i64))],junk:=[12,13,14,5,15,16,17,18,19,20],tails:=[] }],[1000000005])
def sp9_30 : List LSpec×List Nat:=([],[1000000005])
def sp9_32 : List LSpec×List Nat:=([],[2000000007,2000000009])
def spt9 : Tab (List LSpec×List Nat):=(.node .leaf none (.node (.node (.node (.node (.node .leaf (some sp9_32) .leaf) none .leaf) none .leaf) none .leaf) none (.node .leaf none (.node (.node .leaf (some sp9_22) .leaf) none (.node .leaf (some sp9_30) .leaf)))))
def spf9 (f : Nat) : List LSpec×List Nat:=(spt9.get f).getD ([],[])
theorem yZg : zZt Try.prog cfg 9 yWe:=fnD spf9 (l:=[(11,zJ3)]) zK3 zW7 (.cons zYp .nil) (fun d=>by kernel_rfl)
def yW1 (d0 : Int) : Option (Int) :=
 (bif (Z.ilt d0 1) then some 2
 else (bif (Z.zWj false true (Z.igt d0 6)) then some 2
 else some 0))
def yKz : PFn:={ args:=[(.int .i64)],res:=[(.int .i64)],fn:=yW1 }
def vQe : List LSpec×List Nat:=([{ id:=2200,known:=true,toks:=[],items:=[.slot 3 (.sref 1000003 true (.pair (.int .i64) (.pair (.int .i64) (.pair (.list (.int .u8)) .unit)))), .vec 1000003 (.pair (.int .i64) (.pair (.int .i64) (.pair (.list (.int .u8)) .unit))), .slot 11 (.val (.int .i64))],junk:=[12,13,14,5,15,16,17,18,19,20],tails:=[] }],[1000000005])
def vQd : List LSpec×List Nat:=([],[1000000005])
def vQc : List LSpec×List Nat:=([],[2000000007,2000000009])
def spt55 : Tab (List LSpec×List Nat):=(.node .leaf none (.node (.node (.node (.node (.node .leaf (some vQc) .leaf) none .leaf) none .leaf) none .leaf) none (.node .leaf none (.node (.node .leaf (some vQe) .leaf) none (.node .leaf (some vQd) .leaf)))))
def spf55 (f : Nat) : List LSpec×List Nat:=(spt55.get f).getD ([],[])
theorem xX0 : zZt Try.prog cfg 55 yKz:=fnD spf55 (l:=[]) zK3 zW7 .nil (fun d=>by kernel_rfl)
def zJs (d0 : Int) : Option ((Int)×(Int)) :=
 Z.bind (yW1 d0) fun (x1 : Int) =>
 (bif (Z.ine x1 0) then some (0,x1)
 else if (Z.Neg d0) then none
 else Z.bnd (Z.shl .i64 1 d0) fun (x4 : Int) =>
 some (x4,0))
def zYs : PFn:={ args:=[(.int .i64)],res:=[(.int .i64),(.int .i64)],fn:=zJs }
def vQk : List LSpec×List Nat:=([{ id:=2200,known:=true,toks:=[],items:=[.slot 3 (.sref 1000003 true (.pair (.int .i64) (.pair (.int .i64) (.pair (.list (.int .u8)) .unit)))), .vec 1000003 (.pair (.int .i64) (.pair (.int .i64) (.pair (.list (.int .u8)) .unit))), .slot 11 (.val (.int .i64))],junk:=[12,13,14,5,15,16,17,18,19,20],tails:=[] }],[1000000005])
def vQj : List LSpec×List Nat:=([],[1000000005])
def vQi : List LSpec×List Nat:=([],[2000000007,2000000009])
def spt47 : Tab (List LSpec×List Nat):=(.node .leaf none (.node (.node (.node (.node (.node .leaf (some vQi) .leaf) none .leaf) none .leaf) none .leaf) none (.node .leaf none (.node (.node .leaf (some vQk) .leaf) none (.node .leaf (some vQj) .leaf)))))
def spf47 (f : Nat) : List LSpec×List Nat:=(spt47.get f).getD ([],[])
theorem yWw : zZt Try.prog cfg 47 zYs:=fnD spf47 (l:=[(55,yKz)]) zK3 zW7 (.cons xX0 .nil) (fun d=>by kernel_rfl)
def yWt (d0 : (Int)×((Int)×((Int)×((Int)×(Unit))))) : Option (Int) :=
 Z.bnd (Z.wrap .i64 (Z.add 8 d0.2.1)) fun (x1 : Int) =>
 some x1
def yKy : PFn:={ args:=[(.pair (.int .i64) (.pair (.int .i64) (.pair (.int .i64) (.pair (.int .i64) .unit))))],res:=[(.int .i64)],fn:=yWt }
def vQh : List LSpec×List Nat:=([{ id:=2200,known:=true,toks:=[],items:=[.slot 3 (.sref 1000003 true (.pair (.int .i64) (.pair (.int .i64) (.pair (.list (.int .u8)) .unit)))), .vec 1000003 (.pair (.int .i64) (.pair (.int .i64) (.pair (.list (.int .u8)) .unit))), .slot 11 (.val (.int .i64))],junk:=[12,13,14,5,15,16,17,18,19,20],tails:=[] }],[1000000005])
def vQg : List LSpec×List Nat:=([],[1000000005])
def vQf : List LSpec×List Nat:=([],[2000000007,2000000009])
def spt51 : Tab (List LSpec×List Nat):=(.node .leaf none (.node (.node (.node (.node (.node .leaf (some vQf) .leaf) none .leaf) none .leaf) none .leaf) none (.node .leaf none (.node (.node .leaf (some vQh) .leaf) none (.node .leaf (some vQg) .leaf)))))
def spf51 (f : Nat) : List LSpec×List Nat:=(spt51.get f).getD ([],[])
theorem xXz : zZt Try.prog cfg 51 yKy:=fnD spf51 (l:=[]) zK3 zW7 .nil (fun d=>by kernel_rfl)
def zJl (d0 : (Int)×((Int)×((Int)×((Int)×(Unit))))) : Option ((Int)×(Int)) :=
 (bif (Z.ilt d0.1 1) then some (0,8)
 else (bif (Z.zWj false true (Z.igt d0.1 64)) then some (0,8)
 else (bif (Z.zWj false true (Z.ilt d0.2.1 1)) then some (0,8)
 else (bif (Z.zWj false true (Z.igt d0.2.1 32)) then some (0,8)
 else Z.bind (zJs d0.2.2.1) fun (x1 : (Int)×(Int)) =>
 (bif (Z.ine x1.2 0) then some (0,8)
 else (bif (Z.zWj false true (Z.ilt x1.1 d0.1)) then some (0,8)
 else Z.loop (fun (s2 : Int) k3 =>
 (bif (Z.ile s2 4) then Z.bind (yWt (d0.1,(d0.2.1,(d0.2.2.1,(d0.2.2.2.1,()))))) fun (x4 : Int) =>
 Z.bnd (Z.wrap .i64 (Z.mul s2 x4)) fun (x5 : Int) =>
 Z.bnd (Z.wrap .i64 (Z.add x5 64)) fun (x6 : Int) =>
 (bif (Z.ieq d0.2.2.2.1 x6) then some (s2,0)
 else Z.bnd (Z.wrap .i64 (Z.add s2 1)) fun (x7 : Int) =>
 k3 x7)
 else some (0,8))) 1))))))
def zYq : PFn:={ args:=[(.pair (.int .i64) (.pair (.int .i64) (.pair (.int .i64) (.pair (.int .i64) .unit))))],res:=[(.int .i64),(.int .i64)],fn:=zJl }
def vQr : List LSpec×List Nat:=([{ id:=3400,known:=true,toks:=[],items:=[.slot 6 (.val (.int .i64))],junk:=[39,40,43,44,45,46,47,48,49,50,51,2,3,41,42],tails:=[] }],[])
def vQu : List LSpec×List Nat:=([{ id:=2200,known:=true,toks:=[],items:=[.slot 3 (.sref 1000003 true (.pair (.int .i64) (.pair (.int .i64) (.pair (.list (.int .u8)) .unit)))), .vec 1000003 (.pair (.int .i64) (.pair (.int .i64) (.pair (.list (.int .u8)) .unit))), .slot 11 (.val (.int .i64))],junk:=[12,13,14,5,15,16,17,18,19,20],tails:=[] }],[1000000005])
def vQt : List LSpec×List Nat:=([],[1000000005])
def vQs : List LSpec×List Nat:=([],[2000000007,2000000009])
def spt34 : Tab (List LSpec×List Nat):=(.node .leaf none (.node (.node (.node (.node (.node .leaf (some vQs) .leaf) none .leaf) none .leaf) none .leaf) none (.node (.node (.node (.node .leaf (some vQr) .leaf) none .leaf) none .leaf) none (.node (.node .leaf (some vQu) .leaf) none (.node .leaf (some vQt) .leaf)))))
def spf34 (f : Nat) : List LSpec×List Nat:=(spt34.get f).getD ([],[])
theorem yWv : zZt Try.prog cfg 34 zYq:=fnD spf34 (l:=[(47,zYs),(51,yKy)]) zK3 zW7 (.cons yWw (.cons xXz .nil)) (fun d=>by kernel_rfl)
def zZd (d0 : ((Int)×((Int)×((Int)×((Int)×(Unit)))))×((Int)×((Int)×((List (Int))×(Unit))))) : Option (Int) :=
 Z.bind (zJl (d0.1.1,(d0.1.2.1,(d0.1.2.2.1,(d0.1.2.2.2.1,()))))) fun (x1 : (Int)×(Int)) =>
 (bif (Z.ine x1.2 0) then some x1.2
 else Z.bind (zJs d0.1.2.2.1) fun (x2 : (Int)×(Int)) =>
 (bif (Z.ilt d0.2.1 0) then some 8
 else (bif (Z.zWj false true (Z.ige d0.2.1 d0.1.1)) then some 8
 else (bif (Z.zWj false true (Z.ilt d0.2.2.1 0)) then some 8
 else (bif (Z.zWj false true (Z.ige d0.2.2.1 x2.1)) then some 8
 else (bif (Z.zWj false true (Z.ine (Z.ofN (Z.len d0.2.2.2.1)) d0.1.2.1)) then some 8
 else some 0))))))
def zK7 : PFn:={ args:=[(.pair (.int .i64) (.pair (.int .i64) (.pair (.int .i64) (.pair (.int .i64) .unit)))),(.pair (.int .i64) (.pair (.int .i64) (.pair (.list (.int .u8)) .unit)))],res:=[(.int .i64)],fn:=zZd }
def vQ0 : List LSpec×List Nat:=([{ id:=2200,known:=true,toks:=[],items:=[.slot 3 (.sref 1000003 true (.pair (.int .i64) (.pair (.int .i64) (.pair (.list (.int .u8)) .unit)))), .vec 1000003 (.pair (.int .i64) (.pair (.int .i64) (.pair (.list (.int .u8)) .unit))), .slot 11 (.val (.int .i64))],junk:=[12,13,14,5,15,16,17,18,19,20],tails:=[] }],[1000000005])
def vQz : List LSpec×List Nat:=([],[1000000005])
def vQy : List LSpec×List Nat:=([],[2000000007,2000000009])
def spt31 : Tab (List LSpec×List Nat):=(.node .leaf none (.node (.node (.node (.node (.node .leaf (some vQy) .leaf) none .leaf) none .leaf) none .leaf) none (.node .leaf none (.node (.node .leaf (some vQ0) .leaf) none (.node .leaf (some vQz) .leaf)))))
def spf31 (f : Nat) : List LSpec×List Nat:=(spt31.get f).getD ([],[])
theorem zJ1 : zZt Try.prog cfg 31 zK7:=fnD spf31 (l:=[(34,zYq),(47,zYs)]) zK3 zW7 (.cons yWv (.cons yWw .nil)) (fun d=>by kernel_rfl)
def zXf (d0 : ((Int)×((Int)×((Int)×((Int)×(Unit)))))×(List ((Int)×((Int)×((List (Int))×(Unit)))))) : Option (Int) :=
 Z.bind (zJl (d0.1.1,(d0.1.2.1,(d0.1.2.2.1,(d0.1.2.2.2.1,()))))) fun (x1 : (Int)×(Int)) =>
 (bif (Z.ine x1.2 0) then some x1.2
 else Z.loop (fun (s2 : Int) k3 =>
 (bif (Z.ilt s2 (Z.ofN (Z.len d0.2))) then if (Z.Ix s2 (Z.len d0.2)) then Z.bnd (Z.get d0.2 (Z.toN s2) (0,(0,(([] : List (Int)),())))) fun (x6 : (Int)×((Int)×((List (Int))×(Unit)))) =>
 Z.bind (zZd ((d0.1.1,(d0.1.2.1,(d0.1.2.2.1,(d0.1.2.2.2.1,())))),(x6.1,(x6.2.1,(x6.2.2.1,()))))) fun (x7 : Int) =>
 (bif (Z.ine x7 0) then some 8
 else (bif (Z.igt s2 0) then Z.bnd (Z.wrap .i64 (Z.sub s2 1)) fun (x8 : Int) =>
 if (Z.Ix x8 (Z.len d0.2)) then Z.bnd (Z.get d0.2 (Z.toN x8) (0,(0,(([] : List (Int)),())))) fun (x11 : (Int)×((Int)×((List (Int))×(Unit)))) =>
 (bif (Z.zWj false true (Z.zWj true (Z.ige x11.1 x6.1) false)) then some 8
 else Z.bnd (Z.wrap .i64 (Z.add s2 1)) fun (x12 : Int) =>
 k3 x12)
 else none
 else Z.bnd (Z.wrap .i64 (Z.add s2 1)) fun (x13 : Int) =>
 k3 x13))
 else none
 else some 0)) 0)
def zZn : PFn:={ args:=[(.pair (.int .i64) (.pair (.int .i64) (.pair (.int .i64) (.pair (.int .i64) .unit)))),(.list (.pair (.int .i64) (.pair (.int .i64) (.pair (.list (.int .u8)) .unit))))],res:=[(.int .i64)],fn:=zXf }
def vWf : List LSpec×List Nat:=([{ id:=1300,known:=true,toks:=[],items:=[.slot 19 (.val (.int .i64))],junk:=[20,21,22,23,8,7,24,25,26,27,28,29,30,31,32,33,34,35,36,37,38,39,40,41,42,4,43],tails:=[] }],[])
def vWe : List LSpec×List Nat:=([{ id:=2200,known:=true,toks:=[],items:=[.slot 3 (.sref 1000003 true (.pair (.int .i64) (.pair (.int .i64) (.pair (.list (.int .u8)) .unit)))), .vec 1000003 (.pair (.int .i64) (.pair (.int .i64) (.pair (.list (.int .u8)) .unit))), .slot 11 (.val (.int .i64))],junk:=[12,13,14,5,15,16,17,18,19,20],tails:=[] }],[1000000005])
def vWd : List LSpec×List Nat:=([],[1000000005])
def vWc : List LSpec×List Nat:=([],[2000000007,2000000009])
def spt13 : Tab (List LSpec×List Nat):=(.node (.node .leaf none (.node .leaf none (.node .leaf (some vWf) .leaf))) none (.node (.node (.node (.node (.node .leaf (some vWc) .leaf) none .leaf) none .leaf) none .leaf) none (.node .leaf none (.node (.node .leaf (some vWe) .leaf) none (.node .leaf (some vWd) .leaf)))))
def spf13 (f : Nat) : List LSpec×List Nat:=(spt13.get f).getD ([],[])
theorem zZ4 : zZt Try.prog cfg 13 zZn:=fnD spf13 (l:=[(34,zYq),(31,zK7)]) zK3 zW7 (.cons yWv (.cons zJ1 .nil)) (fun d=>by kernel_rfl)
def zXu (d0 : (Int)×((Int)×((List (Int))×(Unit)))) : Option (Int) :=
 some d0.1
def zZ5 : PFn:={ args:=[(.pair (.int .i64) (.pair (.int .i64) (.pair (.list (.int .u8)) .unit)))],res:=[(.int .i64)],fn:=zXu }
def vQn : List LSpec×List Nat:=([{ id:=2200,known:=true,toks:=[],items:=[.slot 3 (.sref 1000003 true (.pair (.int .i64) (.pair (.int .i64) (.pair (.list (.int .u8)) .unit)))), .vec 1000003 (.pair (.int .i64) (.pair (.int .i64) (.pair (.list (.int .u8)) .unit))), .slot 11 (.val (.int .i64))],junk:=[12,13,14,5,15,16,17,18,19,20],tails:=[] }],[1000000005])
def vQm : List LSpec×List Nat:=([],[1000000005])
def vQl : List LSpec×List Nat:=([],[2000000007,2000000009])
def spt46 : Tab (List LSpec×List Nat):=(.node .leaf none (.node (.node (.node (.node (.node .leaf (some vQl) .leaf) none .leaf) none .leaf) none .leaf) none (.node .leaf none (.node (.node .leaf (some vQn) .leaf) none (.node .leaf (some vQm) .leaf)))))
def spf46 (f : Nat) : List LSpec×List Nat:=(spt46.get f).getD ([],[])
theorem zKs : zZt Try.prog cfg 46 zZ5:=fnD spf46 (l:=[]) zK3 zW7 .nil (fun d=>by kernel_rfl)
def zWh (d0 : List (Int)) : Option (List (Int)) :=
 if (Z.Le (Z.addN 0 0) (Z.len ([] : List (Int)))) then if (Z.Big (Z.len (Z.seg ([] : List (Int)) 0 0)) (Z.len d0) 1) then none
 else Z.bnd (Z.app (Z.seg ([] : List (Int)) 0 0) d0) fun (x5 : List (Int)) =>
 some x5
 else none
def zZe : PFn:={ args:=[(.list (.int .u8))],res:=[(.list (.int .u8))],fn:=zWh }
def cx50 : CloneX Try.prog cfg 50 5 (.int .u8) := clx xf50 5 (xf50.body.cOps.getD 0 ⟨none, .move (.tmp 0), 0, "", #[], none⟩) (xf50.body.cOps.getD 1 ⟨none, .move (.tmp 0), 0, "", #[], none⟩) (by kernel_rfl) (by kernel_rfl) (by kernel_rfl) (by kernel_rfl) (by kernel_rfl) (by kernel_rfl) (by kernel_rfl) (by kernel_rfl) (by kernel_rfl)
theorem zJe : zZt Try.prog cfg 50 zZe:=cloneD sp0 zK3 zW7 cx50 (of_decide_eq_true (by kernel_rfl)) (by kernel_rfl) (by kernel_rfl) (by kernel_rfl) (fun d=>by kernel_rfl) (fun d=>by kernel_rfl) (by kernel_rfl) (fun d r h=>by
  unfold zWh at h
  split at h
  · split at h
    · cases h
    · have h1 : some d = some r := h
      exact (Option.some.inj h1).symm
  · cases h)
def zW2 (d0 : (Int)×((Int)×((List (Int))×(Unit)))) : Option ((Int)×((Int)×((List (Int))×(Unit)))) :=
 Z.bind (zWh d0.2.2.1) fun (x1 : List (Int)) =>
 some (d0.1,(d0.2.1,(x1,())))
def zJ2 : PFn:={ args:=[(.pair (.int .i64) (.pair (.int .i64) (.pair (.list (.int .u8)) .unit)))],res:=[(.pair (.int .i64) (.pair (.int .i64) (.pair (.list (.int .u8)) .unit)))],fn:=zW2 }
def vQx : List LSpec×List Nat:=([{ id:=2200,known:=true,toks:=[],items:=[.slot 3 (.sref 1000003 true (.pair (.int .i64) (.pair (.int .i64) (.pair (.list (.int .u8)) .unit)))), .vec 1000003 (.pair (.int .i64) (.pair (.int .i64) (.pair (.list (.int .u8)) .unit))), .slot 11 (.val (.int .i64))],junk:=[12,13,14,5,15,16,17,18,19,20],tails:=[] }],[1000000005])
def vQw : List LSpec×List Nat:=([],[1000000005])
def vQv : List LSpec×List Nat:=([],[2000000007,2000000009])
def spt33 : Tab (List LSpec×List Nat):=(.node .leaf none (.node (.node (.node (.node (.node .leaf (some vQv) .leaf) none .leaf) none .leaf) none .leaf) none (.node .leaf none (.node (.node .leaf (some vQx) .leaf) none (.node .leaf (some vQw) .leaf)))))
def spf33 (f : Nat) : List LSpec×List Nat:=(spt33.get f).getD ([],[])
theorem zYo : zZt Try.prog cfg 33 zJ2:=fnD spf33 (l:=[(50,zZe)]) zK3 zW7 (.cons zJe .nil) (fun d=>by kernel_rfl)
def yQk (d0 : ((Int)×((Int)×((Int)×((Int)×(Unit)))))×((List ((Int)×((Int)×((List (Int))×(Unit)))))×(Int))) : Option ((List ((Int)×((Int)×((List (Int))×(Unit)))))×(Int)) :=
 Z.bind (zXf ((d0.1.1,(d0.1.2.1,(d0.1.2.2.1,(d0.1.2.2.2.1,())))),d0.2.1)) fun (x1 : Int) =>
 (bif (Z.ine x1 0) then some (([] : List ((Int)×((Int)×((List (Int))×(Unit))))),x1)
 else Z.loop (fun (s2 : (Int)×(Int)) k3 =>
 (bif (Z.ilt s2.1 s2.2) then Z.bnd (Z.wrap .i64 (Z.sub s2.2 s2.1)) fun (x4 : Int) =>
 if (Z.IsZ 2) then none
 else Z.bnd (Z.wrap .i64 (Z.tdiv x4 2)) fun (x7 : Int) =>
 Z.bnd (Z.wrap .i64 (Z.add s2.1 x7)) fun (x8 : Int) =>
 if (Z.Ix x8 (Z.len d0.2.1)) then Z.bnd (Z.get d0.2.1 (Z.toN x8) (0,(0,(([] : List (Int)),())))) fun (x11 : (Int)×((Int)×((List (Int))×(Unit)))) =>
 Z.bind (zXu (x11.1,(x11.2.1,(x11.2.2.1,())))) fun (x12 : Int) =>
 (bif (Z.ilt x12 d0.2.2) then Z.bnd (Z.wrap .i64 (Z.add x8 1)) fun (x13 : Int) =>
 k3 (x13,s2.2)
 else k3 (s2.1,x8))
 else none
 else (bif (Z.ilt s2.1 (Z.ofN (Z.len d0.2.1))) then if (Z.Ix s2.1 (Z.len d0.2.1)) then Z.bnd (Z.get d0.2.1 (Z.toN s2.1) (0,(0,(([] : List (Int)),())))) fun (x16 : (Int)×((Int)×((List (Int))×(Unit)))) =>
 Z.bind (zXu (x16.1,(x16.2.1,(x16.2.2.1,())))) fun (x17 : Int) =>
 (bif (Z.bnot (Z.zWj true (Z.ieq x17 d0.2.2) false)) then some (([] : List ((Int)×((Int)×((List (Int))×(Unit))))),6)
 else if (Z.MkOk 0 (Z.ofN (Z.len d0.2.1)) 40) then Z.loop (fun (s20 : ((Nat)×((Nat)×(Nat)))×((List ((Int)×((Int)×((List (Int))×(Unit)))))×(Int))) k21 =>
 (bif (Z.ilt s20.2.2 (Z.ofN (Z.len d0.2.1))) then if (Z.Ix s20.2.2 (Z.len d0.2.1)) then Z.bnd (Z.get d0.2.1 (Z.toN s20.2.2) (0,(0,(([] : List (Int)),())))) fun (x24 : (Int)×((Int)×((List (Int))×(Unit)))) =>
 Z.bind (zW2 (x24.1,(x24.2.1,(x24.2.2.1,())))) fun (x25 : (Int)×((Int)×((List (Int))×(Unit)))) =>
 if (Z.Le (Z.addN 0 1) (Z.len ((x25.1,(x25.2.1,(x25.2.2.1,())))::([] : List ((Int)×((Int)×((List (Int))×(Unit)))))))) then if (Z.Le (Z.addN s20.1.1 s20.1.2.1) (Z.len s20.2.1)) then if (Z.Big (Z.len (Z.seg s20.2.1 s20.1.1 s20.1.2.1)) (Z.len (Z.seg ((x25.1,(x25.2.1,(x25.2.2.1,())))::([] : List ((Int)×((Int)×((List (Int))×(Unit)))))) 0 1)) 40) then none
 else if (Z.Le (Z.addN s20.1.2.1 (Z.len (Z.seg ((x25.1,(x25.2.1,(x25.2.2.1,())))::([] : List ((Int)×((Int)×((List (Int))×(Unit)))))) 0 1))) s20.1.2.2) then if (Z.Le (Z.addN s20.1.1 (Z.addN s20.1.2.1 (Z.len (Z.seg ((x25.1,(x25.2.1,(x25.2.2.1,())))::([] : List ((Int)×((Int)×((List (Int))×(Unit)))))) 0 1)))) (Z.len s20.2.1)) then Z.bnd (Z.put s20.2.1 (Z.addN s20.1.1 s20.1.2.1) (Z.seg ((x25.1,(x25.2.1,(x25.2.2.1,())))::([] : List ((Int)×((Int)×((List (Int))×(Unit)))))) 0 1)) fun (x36 : List ((Int)×((Int)×((List (Int))×(Unit))))) =>
 Z.bnd (Z.wrap .i64 (Z.add s20.2.2 1)) fun (x37 : Int) =>
 k21 ((s20.1.1,((Z.addN s20.1.2.1 (Z.len (Z.seg ((x25.1,(x25.2.1,(x25.2.2.1,())))::([] : List ((Int)×((Int)×((List (Int))×(Unit)))))) 0 1))),s20.1.2.2)),(x36,x37))
 else none
 else none
 else none
 else none
 else none
 else Z.bnd (Z.wrap .i64 (Z.add s2.1 1)) fun (x38 : Int) =>
 if (Z.Bd (Z.ofN s20.1.2.1) s20.1.2.2) then if (Z.Bd x38 (Z.toN (Z.ofN s20.1.2.1))) then if (Z.Bd s2.1 (Z.toN x38)) then if (Z.Lt (Z.toN s2.1) (Z.toN (Z.ofN s20.1.2.1))) then (bif (Z.ieq s2.1 x38) then if (Z.Le (Z.addN s20.1.1 s20.1.2.1) (Z.len s20.2.1)) then some ((Z.seg s20.2.1 s20.1.1 s20.1.2.1),0)
 else none
 else if (Z.Bd s2.1 s20.1.2.2) then if (Z.Lt 0 s20.1.2.2) then if (Z.Bd x38 s20.1.2.1) then if (Z.Lt (Z.toN x38) s20.1.2.2) then if (Z.Le (Z.addN (Z.addN s20.1.1 (Z.toN x38)) (Z.subN s20.1.2.1 (Z.toN x38))) (Z.len s20.2.1)) then if (Z.Le (Z.addN (Z.addN s20.1.1 0) (Z.subN (Z.toN s2.1) 0)) (Z.len s20.2.1)) then if (Z.Big (Z.len (Z.seg s20.2.1 (Z.addN s20.1.1 0) (Z.subN (Z.toN s2.1) 0))) (Z.len (Z.seg s20.2.1 (Z.addN s20.1.1 (Z.toN x38)) (Z.subN s20.1.2.1 (Z.toN x38)))) 40) then none
 else if (Z.Le (Z.addN (Z.subN (Z.toN s2.1) 0) (Z.len (Z.seg s20.2.1 (Z.addN s20.1.1 (Z.toN x38)) (Z.subN s20.1.2.1 (Z.toN x38))))) (Z.subN s20.1.2.2 0)) then if (Z.Le (Z.addN (Z.addN s20.1.1 0) (Z.addN (Z.subN (Z.toN s2.1) 0) (Z.len (Z.seg s20.2.1 (Z.addN s20.1.1 (Z.toN x38)) (Z.subN s20.1.2.1 (Z.toN x38)))))) (Z.len s20.2.1)) then Z.bnd (Z.put s20.2.1 (Z.addN (Z.addN s20.1.1 0) (Z.subN (Z.toN s2.1) 0)) (Z.seg s20.2.1 (Z.addN s20.1.1 (Z.toN x38)) (Z.subN s20.1.2.1 (Z.toN x38)))) fun (x67 : List ((Int)×((Int)×((List (Int))×(Unit))))) =>
 if (Z.Bd (Z.ofN s20.1.2.1) (Z.subN s20.1.2.2 0)) then if (Z.Bd (Z.ofN (Z.addN (Z.subN (Z.toN s2.1) 0) (Z.len (Z.seg s20.2.1 (Z.addN s20.1.1 (Z.toN x38)) (Z.subN s20.1.2.1 (Z.toN x38)))))) (Z.toN (Z.ofN s20.1.2.1))) then if (Z.Lt (Z.toN (Z.ofN (Z.addN (Z.subN (Z.toN s2.1) 0) (Z.len (Z.seg s20.2.1 (Z.addN s20.1.1 (Z.toN x38)) (Z.subN s20.1.2.1 (Z.toN x38))))))) (Z.subN s20.1.2.2 0)) then if (Z.Le (Z.addN (Z.addN (Z.addN s20.1.1 0) (Z.toN (Z.ofN (Z.addN (Z.subN (Z.toN s2.1) 0) (Z.len (Z.seg s20.2.1 (Z.addN s20.1.1 (Z.toN x38)) (Z.subN s20.1.2.1 (Z.toN x38)))))))) (Z.subN (Z.toN (Z.ofN s20.1.2.1)) (Z.toN (Z.ofN (Z.addN (Z.subN (Z.toN s2.1) 0) (Z.len (Z.seg s20.2.1 (Z.addN s20.1.1 (Z.toN x38)) (Z.subN s20.1.2.1 (Z.toN x38))))))))) (Z.len x67)) then Z.bnd (Z.put x67 (Z.addN (Z.addN s20.1.1 0) (Z.toN (Z.ofN (Z.addN (Z.subN (Z.toN s2.1) 0) (Z.len (Z.seg s20.2.1 (Z.addN s20.1.1 (Z.toN x38)) (Z.subN s20.1.2.1 (Z.toN x38)))))))) (Z.rep (α:=(Int)×((Int)×((List (Int))×(Unit)))) (Z.subN (Z.toN (Z.ofN s20.1.2.1)) (Z.toN (Z.ofN (Z.addN (Z.subN (Z.toN s2.1) 0) (Z.len (Z.seg s20.2.1 (Z.addN s20.1.1 (Z.toN x38)) (Z.subN s20.1.2.1 (Z.toN x38)))))))) (0,(0,(([] : List (Int)),()))))) fun (x76 : List ((Int)×((Int)×((List (Int))×(Unit))))) =>
 if (Z.Le (Z.addN (Z.addN s20.1.1 0) (Z.addN (Z.subN (Z.toN s2.1) 0) (Z.len (Z.seg s20.2.1 (Z.addN s20.1.1 (Z.toN x38)) (Z.subN s20.1.2.1 (Z.toN x38)))))) (Z.len x76)) then some ((Z.seg x76 (Z.addN s20.1.1 0) (Z.addN (Z.subN (Z.toN s2.1) 0) (Z.len (Z.seg s20.2.1 (Z.addN s20.1.1 (Z.toN x38)) (Z.subN s20.1.2.1 (Z.toN x38)))))),0)
 else none
 else none
 else none
 else none
 else none
 else none
 else none
 else none
 else none
 else if (Z.Le (Z.addN (Z.addN s20.1.1 0) (Z.subN (Z.toN s2.1) 0)) (Z.len s20.2.1)) then if (Z.Big (Z.len (Z.seg s20.2.1 (Z.addN s20.1.1 0) (Z.subN (Z.toN s2.1) 0))) (Z.len ([] : List ((Int)×((Int)×((List (Int))×(Unit)))))) 40) then none
 else if (Z.Le (Z.addN (Z.subN (Z.toN s2.1) 0) (Z.len ([] : List ((Int)×((Int)×((List (Int))×(Unit))))))) (Z.subN s20.1.2.2 0)) then if (Z.Le (Z.addN (Z.addN s20.1.1 0) (Z.addN (Z.subN (Z.toN s2.1) 0) (Z.len ([] : List ((Int)×((Int)×((List (Int))×(Unit)))))))) (Z.len s20.2.1)) then Z.bnd (Z.put s20.2.1 (Z.addN (Z.addN s20.1.1 0) (Z.subN (Z.toN s2.1) 0)) ([] : List ((Int)×((Int)×((List (Int))×(Unit)))))) fun (x87 : List ((Int)×((Int)×((List (Int))×(Unit))))) =>
 if (Z.Bd (Z.ofN s20.1.2.1) (Z.subN s20.1.2.2 0)) then if (Z.Bd (Z.ofN (Z.addN (Z.subN (Z.toN s2.1) 0) (Z.len ([] : List ((Int)×((Int)×((List (Int))×(Unit)))))))) (Z.toN (Z.ofN s20.1.2.1))) then if (Z.Lt (Z.toN (Z.ofN (Z.addN (Z.subN (Z.toN s2.1) 0) (Z.len ([] : List ((Int)×((Int)×((List (Int))×(Unit))))))))) (Z.subN s20.1.2.2 0)) then if (Z.Le (Z.addN (Z.addN (Z.addN s20.1.1 0) (Z.toN (Z.ofN (Z.addN (Z.subN (Z.toN s2.1) 0) (Z.len ([] : List ((Int)×((Int)×((List (Int))×(Unit)))))))))) (Z.subN (Z.toN (Z.ofN s20.1.2.1)) (Z.toN (Z.ofN (Z.addN (Z.subN (Z.toN s2.1) 0) (Z.len ([] : List ((Int)×((Int)×((List (Int))×(Unit))))))))))) (Z.len x87)) then Z.bnd (Z.put x87 (Z.addN (Z.addN s20.1.1 0) (Z.toN (Z.ofN (Z.addN (Z.subN (Z.toN s2.1) 0) (Z.len ([] : List ((Int)×((Int)×((List (Int))×(Unit)))))))))) (Z.rep (α:=(Int)×((Int)×((List (Int))×(Unit)))) (Z.subN (Z.toN (Z.ofN s20.1.2.1)) (Z.toN (Z.ofN (Z.addN (Z.subN (Z.toN s2.1) 0) (Z.len ([] : List ((Int)×((Int)×((List (Int))×(Unit)))))))))) (0,(0,(([] : List (Int)),()))))) fun (x96 : List ((Int)×((Int)×((List (Int))×(Unit))))) =>
 if (Z.Le (Z.addN (Z.addN s20.1.1 0) (Z.addN (Z.subN (Z.toN s2.1) 0) (Z.len ([] : List ((Int)×((Int)×((List (Int))×(Unit)))))))) (Z.len x96)) then some ((Z.seg x96 (Z.addN s20.1.1 0) (Z.addN (Z.subN (Z.toN s2.1) 0) (Z.len ([] : List ((Int)×((Int)×((List (Int))×(Unit)))))))),0)
 else none
 else none
 else none
 else none
 else none
 else none
 else none
 else none
 else none
 else if (Z.Bd x38 s20.1.2.1) then if (Z.Lt (Z.toN x38) s20.1.2.2) then if (Z.Le (Z.addN (Z.addN s20.1.1 (Z.toN x38)) (Z.subN s20.1.2.1 (Z.toN x38))) (Z.len s20.2.1)) then none
 else none
 else none
 else none
 else none)
 else (bif (Z.ieq s2.1 x38) then if (Z.Le (Z.addN s20.1.1 s20.1.2.1) (Z.len s20.2.1)) then some ((Z.seg s20.2.1 s20.1.1 s20.1.2.1),0)
 else none
 else if (Z.Bd s2.1 s20.1.2.2) then if (Z.Lt 0 s20.1.2.2) then if (Z.Bd x38 s20.1.2.1) then if (Z.Lt (Z.toN x38) s20.1.2.2) then if (Z.Le (Z.addN (Z.addN s20.1.1 (Z.toN x38)) (Z.subN s20.1.2.1 (Z.toN x38))) (Z.len s20.2.1)) then if (Z.Le (Z.addN (Z.addN s20.1.1 0) (Z.subN (Z.toN s2.1) 0)) (Z.len s20.2.1)) then if (Z.Big (Z.len (Z.seg s20.2.1 (Z.addN s20.1.1 0) (Z.subN (Z.toN s2.1) 0))) (Z.len (Z.seg s20.2.1 (Z.addN s20.1.1 (Z.toN x38)) (Z.subN s20.1.2.1 (Z.toN x38)))) 40) then none
 else if (Z.Le (Z.addN (Z.subN (Z.toN s2.1) 0) (Z.len (Z.seg s20.2.1 (Z.addN s20.1.1 (Z.toN x38)) (Z.subN s20.1.2.1 (Z.toN x38))))) (Z.subN s20.1.2.2 0)) then if (Z.Le (Z.addN (Z.addN s20.1.1 0) (Z.addN (Z.subN (Z.toN s2.1) 0) (Z.len (Z.seg s20.2.1 (Z.addN s20.1.1 (Z.toN x38)) (Z.subN s20.1.2.1 (Z.toN x38)))))) (Z.len s20.2.1)) then Z.bnd (Z.put s20.2.1 (Z.addN (Z.addN s20.1.1 0) (Z.subN (Z.toN s2.1) 0)) (Z.seg s20.2.1 (Z.addN s20.1.1 (Z.toN x38)) (Z.subN s20.1.2.1 (Z.toN x38)))) fun (x125 : List ((Int)×((Int)×((List (Int))×(Unit))))) =>
 if (Z.Bd (Z.ofN s20.1.2.1) (Z.subN s20.1.2.2 0)) then if (Z.Bd (Z.ofN (Z.addN (Z.subN (Z.toN s2.1) 0) (Z.len (Z.seg s20.2.1 (Z.addN s20.1.1 (Z.toN x38)) (Z.subN s20.1.2.1 (Z.toN x38)))))) (Z.toN (Z.ofN s20.1.2.1))) then if (Z.Lt (Z.toN (Z.ofN (Z.addN (Z.subN (Z.toN s2.1) 0) (Z.len (Z.seg s20.2.1 (Z.addN s20.1.1 (Z.toN x38)) (Z.subN s20.1.2.1 (Z.toN x38))))))) (Z.subN s20.1.2.2 0)) then if (Z.Le (Z.addN (Z.addN (Z.addN s20.1.1 0) (Z.toN (Z.ofN (Z.addN (Z.subN (Z.toN s2.1) 0) (Z.len (Z.seg s20.2.1 (Z.addN s20.1.1 (Z.toN x38)) (Z.subN s20.1.2.1 (Z.toN x38)))))))) (Z.subN (Z.toN (Z.ofN s20.1.2.1)) (Z.toN (Z.ofN (Z.addN (Z.subN (Z.toN s2.1) 0) (Z.len (Z.seg s20.2.1 (Z.addN s20.1.1 (Z.toN x38)) (Z.subN s20.1.2.1 (Z.toN x38))))))))) (Z.len x125)) then Z.bnd (Z.put x125 (Z.addN (Z.addN s20.1.1 0) (Z.toN (Z.ofN (Z.addN (Z.subN (Z.toN s2.1) 0) (Z.len (Z.seg s20.2.1 (Z.addN s20.1.1 (Z.toN x38)) (Z.subN s20.1.2.1 (Z.toN x38)))))))) (Z.rep (α:=(Int)×((Int)×((List (Int))×(Unit)))) (Z.subN (Z.toN (Z.ofN s20.1.2.1)) (Z.toN (Z.ofN (Z.addN (Z.subN (Z.toN s2.1) 0) (Z.len (Z.seg s20.2.1 (Z.addN s20.1.1 (Z.toN x38)) (Z.subN s20.1.2.1 (Z.toN x38)))))))) (0,(0,(([] : List (Int)),()))))) fun (x134 : List ((Int)×((Int)×((List (Int))×(Unit))))) =>
 if (Z.Le (Z.addN (Z.addN s20.1.1 0) (Z.addN (Z.subN (Z.toN s2.1) 0) (Z.len (Z.seg s20.2.1 (Z.addN s20.1.1 (Z.toN x38)) (Z.subN s20.1.2.1 (Z.toN x38)))))) (Z.len x134)) then some ((Z.seg x134 (Z.addN s20.1.1 0) (Z.addN (Z.subN (Z.toN s2.1) 0) (Z.len (Z.seg s20.2.1 (Z.addN s20.1.1 (Z.toN x38)) (Z.subN s20.1.2.1 (Z.toN x38)))))),0)
 else none
 else none
 else none
 else none
 else none
 else none
 else none
 else none
 else none
 else if (Z.Le (Z.addN (Z.addN s20.1.1 0) (Z.subN (Z.toN s2.1) 0)) (Z.len s20.2.1)) then if (Z.Big (Z.len (Z.seg s20.2.1 (Z.addN s20.1.1 0) (Z.subN (Z.toN s2.1) 0))) (Z.len ([] : List ((Int)×((Int)×((List (Int))×(Unit)))))) 40) then none
 else if (Z.Le (Z.addN (Z.subN (Z.toN s2.1) 0) (Z.len ([] : List ((Int)×((Int)×((List (Int))×(Unit))))))) (Z.subN s20.1.2.2 0)) then if (Z.Le (Z.addN (Z.addN s20.1.1 0) (Z.addN (Z.subN (Z.toN s2.1) 0) (Z.len ([] : List ((Int)×((Int)×((List (Int))×(Unit)))))))) (Z.len s20.2.1)) then Z.bnd (Z.put s20.2.1 (Z.addN (Z.addN s20.1.1 0) (Z.subN (Z.toN s2.1) 0)) ([] : List ((Int)×((Int)×((List (Int))×(Unit)))))) fun (x145 : List ((Int)×((Int)×((List (Int))×(Unit))))) =>
 if (Z.Bd (Z.ofN s20.1.2.1) (Z.subN s20.1.2.2 0)) then if (Z.Bd (Z.ofN (Z.addN (Z.subN (Z.toN s2.1) 0) (Z.len ([] : List ((Int)×((Int)×((List (Int))×(Unit)))))))) (Z.toN (Z.ofN s20.1.2.1))) then if (Z.Lt (Z.toN (Z.ofN (Z.addN (Z.subN (Z.toN s2.1) 0) (Z.len ([] : List ((Int)×((Int)×((List (Int))×(Unit))))))))) (Z.subN s20.1.2.2 0)) then if (Z.Le (Z.addN (Z.addN (Z.addN s20.1.1 0) (Z.toN (Z.ofN (Z.addN (Z.subN (Z.toN s2.1) 0) (Z.len ([] : List ((Int)×((Int)×((List (Int))×(Unit)))))))))) (Z.subN (Z.toN (Z.ofN s20.1.2.1)) (Z.toN (Z.ofN (Z.addN (Z.subN (Z.toN s2.1) 0) (Z.len ([] : List ((Int)×((Int)×((List (Int))×(Unit))))))))))) (Z.len x145)) then Z.bnd (Z.put x145 (Z.addN (Z.addN s20.1.1 0) (Z.toN (Z.ofN (Z.addN (Z.subN (Z.toN s2.1) 0) (Z.len ([] : List ((Int)×((Int)×((List (Int))×(Unit)))))))))) (Z.rep (α:=(Int)×((Int)×((List (Int))×(Unit)))) (Z.subN (Z.toN (Z.ofN s20.1.2.1)) (Z.toN (Z.ofN (Z.addN (Z.subN (Z.toN s2.1) 0) (Z.len ([] : List ((Int)×((Int)×((List (Int))×(Unit)))))))))) (0,(0,(([] : List (Int)),()))))) fun (x154 : List ((Int)×((Int)×((List (Int))×(Unit))))) =>
 if (Z.Le (Z.addN (Z.addN s20.1.1 0) (Z.addN (Z.subN (Z.toN s2.1) 0) (Z.len ([] : List ((Int)×((Int)×((List (Int))×(Unit)))))))) (Z.len x154)) then some ((Z.seg x154 (Z.addN s20.1.1 0) (Z.addN (Z.subN (Z.toN s2.1) 0) (Z.len ([] : List ((Int)×((Int)×((List (Int))×(Unit)))))))),0)
 else none
 else none
 else none
 else none
 else none
 else none
 else none
 else none
 else none
 else if (Z.Bd x38 s20.1.2.1) then if (Z.Lt (Z.toN x38) s20.1.2.2) then if (Z.Le (Z.addN (Z.addN s20.1.1 (Z.toN x38)) (Z.subN s20.1.2.1 (Z.toN x38))) (Z.len s20.2.1)) then none
 else none
 else none
 else none
 else none)
 else none
 else none
 else none)) ((0,((Z.toN 0),(Z.toN (Z.ofN (Z.len d0.2.1))))),((Z.rep (α:=(Int)×((Int)×((List (Int))×(Unit)))) (Z.toN (Z.ofN (Z.len d0.2.1))) (0,(0,(([] : List (Int)),())))),0))
 else none)
 else none
 else some (([] : List ((Int)×((Int)×((List (Int))×(Unit))))),6)))) (0,(Z.ofN (Z.len d0.2.1))))
def yZh : PFn:={ args:=[(.pair (.int .i64) (.pair (.int .i64) (.pair (.int .i64) (.pair (.int .i64) .unit)))),(.list (.pair (.int .i64) (.pair (.int .i64) (.pair (.list (.int .u8)) .unit)))),(.int .i64)],res:=[(.list (.pair (.int .i64) (.pair (.int .i64) (.pair (.list (.int .u8)) .unit)))),(.int .i64)],fn:=yQk }
def sp7_29 : List LSpec×List Nat:=([{ id:=2900,known:=true,toks:=[],items:=[.slot 6 (.val (.int .i64)), .slot 7 (.val (.int .i64))],junk:=[12,13,14,15,16,17,18,19,20,8,21,22,23,24,25,26,27,28,29,30,31,32,33],tails:=[] }],[])
def sp7_22 : List LSpec×List Nat:=([{ id:=2200,known:=true,toks:=[],items:=[.slot 3 (.sref 1000003 true (.pair (.int .i64) (.pair (.int .i64) (.pair (.list (.int .u8)) .unit)))), .vec 1000003 (.pair (.int .i64) (.pair (.int .i64) (.pair (.list (.int .u8)) .unit))), .slot 11 (.val (.int .i64))],junk:=[12,13,14,5,15,16,17,18,19,20],tails:=[] }],[1000000005])
def sp7_30 : List LSpec×List Nat:=([],[1000000005])
def sp7_32 : List LSpec×List Nat:=([],[2000000007,2000000009])
def spt7 : Tab (List LSpec×List Nat):=(.node (.node .leaf none (.node .leaf none (.node .leaf none (.node .leaf (some sp7_29) .leaf)))) none (.node (.node (.node (.node (.node .leaf (some sp7_32) .leaf) none .leaf) none .leaf) none .leaf) none (.node .leaf none (.node (.node .leaf (some sp7_22) .leaf) none (.node .leaf (some sp7_30) .leaf)))))
def spf7 (f : Nat) : List LSpec×List Nat:=(spt7.get f).getD ([],[])
theorem xQ8 : zZt Try.prog cfg 7 yZh:=fnD spf7 (l:=[(13,zZn),(46,zZ5),(33,zJ2)]) zK3 zW7 (.cons zZ4 (.cons zKs (.cons zYo .nil))) (fun d=>by kernel_rfl)
def zQj (d0 : (Nat)×((List ((Int)×((Int)×((List (Int))×(Unit)))))×((Int)×(List ((Int)×((Int)×((List (Int))×(Unit)))))))) : Option (List ((Int)×((Int)×((List (Int))×(Unit))))) :=
 if (Z.Bd d0.2.2.1 (Z.len d0.2.1)) then if (Z.Lt (Z.toN d0.2.2.1) d0.1) then (bif (Z.ieq (Z.ofN (Z.len d0.2.2.2)) 0) then if (Z.Le (Z.addN 0 (Z.len d0.2.1)) (Z.len d0.2.1)) then some (Z.seg d0.2.1 0 (Z.len d0.2.1))
 else none
 else (bif (Z.ieq d0.2.2.1 (Z.ofN (Z.len d0.2.1))) then if (Z.Le (Z.addN 0 (Z.len d0.2.2.2)) (Z.len d0.2.2.2)) then if (Z.Le (Z.addN 0 (Z.len d0.2.1)) (Z.len d0.2.1)) then if (Z.Big (Z.len (Z.seg d0.2.1 0 (Z.len d0.2.1))) (Z.len (Z.seg d0.2.2.2 0 (Z.len d0.2.2.2))) 40) then none
 else if (Z.Le (Z.addN (Z.len d0.2.1) (Z.len (Z.seg d0.2.2.2 0 (Z.len d0.2.2.2)))) d0.1) then Z.bnd (Z.put d0.2.1 (Z.addN 0 (Z.len d0.2.1)) (Z.seg d0.2.2.2 0 (Z.len d0.2.2.2))) fun (x15 : List ((Int)×((Int)×((List (Int))×(Unit))))) =>
 if (Z.Le (Z.addN 0 (Z.addN (Z.len d0.2.1) (Z.len (Z.seg d0.2.2.2 0 (Z.len d0.2.2.2))))) (Z.len x15)) then some (Z.seg x15 0 (Z.addN (Z.len d0.2.1) (Z.len (Z.seg d0.2.2.2 0 (Z.len d0.2.2.2)))))
 else none
 else Z.bnd (Z.app (Z.seg d0.2.1 0 (Z.len d0.2.1)) (Z.seg d0.2.2.2 0 (Z.len d0.2.2.2))) fun (x18 : List ((Int)×((Int)×((List (Int))×(Unit))))) =>
 if (Z.Le (Z.addN 0 (Z.len x18)) (Z.len x18)) then some (Z.seg x18 0 (Z.len x18))
 else none
 else none
 else none
 else Z.bnd (Z.wrap .i64 (Z.add (Z.ofN (Z.len d0.2.1)) (Z.ofN (Z.len d0.2.2.2)))) fun (x21 : Int) =>
 (bif (Z.igt x21 (Z.ofN d0.1)) then if (Z.Bd d0.2.2.1 d0.1) then if (Z.Lt 0 d0.1) then Z.bnd (Z.wrap .i64 (Z.add (Z.ofN (Z.len d0.2.1)) (Z.ofN (Z.len d0.2.2.2)))) fun (x26 : Int) =>
 Z.bnd (Z.wrap .i64 (Z.sub x26 d0.2.2.1)) fun (x27 : Int) =>
 if (Z.ZOk x27 40) then Z.bnd (Z.rep (α:=(Int)×((Int)×((List (Int))×(Unit)))) (Z.toN x27) (0,(0,(([] : List (Int)),())))) fun (x30 : List ((Int)×((Int)×((List (Int))×(Unit))))) =>
 if (Z.Le (Z.addN (Z.addN 0 0) (Z.subN (Z.toN d0.2.2.1) 0)) (Z.len d0.2.1)) then if (Z.Big (Z.len (Z.seg d0.2.1 (Z.addN 0 0) (Z.subN (Z.toN d0.2.2.1) 0))) (Z.len x30) 40) then none
 else if (Z.Le (Z.addN (Z.subN (Z.toN d0.2.2.1) 0) (Z.len x30)) (Z.subN d0.1 0)) then Z.bnd (Z.put d0.2.1 (Z.addN (Z.addN 0 0) (Z.subN (Z.toN d0.2.2.1) 0)) x30) fun (x37 : List ((Int)×((Int)×((List (Int))×(Unit))))) =>
 if (Z.Bd d0.2.2.1 (Z.addN (Z.subN (Z.toN d0.2.2.1) 0) (Z.len x30))) then if (Z.Lt (Z.toN d0.2.2.1) (Z.subN d0.1 0)) then if (Z.Le (Z.addN 0 (Z.minN (Z.len d0.2.2.2) (Z.subN (Z.addN (Z.subN (Z.toN d0.2.2.1) 0) (Z.len x30)) (Z.toN d0.2.2.1)))) (Z.len d0.2.2.2)) then if (Z.Le (Z.addN (Z.addN 0 0) (Z.toN d0.2.2.1)) (Z.len x37)) then Z.bnd (Z.wrap .i64 (Z.add d0.2.2.1 (Z.ofN (Z.len d0.2.2.2)))) fun (x46 : Int) =>
 if (Z.Bd x46 (Z.addN (Z.subN (Z.toN d0.2.2.1) 0) (Z.len x30))) then if (Z.Lt (Z.toN x46) (Z.subN d0.1 0)) then if (Z.Bd d0.2.2.1 (Z.len d0.2.1)) then if (Z.Lt (Z.toN d0.2.2.1) d0.1) then if (Z.Le (Z.addN (Z.addN 0 (Z.toN d0.2.2.1)) (Z.minN (Z.subN (Z.len d0.2.1) (Z.toN d0.2.2.1)) (Z.subN (Z.addN (Z.subN (Z.toN d0.2.2.1) 0) (Z.len x30)) (Z.toN x46)))) (Z.len (Z.put x37 (Z.addN (Z.addN 0 0) (Z.toN d0.2.2.1)) (Z.seg d0.2.2.2 0 (Z.minN (Z.len d0.2.2.2) (Z.subN (Z.addN (Z.subN (Z.toN d0.2.2.1) 0) (Z.len x30)) (Z.toN d0.2.2.1))))))) then if (Z.Le (Z.addN (Z.addN 0 0) (Z.toN x46)) (Z.len (Z.put x37 (Z.addN (Z.addN 0 0) (Z.toN d0.2.2.1)) (Z.seg d0.2.2.2 0 (Z.minN (Z.len d0.2.2.2) (Z.subN (Z.addN (Z.subN (Z.toN d0.2.2.1) 0) (Z.len x30)) (Z.toN d0.2.2.1))))))) then if (Z.Le (Z.addN (Z.addN 0 0) (Z.addN (Z.subN (Z.toN d0.2.2.1) 0) (Z.len x30))) (Z.len (Z.put (Z.put x37 (Z.addN (Z.addN 0 0) (Z.toN d0.2.2.1)) (Z.seg d0.2.2.2 0 (Z.minN (Z.len d0.2.2.2) (Z.subN (Z.addN (Z.subN (Z.toN d0.2.2.1) 0) (Z.len x30)) (Z.toN d0.2.2.1))))) (Z.addN (Z.addN 0 0) (Z.toN x46)) (Z.seg (Z.put x37 (Z.addN (Z.addN 0 0) (Z.toN d0.2.2.1)) (Z.seg d0.2.2.2 0 (Z.minN (Z.len d0.2.2.2) (Z.subN (Z.addN (Z.subN (Z.toN d0.2.2.1) 0) (Z.len x30)) (Z.toN d0.2.2.1))))) (Z.addN 0 (Z.toN d0.2.2.1)) (Z.minN (Z.subN (Z.len d0.2.1) (Z.toN d0.2.2.1)) (Z.subN (Z.addN (Z.subN (Z.toN d0.2.2.1) 0) (Z.len x30)) (Z.toN x46))))))) then some (Z.seg (Z.put (Z.put x37 (Z.addN (Z.addN 0 0) (Z.toN d0.2.2.1)) (Z.seg d0.2.2.2 0 (Z.minN (Z.len d0.2.2.2) (Z.subN (Z.addN (Z.subN (Z.toN d0.2.2.1) 0) (Z.len x30)) (Z.toN d0.2.2.1))))) (Z.addN (Z.addN 0 0) (Z.toN x46)) (Z.seg (Z.put x37 (Z.addN (Z.addN 0 0) (Z.toN d0.2.2.1)) (Z.seg d0.2.2.2 0 (Z.minN (Z.len d0.2.2.2) (Z.subN (Z.addN (Z.subN (Z.toN d0.2.2.1) 0) (Z.len x30)) (Z.toN d0.2.2.1))))) (Z.addN 0 (Z.toN d0.2.2.1)) (Z.minN (Z.subN (Z.len d0.2.1) (Z.toN d0.2.2.1)) (Z.subN (Z.addN (Z.subN (Z.toN d0.2.2.1) 0) (Z.len x30)) (Z.toN x46))))) (Z.addN 0 0) (Z.addN (Z.subN (Z.toN d0.2.2.1) 0) (Z.len x30)))
 else none
 else none
 else none
 else none
 else none
 else if (Z.Bd d0.2.2.1 (Z.len d0.2.1)) then if (Z.Lt (Z.toN d0.2.2.1) d0.1) then none
 else none
 else none
 else none
 else none
 else none
 else none
 else none
 else Z.bnd (Z.app (Z.seg d0.2.1 (Z.addN 0 0) (Z.subN (Z.toN d0.2.2.1) 0)) x30) fun (x65 : List ((Int)×((Int)×((List (Int))×(Unit))))) =>
 if (Z.Bd d0.2.2.1 (Z.len x65)) then if (Z.Lt (Z.toN d0.2.2.1) (Z.len x65)) then if (Z.Le (Z.addN 0 (Z.minN (Z.len d0.2.2.2) (Z.subN (Z.len x65) (Z.toN d0.2.2.1)))) (Z.len d0.2.2.2)) then if (Z.Le (Z.addN 0 (Z.toN d0.2.2.1)) (Z.len x65)) then Z.bnd (Z.wrap .i64 (Z.add d0.2.2.1 (Z.ofN (Z.len d0.2.2.2)))) fun (x74 : Int) =>
 if (Z.Bd x74 (Z.len x65)) then if (Z.Lt (Z.toN x74) (Z.len x65)) then if (Z.Bd d0.2.2.1 (Z.len d0.2.1)) then if (Z.Lt (Z.toN d0.2.2.1) d0.1) then if (Z.Le (Z.addN (Z.addN 0 (Z.toN d0.2.2.1)) (Z.minN (Z.subN (Z.len d0.2.1) (Z.toN d0.2.2.1)) (Z.subN (Z.len x65) (Z.toN x74)))) (Z.len d0.2.1)) then if (Z.Le (Z.addN 0 (Z.toN x74)) (Z.len (Z.put x65 (Z.addN 0 (Z.toN d0.2.2.1)) (Z.seg d0.2.2.2 0 (Z.minN (Z.len d0.2.2.2) (Z.subN (Z.len x65) (Z.toN d0.2.2.1))))))) then if (Z.Le (Z.addN 0 (Z.len x65)) (Z.len (Z.put (Z.put x65 (Z.addN 0 (Z.toN d0.2.2.1)) (Z.seg d0.2.2.2 0 (Z.minN (Z.len d0.2.2.2) (Z.subN (Z.len x65) (Z.toN d0.2.2.1))))) (Z.addN 0 (Z.toN x74)) (Z.seg d0.2.1 (Z.addN 0 (Z.toN d0.2.2.1)) (Z.minN (Z.subN (Z.len d0.2.1) (Z.toN d0.2.2.1)) (Z.subN (Z.len x65) (Z.toN x74))))))) then some (Z.seg (Z.put (Z.put x65 (Z.addN 0 (Z.toN d0.2.2.1)) (Z.seg d0.2.2.2 0 (Z.minN (Z.len d0.2.2.2) (Z.subN (Z.len x65) (Z.toN d0.2.2.1))))) (Z.addN 0 (Z.toN x74)) (Z.seg d0.2.1 (Z.addN 0 (Z.toN d0.2.2.1)) (Z.minN (Z.subN (Z.len d0.2.1) (Z.toN d0.2.2.1)) (Z.subN (Z.len x65) (Z.toN x74))))) 0 (Z.len x65))
 else none
 else none
 else none
 else none
 else none
 else if (Z.Bd d0.2.2.1 (Z.len d0.2.1)) then if (Z.Lt (Z.toN d0.2.2.1) d0.1) then none
 else none
 else none
 else none
 else none
 else none
 else none
 else none
 else none
 else none
 else Z.bnd (Z.wrap .i64 (Z.add (Z.ofN (Z.len d0.2.1)) (Z.ofN (Z.len d0.2.2.2)))) fun (x93 : Int) =>
 Z.bnd (Z.wrap .i64 (Z.sub x93 d0.2.2.1)) fun (x94 : Int) =>
 if (Z.ZOk x94 40) then Z.bnd (Z.rep (α:=(Int)×((Int)×((List (Int))×(Unit)))) (Z.toN x94) (0,(0,(([] : List (Int)),())))) fun (x97 : List ((Int)×((Int)×((List (Int))×(Unit))))) =>
 none
 else none
 else none
 else Z.bnd (Z.wrap .i64 (Z.add (Z.ofN (Z.len d0.2.1)) (Z.ofN (Z.len d0.2.2.2)))) fun (x98 : Int) =>
 if (Z.Bd x98 d0.1) then if (Z.Lt 0 d0.1) then Z.bnd (Z.wrap .i64 (Z.add d0.2.2.1 (Z.ofN (Z.len d0.2.2.2)))) fun (x103 : Int) =>
 if (Z.Bd x103 (Z.subN (Z.toN x98) 0)) then if (Z.Lt (Z.toN x103) (Z.subN d0.1 0)) then if (Z.EqN (Z.len d0.2.1) 0) then none
 else Z.bnd (Z.wrap .i64 (Z.add d0.2.2.1 (Z.ofN (Z.len d0.2.2.2)))) fun (x110 : Int) =>
 if (Z.Bd x110 (Z.subN (Z.toN x98) 0)) then if (Z.Lt (Z.toN x110) (Z.subN d0.1 0)) then if (Z.Bd d0.2.2.1 (Z.subN (Z.toN x98) 0)) then if (Z.Lt (Z.toN d0.2.2.1) (Z.subN d0.1 0)) then if (Z.Le (Z.addN (Z.addN (Z.addN 0 0) (Z.toN d0.2.2.1)) (Z.minN (Z.subN (Z.subN (Z.toN x98) 0) (Z.toN d0.2.2.1)) (Z.subN (Z.subN (Z.toN x98) 0) (Z.toN x110)))) (Z.len d0.2.1)) then if (Z.Le (Z.addN (Z.addN 0 0) (Z.toN x110)) (Z.len d0.2.1)) then if (Z.Bd d0.2.2.1 (Z.subN (Z.toN x98) 0)) then if (Z.Lt (Z.toN d0.2.2.1) (Z.subN d0.1 0)) then if (Z.Le (Z.addN 0 (Z.minN (Z.len d0.2.2.2) (Z.subN (Z.subN (Z.toN x98) 0) (Z.toN d0.2.2.1)))) (Z.len d0.2.2.2)) then if (Z.Le (Z.addN (Z.addN 0 0) (Z.toN d0.2.2.1)) (Z.len (Z.put d0.2.1 (Z.addN (Z.addN 0 0) (Z.toN x110)) (Z.seg d0.2.1 (Z.addN (Z.addN 0 0) (Z.toN d0.2.2.1)) (Z.minN (Z.subN (Z.subN (Z.toN x98) 0) (Z.toN d0.2.2.1)) (Z.subN (Z.subN (Z.toN x98) 0) (Z.toN x110))))))) then if (Z.Le (Z.addN (Z.addN 0 0) (Z.subN (Z.toN x98) 0)) (Z.len (Z.put (Z.put d0.2.1 (Z.addN (Z.addN 0 0) (Z.toN x110)) (Z.seg d0.2.1 (Z.addN (Z.addN 0 0) (Z.toN d0.2.2.1)) (Z.minN (Z.subN (Z.subN (Z.toN x98) 0) (Z.toN d0.2.2.1)) (Z.subN (Z.subN (Z.toN x98) 0) (Z.toN x110))))) (Z.addN (Z.addN 0 0) (Z.toN d0.2.2.1)) (Z.seg d0.2.2.2 0 (Z.minN (Z.len d0.2.2.2) (Z.subN (Z.subN (Z.toN x98) 0) (Z.toN d0.2.2.1))))))) then some (Z.seg (Z.put (Z.put d0.2.1 (Z.addN (Z.addN 0 0) (Z.toN x110)) (Z.seg d0.2.1 (Z.addN (Z.addN 0 0) (Z.toN d0.2.2.1)) (Z.minN (Z.subN (Z.subN (Z.toN x98) 0) (Z.toN d0.2.2.1)) (Z.subN (Z.subN (Z.toN x98) 0) (Z.toN x110))))) (Z.addN (Z.addN 0 0) (Z.toN d0.2.2.1)) (Z.seg d0.2.2.2 0 (Z.minN (Z.len d0.2.2.2) (Z.subN (Z.subN (Z.toN x98) 0) (Z.toN d0.2.2.1))))) (Z.addN 0 0) (Z.subN (Z.toN x98) 0))
 else none
 else none
 else none
 else none
 else none
 else none
 else none
 else none
 else none
 else if (Z.Bd d0.2.2.1 (Z.subN (Z.toN x98) 0)) then if (Z.Lt (Z.toN d0.2.2.1) (Z.subN d0.1 0)) then none
 else none
 else none
 else none
 else none
 else none
 else Z.bnd (Z.wrap .i64 (Z.add d0.2.2.1 (Z.ofN (Z.len d0.2.2.2)))) fun (x137 : Int) =>
 if (Z.Bd x137 (Z.len ([] : List ((Int)×((Int)×((List (Int))×(Unit))))))) then Z.bnd (Z.slice ([] : List ((Int)×((Int)×((List (Int))×(Unit))))) (Z.toN x137) (Z.len ([] : List ((Int)×((Int)×((List (Int))×(Unit))))))) fun (x140 : List ((Int)×((Int)×((List (Int))×(Unit))))) =>
 none
 else none
 else none)))
 else (bif (Z.ieq (Z.ofN (Z.len d0.2.2.2)) 0) then if (Z.Le (Z.addN 0 (Z.len d0.2.1)) (Z.len d0.2.1)) then some (Z.seg d0.2.1 0 (Z.len d0.2.1))
 else none
 else (bif (Z.ieq d0.2.2.1 (Z.ofN (Z.len d0.2.1))) then if (Z.Le (Z.addN 0 (Z.len d0.2.2.2)) (Z.len d0.2.2.2)) then if (Z.Le (Z.addN 0 (Z.len d0.2.1)) (Z.len d0.2.1)) then if (Z.Big (Z.len (Z.seg d0.2.1 0 (Z.len d0.2.1))) (Z.len (Z.seg d0.2.2.2 0 (Z.len d0.2.2.2))) 40) then none
 else if (Z.Le (Z.addN (Z.len d0.2.1) (Z.len (Z.seg d0.2.2.2 0 (Z.len d0.2.2.2)))) d0.1) then Z.bnd (Z.put d0.2.1 (Z.addN 0 (Z.len d0.2.1)) (Z.seg d0.2.2.2 0 (Z.len d0.2.2.2))) fun (x151 : List ((Int)×((Int)×((List (Int))×(Unit))))) =>
 if (Z.Le (Z.addN 0 (Z.addN (Z.len d0.2.1) (Z.len (Z.seg d0.2.2.2 0 (Z.len d0.2.2.2))))) (Z.len x151)) then some (Z.seg x151 0 (Z.addN (Z.len d0.2.1) (Z.len (Z.seg d0.2.2.2 0 (Z.len d0.2.2.2)))))
 else none
 else Z.bnd (Z.app (Z.seg d0.2.1 0 (Z.len d0.2.1)) (Z.seg d0.2.2.2 0 (Z.len d0.2.2.2))) fun (x154 : List ((Int)×((Int)×((List (Int))×(Unit))))) =>
 if (Z.Le (Z.addN 0 (Z.len x154)) (Z.len x154)) then some (Z.seg x154 0 (Z.len x154))
 else none
 else none
 else none
 else Z.bnd (Z.wrap .i64 (Z.add (Z.ofN (Z.len d0.2.1)) (Z.ofN (Z.len d0.2.2.2)))) fun (x157 : Int) =>
 (bif (Z.igt x157 (Z.ofN d0.1)) then if (Z.Bd d0.2.2.1 d0.1) then if (Z.Lt 0 d0.1) then Z.bnd (Z.wrap .i64 (Z.add (Z.ofN (Z.len d0.2.1)) (Z.ofN (Z.len d0.2.2.2)))) fun (x162 : Int) =>
 Z.bnd (Z.wrap .i64 (Z.sub x162 d0.2.2.1)) fun (x163 : Int) =>
 if (Z.ZOk x163 40) then Z.bnd (Z.rep (α:=(Int)×((Int)×((List (Int))×(Unit)))) (Z.toN x163) (0,(0,(([] : List (Int)),())))) fun (x166 : List ((Int)×((Int)×((List (Int))×(Unit))))) =>
 if (Z.Le (Z.addN (Z.addN 0 0) (Z.subN (Z.toN d0.2.2.1) 0)) (Z.len d0.2.1)) then if (Z.Big (Z.len (Z.seg d0.2.1 (Z.addN 0 0) (Z.subN (Z.toN d0.2.2.1) 0))) (Z.len x166) 40) then none
 else if (Z.Le (Z.addN (Z.subN (Z.toN d0.2.2.1) 0) (Z.len x166)) (Z.subN d0.1 0)) then Z.bnd (Z.put d0.2.1 (Z.addN (Z.addN 0 0) (Z.subN (Z.toN d0.2.2.1) 0)) x166) fun (x173 : List ((Int)×((Int)×((List (Int))×(Unit))))) =>
 if (Z.Bd d0.2.2.1 (Z.addN (Z.subN (Z.toN d0.2.2.1) 0) (Z.len x166))) then if (Z.Lt (Z.toN d0.2.2.1) (Z.subN d0.1 0)) then if (Z.Le (Z.addN 0 (Z.minN (Z.len d0.2.2.2) (Z.subN (Z.addN (Z.subN (Z.toN d0.2.2.1) 0) (Z.len x166)) (Z.toN d0.2.2.1)))) (Z.len d0.2.2.2)) then if (Z.Le (Z.addN (Z.addN 0 0) (Z.toN d0.2.2.1)) (Z.len x173)) then Z.bnd (Z.wrap .i64 (Z.add d0.2.2.1 (Z.ofN (Z.len d0.2.2.2)))) fun (x182 : Int) =>
 if (Z.Bd x182 (Z.addN (Z.subN (Z.toN d0.2.2.1) 0) (Z.len x166))) then if (Z.Lt (Z.toN x182) (Z.subN d0.1 0)) then if (Z.Bd d0.2.2.1 (Z.len d0.2.1)) then if (Z.Lt (Z.toN d0.2.2.1) d0.1) then if (Z.Le (Z.addN (Z.addN 0 (Z.toN d0.2.2.1)) (Z.minN (Z.subN (Z.len d0.2.1) (Z.toN d0.2.2.1)) (Z.subN (Z.addN (Z.subN (Z.toN d0.2.2.1) 0) (Z.len x166)) (Z.toN x182)))) (Z.len (Z.put x173 (Z.addN (Z.addN 0 0) (Z.toN d0.2.2.1)) (Z.seg d0.2.2.2 0 (Z.minN (Z.len d0.2.2.2) (Z.subN (Z.addN (Z.subN (Z.toN d0.2.2.1) 0) (Z.len x166)) (Z.toN d0.2.2.1))))))) then if (Z.Le (Z.addN (Z.addN 0 0) (Z.toN x182)) (Z.len (Z.put x173 (Z.addN (Z.addN 0 0) (Z.toN d0.2.2.1)) (Z.seg d0.2.2.2 0 (Z.minN (Z.len d0.2.2.2) (Z.subN (Z.addN (Z.subN (Z.toN d0.2.2.1) 0) (Z.len x166)) (Z.toN d0.2.2.1))))))) then if (Z.Le (Z.addN (Z.addN 0 0) (Z.addN (Z.subN (Z.toN d0.2.2.1) 0) (Z.len x166))) (Z.len (Z.put (Z.put x173 (Z.addN (Z.addN 0 0) (Z.toN d0.2.2.1)) (Z.seg d0.2.2.2 0 (Z.minN (Z.len d0.2.2.2) (Z.subN (Z.addN (Z.subN (Z.toN d0.2.2.1) 0) (Z.len x166)) (Z.toN d0.2.2.1))))) (Z.addN (Z.addN 0 0) (Z.toN x182)) (Z.seg (Z.put x173 (Z.addN (Z.addN 0 0) (Z.toN d0.2.2.1)) (Z.seg d0.2.2.2 0 (Z.minN (Z.len d0.2.2.2) (Z.subN (Z.addN (Z.subN (Z.toN d0.2.2.1) 0) (Z.len x166)) (Z.toN d0.2.2.1))))) (Z.addN 0 (Z.toN d0.2.2.1)) (Z.minN (Z.subN (Z.len d0.2.1) (Z.toN d0.2.2.1)) (Z.subN (Z.addN (Z.subN (Z.toN d0.2.2.1) 0) (Z.len x166)) (Z.toN x182))))))) then some (Z.seg (Z.put (Z.put x173 (Z.addN (Z.addN 0 0) (Z.toN d0.2.2.1)) (Z.seg d0.2.2.2 0 (Z.minN (Z.len d0.2.2.2) (Z.subN (Z.addN (Z.subN (Z.toN d0.2.2.1) 0) (Z.len x166)) (Z.toN d0.2.2.1))))) (Z.addN (Z.addN 0 0) (Z.toN x182)) (Z.seg (Z.put x173 (Z.addN (Z.addN 0 0) (Z.toN d0.2.2.1)) (Z.seg d0.2.2.2 0 (Z.minN (Z.len d0.2.2.2) (Z.subN (Z.addN (Z.subN (Z.toN d0.2.2.1) 0) (Z.len x166)) (Z.toN d0.2.2.1))))) (Z.addN 0 (Z.toN d0.2.2.1)) (Z.minN (Z.subN (Z.len d0.2.1) (Z.toN d0.2.2.1)) (Z.subN (Z.addN (Z.subN (Z.toN d0.2.2.1) 0) (Z.len x166)) (Z.toN x182))))) (Z.addN 0 0) (Z.addN (Z.subN (Z.toN d0.2.2.1) 0) (Z.len x166)))
 else none
 else none
 else none
 else none
 else none
 else if (Z.Bd d0.2.2.1 (Z.len d0.2.1)) then if (Z.Lt (Z.toN d0.2.2.1) d0.1) then none
 else none
 else none
 else none
 else none
 else none
 else none
 else none
 else Z.bnd (Z.app (Z.seg d0.2.1 (Z.addN 0 0) (Z.subN (Z.toN d0.2.2.1) 0)) x166) fun (x201 : List ((Int)×((Int)×((List (Int))×(Unit))))) =>
 if (Z.Bd d0.2.2.1 (Z.len x201)) then if (Z.Lt (Z.toN d0.2.2.1) (Z.len x201)) then if (Z.Le (Z.addN 0 (Z.minN (Z.len d0.2.2.2) (Z.subN (Z.len x201) (Z.toN d0.2.2.1)))) (Z.len d0.2.2.2)) then if (Z.Le (Z.addN 0 (Z.toN d0.2.2.1)) (Z.len x201)) then Z.bnd (Z.wrap .i64 (Z.add d0.2.2.1 (Z.ofN (Z.len d0.2.2.2)))) fun (x210 : Int) =>
 if (Z.Bd x210 (Z.len x201)) then if (Z.Lt (Z.toN x210) (Z.len x201)) then if (Z.Bd d0.2.2.1 (Z.len d0.2.1)) then if (Z.Lt (Z.toN d0.2.2.1) d0.1) then if (Z.Le (Z.addN (Z.addN 0 (Z.toN d0.2.2.1)) (Z.minN (Z.subN (Z.len d0.2.1) (Z.toN d0.2.2.1)) (Z.subN (Z.len x201) (Z.toN x210)))) (Z.len d0.2.1)) then if (Z.Le (Z.addN 0 (Z.toN x210)) (Z.len (Z.put x201 (Z.addN 0 (Z.toN d0.2.2.1)) (Z.seg d0.2.2.2 0 (Z.minN (Z.len d0.2.2.2) (Z.subN (Z.len x201) (Z.toN d0.2.2.1))))))) then if (Z.Le (Z.addN 0 (Z.len x201)) (Z.len (Z.put (Z.put x201 (Z.addN 0 (Z.toN d0.2.2.1)) (Z.seg d0.2.2.2 0 (Z.minN (Z.len d0.2.2.2) (Z.subN (Z.len x201) (Z.toN d0.2.2.1))))) (Z.addN 0 (Z.toN x210)) (Z.seg d0.2.1 (Z.addN 0 (Z.toN d0.2.2.1)) (Z.minN (Z.subN (Z.len d0.2.1) (Z.toN d0.2.2.1)) (Z.subN (Z.len x201) (Z.toN x210))))))) then some (Z.seg (Z.put (Z.put x201 (Z.addN 0 (Z.toN d0.2.2.1)) (Z.seg d0.2.2.2 0 (Z.minN (Z.len d0.2.2.2) (Z.subN (Z.len x201) (Z.toN d0.2.2.1))))) (Z.addN 0 (Z.toN x210)) (Z.seg d0.2.1 (Z.addN 0 (Z.toN d0.2.2.1)) (Z.minN (Z.subN (Z.len d0.2.1) (Z.toN d0.2.2.1)) (Z.subN (Z.len x201) (Z.toN x210))))) 0 (Z.len x201))
 else none
 else none
 else none
 else none
 else none
 else if (Z.Bd d0.2.2.1 (Z.len d0.2.1)) then if (Z.Lt (Z.toN d0.2.2.1) d0.1) then none
 else none
 else none
 else none
 else none
 else none
 else none
 else none
 else none
 else none
 else Z.bnd (Z.wrap .i64 (Z.add (Z.ofN (Z.len d0.2.1)) (Z.ofN (Z.len d0.2.2.2)))) fun (x229 : Int) =>
 Z.bnd (Z.wrap .i64 (Z.sub x229 d0.2.2.1)) fun (x230 : Int) =>
 if (Z.ZOk x230 40) then Z.bnd (Z.rep (α:=(Int)×((Int)×((List (Int))×(Unit)))) (Z.toN x230) (0,(0,(([] : List (Int)),())))) fun (x233 : List ((Int)×((Int)×((List (Int))×(Unit))))) =>
 none
 else none
 else none
 else Z.bnd (Z.wrap .i64 (Z.add (Z.ofN (Z.len d0.2.1)) (Z.ofN (Z.len d0.2.2.2)))) fun (x234 : Int) =>
 if (Z.Bd x234 d0.1) then if (Z.Lt 0 d0.1) then Z.bnd (Z.wrap .i64 (Z.add d0.2.2.1 (Z.ofN (Z.len d0.2.2.2)))) fun (x239 : Int) =>
 if (Z.Bd x239 (Z.subN (Z.toN x234) 0)) then if (Z.Lt (Z.toN x239) (Z.subN d0.1 0)) then if (Z.EqN (Z.len d0.2.1) 0) then none
 else Z.bnd (Z.wrap .i64 (Z.add d0.2.2.1 (Z.ofN (Z.len d0.2.2.2)))) fun (x246 : Int) =>
 if (Z.Bd x246 (Z.subN (Z.toN x234) 0)) then if (Z.Lt (Z.toN x246) (Z.subN d0.1 0)) then if (Z.Bd d0.2.2.1 (Z.subN (Z.toN x234) 0)) then if (Z.Lt (Z.toN d0.2.2.1) (Z.subN d0.1 0)) then if (Z.Le (Z.addN (Z.addN (Z.addN 0 0) (Z.toN d0.2.2.1)) (Z.minN (Z.subN (Z.subN (Z.toN x234) 0) (Z.toN d0.2.2.1)) (Z.subN (Z.subN (Z.toN x234) 0) (Z.toN x246)))) (Z.len d0.2.1)) then if (Z.Le (Z.addN (Z.addN 0 0) (Z.toN x246)) (Z.len d0.2.1)) then if (Z.Bd d0.2.2.1 (Z.subN (Z.toN x234) 0)) then if (Z.Lt (Z.toN d0.2.2.1) (Z.subN d0.1 0)) then if (Z.Le (Z.addN 0 (Z.minN (Z.len d0.2.2.2) (Z.subN (Z.subN (Z.toN x234) 0) (Z.toN d0.2.2.1)))) (Z.len d0.2.2.2)) then if (Z.Le (Z.addN (Z.addN 0 0) (Z.toN d0.2.2.1)) (Z.len (Z.put d0.2.1 (Z.addN (Z.addN 0 0) (Z.toN x246)) (Z.seg d0.2.1 (Z.addN (Z.addN 0 0) (Z.toN d0.2.2.1)) (Z.minN (Z.subN (Z.subN (Z.toN x234) 0) (Z.toN d0.2.2.1)) (Z.subN (Z.subN (Z.toN x234) 0) (Z.toN x246))))))) then if (Z.Le (Z.addN (Z.addN 0 0) (Z.subN (Z.toN x234) 0)) (Z.len (Z.put (Z.put d0.2.1 (Z.addN (Z.addN 0 0) (Z.toN x246)) (Z.seg d0.2.1 (Z.addN (Z.addN 0 0) (Z.toN d0.2.2.1)) (Z.minN (Z.subN (Z.subN (Z.toN x234) 0) (Z.toN d0.2.2.1)) (Z.subN (Z.subN (Z.toN x234) 0) (Z.toN x246))))) (Z.addN (Z.addN 0 0) (Z.toN d0.2.2.1)) (Z.seg d0.2.2.2 0 (Z.minN (Z.len d0.2.2.2) (Z.subN (Z.subN (Z.toN x234) 0) (Z.toN d0.2.2.1))))))) then some (Z.seg (Z.put (Z.put d0.2.1 (Z.addN (Z.addN 0 0) (Z.toN x246)) (Z.seg d0.2.1 (Z.addN (Z.addN 0 0) (Z.toN d0.2.2.1)) (Z.minN (Z.subN (Z.subN (Z.toN x234) 0) (Z.toN d0.2.2.1)) (Z.subN (Z.subN (Z.toN x234) 0) (Z.toN x246))))) (Z.addN (Z.addN 0 0) (Z.toN d0.2.2.1)) (Z.seg d0.2.2.2 0 (Z.minN (Z.len d0.2.2.2) (Z.subN (Z.subN (Z.toN x234) 0) (Z.toN d0.2.2.1))))) (Z.addN 0 0) (Z.subN (Z.toN x234) 0))
 else none
 else none
 else none
 else none
 else none
 else none
 else none
 else none
 else none
 else if (Z.Bd d0.2.2.1 (Z.subN (Z.toN x234) 0)) then if (Z.Lt (Z.toN d0.2.2.1) (Z.subN d0.1 0)) then none
 else none
 else none
 else none
 else none
 else none
 else Z.bnd (Z.wrap .i64 (Z.add d0.2.2.1 (Z.ofN (Z.len d0.2.2.2)))) fun (x273 : Int) =>
 if (Z.Bd x273 (Z.len ([] : List ((Int)×((Int)×((List (Int))×(Unit))))))) then Z.bnd (Z.slice ([] : List ((Int)×((Int)×((List (Int))×(Unit))))) (Z.toN x273) (Z.len ([] : List ((Int)×((Int)×((List (Int))×(Unit))))))) fun (x276 : List ((Int)×((Int)×((List (Int))×(Unit))))) =>
 none
 else none
 else none)))
 else none
def zQi (d0 : (Int)×(List ((Int)×((Int)×((List (Int))×(Unit)))))) : Option (List ((Int)×((Int)×((List (Int))×(Unit))))) :=
 if (Z.Bd d0.1 (Z.len ([] : List ((Int)×((Int)×((List (Int))×(Unit))))))) then Z.bnd (Z.slice ([] : List ((Int)×((Int)×((List (Int))×(Unit))))) (Z.toN d0.1) (Z.len ([] : List ((Int)×((Int)×((List (Int))×(Unit))))))) fun (x3 : List ((Int)×((Int)×((List (Int))×(Unit))))) =>
 (bif (Z.ieq (Z.ofN (Z.len d0.2)) 0) then none
 else (bif (Z.ieq d0.1 (Z.ofN (Z.len ([] : List ((Int)×((Int)×((List (Int))×(Unit)))))))) then if (Z.Le (Z.addN 0 (Z.len d0.2)) (Z.len d0.2)) then if (Z.EqN (Z.len (Z.seg d0.2 0 (Z.len d0.2))) 0) then none
 else if (Z.Big (Z.len ([] : List ((Int)×((Int)×((List (Int))×(Unit)))))) (Z.len (Z.seg d0.2 0 (Z.len d0.2))) 40) then none
 else Z.bnd (Z.app ([] : List ((Int)×((Int)×((List (Int))×(Unit))))) (Z.seg d0.2 0 (Z.len d0.2))) fun (x10 : List ((Int)×((Int)×((List (Int))×(Unit))))) =>
 if (Z.Le (Z.addN 0 (Z.len x10)) (Z.len x10)) then some (Z.seg x10 0 (Z.len x10))
 else none
 else none
 else Z.bnd (Z.wrap .i64 (Z.add (Z.ofN (Z.len ([] : List ((Int)×((Int)×((List (Int))×(Unit))))))) (Z.ofN (Z.len d0.2)))) fun (x13 : Int) =>
 (bif (Z.igt x13 (Z.ofN (Z.len ([] : List ((Int)×((Int)×((List (Int))×(Unit)))))))) then if (Z.Bd d0.1 (Z.len ([] : List ((Int)×((Int)×((List (Int))×(Unit))))))) then Z.bnd (Z.slice ([] : List ((Int)×((Int)×((List (Int))×(Unit))))) 0 (Z.toN d0.1)) fun (x16 : List ((Int)×((Int)×((List (Int))×(Unit))))) =>
 Z.bnd (Z.wrap .i64 (Z.add (Z.ofN (Z.len ([] : List ((Int)×((Int)×((List (Int))×(Unit))))))) (Z.ofN (Z.len d0.2)))) fun (x17 : Int) =>
 Z.bnd (Z.wrap .i64 (Z.sub x17 d0.1)) fun (x18 : Int) =>
 none
 else none
 else Z.bnd (Z.wrap .i64 (Z.add (Z.ofN (Z.len ([] : List ((Int)×((Int)×((List (Int))×(Unit))))))) (Z.ofN (Z.len d0.2)))) fun (x19 : Int) =>
 if (Z.Bd x19 (Z.len ([] : List ((Int)×((Int)×((List (Int))×(Unit))))))) then Z.bnd (Z.slice ([] : List ((Int)×((Int)×((List (Int))×(Unit))))) 0 (Z.toN x19)) fun (x22 : List ((Int)×((Int)×((List (Int))×(Unit))))) =>
 Z.bnd (Z.wrap .i64 (Z.add d0.1 (Z.ofN (Z.len d0.2)))) fun (x23 : Int) =>
 if (Z.Bd x23 (Z.len x22)) then Z.bnd (Z.slice x22 (Z.toN x23) (Z.len x22)) fun (x26 : List ((Int)×((Int)×((List (Int))×(Unit))))) =>
 none
 else none
 else none)))
 else none
def xKd : List LSpec×List Nat:=([{ id:=2200,known:=true,toks:=[],items:=[.slot 3 (.sref 1000003 true (.pair (.int .i64) (.pair (.int .i64) (.pair (.list (.int .u8)) .unit)))), .vec 1000003 (.pair (.int .i64) (.pair (.int .i64) (.pair (.list (.int .u8)) .unit))), .slot 11 (.val (.int .i64))],junk:=[12,13,14,5,15,16,17,18,19,20],tails:=[] }],[1000000005])
def xKc : List LSpec×List Nat:=([],[1000000005])
def xKb : List LSpec×List Nat:=([],[3000000007,3000000009,3000000010,3000000011,3000000015,3000000016,3000000018])
def wW0 : Tab (List LSpec×List Nat):=(.node .leaf none (.node (.node (.node (.node (.node .leaf (some xKb) .leaf) none .leaf) none .leaf) none .leaf) none (.node .leaf none (.node (.node .leaf (some xKd) .leaf) none (.node .leaf (some xKc) .leaf)))))
def wW2 (f : Nat) : List LSpec×List Nat:=(wW0.get f).getD ([],[])
def xKa : List LSpec×List Nat:=([{ id:=2200,known:=true,toks:=[],items:=[.slot 3 (.sref 1000003 true (.pair (.int .i64) (.pair (.int .i64) (.pair (.list (.int .u8)) .unit)))), .vec 1000003 (.pair (.int .i64) (.pair (.int .i64) (.pair (.list (.int .u8)) .unit))), .slot 11 (.val (.int .i64))],junk:=[12,13,14,5,15,16,17,18,19,20],tails:=[] }],[1000000005])
def xZ9 : List LSpec×List Nat:=([],[1000000005])
def xZ8 : List LSpec×List Nat:=([],[7,9])
def wWz : Tab (List LSpec×List Nat):=(.node .leaf none (.node (.node (.node (.node (.node .leaf (some xZ8) .leaf) none .leaf) none .leaf) none .leaf) none (.node .leaf none (.node (.node .leaf (some xKa) .leaf) none (.node .leaf (some xZ9) .leaf)))))
def wW1 (f : Nat) : List LSpec×List Nat:=(wWz.get f).getD ([],[])
def zWr : MFn:={ elt:=(.pair (.int .i64) (.pair (.int .i64) (.pair (.list (.int .u8)) .unit))),args:=[(.int .i64)],fn:=fun k ds d vs=>zQj (k,(ds,(d,vs))),fn0:=fun d vs=>zQi (d,vs) }
theorem zXy : MvD Try.prog cfg 32 zWr:=fnMm (sp:=wW2) (sp0:=wW1) (own:=[]) (l:=[]) (lo:=[]) (lr:=[]) (lx:=[48]) (lm:=[]) zK3 zW7 .nil .nil .nil (.cons ov48 .nil) .nil (fun k ds d vs=>by kernel_rfl) (fun d vs=>by kernel_rfl)
def zJk (d0 : ((Int)×((Int)×((Int)×((Int)×(Unit)))))×((List ((Int)×((Int)×((List (Int))×(Unit)))))×(List ((Int)×((Int)×((List (Int))×(Unit))))))) : Option ((List ((Int)×((Int)×((List (Int))×(Unit)))))×(Int)) :=
 Z.bind (zXf ((d0.1.1,(d0.1.2.1,(d0.1.2.2.1,(d0.1.2.2.2.1,())))),d0.2.1)) fun (x1 : Int) =>
 (bif (Z.ine x1 0) then some (([] : List ((Int)×((Int)×((List (Int))×(Unit))))),x1)
 else if (Z.MkOk 0 (Z.ofN (Z.len d0.2.1)) 40) then Z.loop (fun (s4 : ((Nat)×((Nat)×(Nat)))×((List ((Int)×((Int)×((List (Int))×(Unit)))))×(Int))) k5 =>
 (bif (Z.ilt s4.2.2 (Z.ofN (Z.len d0.2.1))) then if (Z.Ix s4.2.2 (Z.len d0.2.1)) then Z.bnd (Z.get d0.2.1 (Z.toN s4.2.2) (0,(0,(([] : List (Int)),())))) fun (x8 : (Int)×((Int)×((List (Int))×(Unit)))) =>
 Z.bind (zW2 (x8.1,(x8.2.1,(x8.2.2.1,())))) fun (x9 : (Int)×((Int)×((List (Int))×(Unit)))) =>
 if (Z.Le (Z.addN 0 1) (Z.len ((x9.1,(x9.2.1,(x9.2.2.1,())))::([] : List ((Int)×((Int)×((List (Int))×(Unit)))))))) then if (Z.Le (Z.addN s4.1.1 s4.1.2.1) (Z.len s4.2.1)) then if (Z.Big (Z.len (Z.seg s4.2.1 s4.1.1 s4.1.2.1)) (Z.len (Z.seg ((x9.1,(x9.2.1,(x9.2.2.1,())))::([] : List ((Int)×((Int)×((List (Int))×(Unit)))))) 0 1)) 40) then none
 else if (Z.Le (Z.addN s4.1.2.1 (Z.len (Z.seg ((x9.1,(x9.2.1,(x9.2.2.1,())))::([] : List ((Int)×((Int)×((List (Int))×(Unit)))))) 0 1))) s4.1.2.2) then if (Z.Le (Z.addN s4.1.1 (Z.addN s4.1.2.1 (Z.len (Z.seg ((x9.1,(x9.2.1,(x9.2.2.1,())))::([] : List ((Int)×((Int)×((List (Int))×(Unit)))))) 0 1)))) (Z.len s4.2.1)) then Z.bnd (Z.put s4.2.1 (Z.addN s4.1.1 s4.1.2.1) (Z.seg ((x9.1,(x9.2.1,(x9.2.2.1,())))::([] : List ((Int)×((Int)×((List (Int))×(Unit)))))) 0 1)) fun (x20 : List ((Int)×((Int)×((List (Int))×(Unit))))) =>
 Z.bnd (Z.wrap .i64 (Z.add s4.2.2 1)) fun (x21 : Int) =>
 k5 ((s4.1.1,((Z.addN s4.1.2.1 (Z.len (Z.seg ((x9.1,(x9.2.1,(x9.2.2.1,())))::([] : List ((Int)×((Int)×((List (Int))×(Unit)))))) 0 1))),s4.1.2.2)),(x20,x21))
 else none
 else none
 else none
 else none
 else none
 else if (Z.Le (Z.addN s4.1.1 s4.1.2.1) (Z.len s4.2.1)) then Z.loop (fun (s24 : (MixE ((Int)×((Int)×((List (Int))×(Unit)))))×((List (List ((Int)×((Int)×((List (Int))×(Unit))))))×(Int))) k25 =>
 (bif (Z.ilt s24.2.2 (Z.ofN (Z.len d0.2.2))) then if (Z.Ix s24.2.2 (Z.len d0.2.2)) then Z.bnd (Z.get d0.2.2 (Z.toN s24.2.2) (0,(0,(([] : List (Int)),())))) fun (x28 : (Int)×((Int)×((List (Int))×(Unit)))) =>
 Z.loop (fun (s29 : (Int)×(Int)) k30 =>
 (bif (Z.ilt s29.1 s29.2) then Z.bnd (Z.wrap .i64 (Z.sub s29.2 s29.1)) fun (x31 : Int) =>
 if (Z.IsZ 2) then none
 else Z.bnd (Z.wrap .i64 (Z.tdiv x31 2)) fun (x34 : Int) =>
 Z.bnd (Z.wrap .i64 (Z.add s29.1 x34)) fun (x35 : Int) =>
 if (Z.Ix x35 (Z.xlen s24.1)) then if (Z.XPt s24.2.1 s24.1 (Z.toN x35)) then if (Z.XPt s24.2.1 s24.1 (Z.toN x35)) then Z.bnd (Z.xat s24.2.1 s24.1 (Z.toN x35) (0,(0,(([] : List (Int)),())))) fun (x42 : (Int)×((Int)×((List (Int))×(Unit)))) =>
 Z.bind (zXu (x42.1,(x42.2.1,(x42.2.2.1,())))) fun (x43 : Int) =>
 (bif (Z.ilt x43 x28.1) then Z.bnd (Z.wrap .i64 (Z.add x35 1)) fun (x44 : Int) =>
 k30 (x44,s29.2)
 else k30 (s29.1,x35))
 else none
 else none
 else none
 else (bif (Z.ilt s29.1 (Z.ofN (Z.xlen s24.1))) then if (Z.Ix s29.1 (Z.xlen s24.1)) then if (Z.XPt s24.2.1 s24.1 (Z.toN s29.1)) then if (Z.XPt s24.2.1 s24.1 (Z.toN s29.1)) then Z.bnd (Z.xat s24.2.1 s24.1 (Z.toN s29.1) (0,(0,(([] : List (Int)),())))) fun (x51 : (Int)×((Int)×((List (Int))×(Unit)))) =>
 Z.bind (zXu (x51.1,(x51.2.1,(x51.2.2.1,())))) fun (x52 : Int) =>
 (bif (Z.zWj true (Z.ieq x52 x28.1) false) then some (([] : List ((Int)×((Int)×((List (Int))×(Unit))))),8)
 else Z.bind (zZd ((d0.1.1,(d0.1.2.1,(d0.1.2.2.1,(d0.1.2.2.2.1,())))),(x28.1,(x28.2.1,(x28.2.2.1,()))))) fun (x53 : Int) =>
 (bif (Z.zWj false true (Z.ine x53 0)) then some (([] : List ((Int)×((Int)×((List (Int))×(Unit))))),8)
 else Z.bind (zW2 (x28.1,(x28.2.1,(x28.2.2.1,())))) fun (x54 : (Int)×((Int)×((List (Int))×(Unit)))) =>
 if (Z.XGr s24.2.1 s24.1) then if (Z.EqN (Z.len s24.2.1) 1) then if (Z.Le (Z.addN 0 1) (Z.len ((x54.1,(x54.2.1,(x54.2.2.1,())))::([] : List ((Int)×((Int)×((List (Int))×(Unit)))))))) then Z.bind (Z.yJw (Z.xlen s24.1) (fun (k61 : Nat)=>zQj (k61,((Z.xget s24.2.1 s24.1),(s29.1,(Z.seg ((x54.1,(x54.2.1,(x54.2.2.1,())))::([] : List ((Int)×((Int)×((List (Int))×(Unit)))))) 0 1))))) (zQi (s29.1,(Z.seg ((x54.1,(x54.2.1,(x54.2.2.1,())))::([] : List ((Int)×((Int)×((List (Int))×(Unit)))))) 0 1)))) fun (x62 : List ((Int)×((Int)×((List (Int))×(Unit))))) =>
 if (Z.Lt (Z.xlen s24.1) (Z.len x62)) then Z.bnd (Z.wrap .i64 (Z.add s24.2.2 1)) fun (x65 : Int) =>
 k25 ((Z.xnew (α:=(Int)×((Int)×((List (Int))×(Unit)))) 0 (Z.len x62)),((x62::([] : List (List ((Int)×((Int)×((List (Int))×(Unit))))))),x65))
 else none
 else none
 else none
 else none))
 else none
 else none
 else none
 else Z.bind (zZd ((d0.1.1,(d0.1.2.1,(d0.1.2.2.1,(d0.1.2.2.2.1,())))),(x28.1,(x28.2.1,(x28.2.2.1,()))))) fun (x66 : Int) =>
 (bif (Z.zWj false true (Z.ine x66 0)) then some (([] : List ((Int)×((Int)×((List (Int))×(Unit))))),8)
 else Z.bind (zW2 (x28.1,(x28.2.1,(x28.2.2.1,())))) fun (x67 : (Int)×((Int)×((List (Int))×(Unit)))) =>
 if (Z.XGr s24.2.1 s24.1) then if (Z.EqN (Z.len s24.2.1) 1) then if (Z.Le (Z.addN 0 1) (Z.len ((x67.1,(x67.2.1,(x67.2.2.1,())))::([] : List ((Int)×((Int)×((List (Int))×(Unit)))))))) then Z.bind (Z.yJw (Z.xlen s24.1) (fun (k74 : Nat)=>zQj (k74,((Z.xget s24.2.1 s24.1),(s29.1,(Z.seg ((x67.1,(x67.2.1,(x67.2.2.1,())))::([] : List ((Int)×((Int)×((List (Int))×(Unit)))))) 0 1))))) (zQi (s29.1,(Z.seg ((x67.1,(x67.2.1,(x67.2.2.1,())))::([] : List ((Int)×((Int)×((List (Int))×(Unit)))))) 0 1)))) fun (x75 : List ((Int)×((Int)×((List (Int))×(Unit))))) =>
 if (Z.Lt (Z.xlen s24.1) (Z.len x75)) then Z.bnd (Z.wrap .i64 (Z.add s24.2.2 1)) fun (x78 : Int) =>
 k25 ((Z.xnew (α:=(Int)×((Int)×((List (Int))×(Unit)))) 0 (Z.len x75)),((x75::([] : List (List ((Int)×((Int)×((List (Int))×(Unit))))))),x78))
 else none
 else none
 else none
 else none)))) (0,(Z.ofN (Z.xlen s24.1)))
 else none
 else if (Z.XOk s24.2.1 s24.1) then Z.bnd (Z.xget s24.2.1 s24.1) fun (x81 : List ((Int)×((Int)×((List (Int))×(Unit))))) =>
 some (x81,0)
 else none)) ((Z.xnew (α:=(Int)×((Int)×((List (Int))×(Unit)))) 0 s4.1.2.1),(((Z.seg s4.2.1 s4.1.1 s4.1.2.1)::([] : List (List ((Int)×((Int)×((List (Int))×(Unit))))))),0))
 else none)) ((0,((Z.toN 0),(Z.toN (Z.ofN (Z.len d0.2.1))))),((Z.rep (α:=(Int)×((Int)×((List (Int))×(Unit)))) (Z.toN (Z.ofN (Z.len d0.2.1))) (0,(0,(([] : List (Int)),())))),0))
 else none)
def yKx : PFn:={ args:=[(.pair (.int .i64) (.pair (.int .i64) (.pair (.int .i64) (.pair (.int .i64) .unit)))),(.list (.pair (.int .i64) (.pair (.int .i64) (.pair (.list (.int .u8)) .unit)))),(.list (.pair (.int .i64) (.pair (.int .i64) (.pair (.list (.int .u8)) .unit))))],res:=[(.list (.pair (.int .i64) (.pair (.int .i64) (.pair (.list (.int .u8)) .unit)))),(.int .i64)],fn:=zJk }
def vWo : List LSpec×List Nat:=([{ id:=2900,known:=true,toks:=[],items:=[.slot 6 (.val (.int .i64)), .slot 7 (.val (.int .i64))],junk:=[12,13,14,15,16,17,18,19,20,8,21,22,23,24,25,26,27,28,29,30,31,32,33],tails:=[] }],[])
def vWp : List LSpec×List Nat:=([{ id:=2200,known:=true,toks:=[],items:=[.slot 3 (.sref 1000003 true (.pair (.int .i64) (.pair (.int .i64) (.pair (.list (.int .u8)) .unit)))), .vec 1000003 (.pair (.int .i64) (.pair (.int .i64) (.pair (.list (.int .u8)) .unit))), .slot 11 (.val (.int .i64))],junk:=[12,13,14,5,15,16,17,18,19,20],tails:=[] }],[1000000005])
def vWn : List LSpec×List Nat:=([],[1000000005])
def vWm : List LSpec×List Nat:=([],[2000000007,2000000009])
def vWq : List LSpec×List Nat:=([{ id:=1000,known:=true,toks:=[(8000009,(.pair (.int .i64) (.pair (.int .i64) (.pair (.list (.int .u8)) .unit))))],items:=[.slot 9 (.val (.mix 1000009 (.pair (.int .i64) (.pair (.int .i64) (.pair (.list (.int .u8)) .unit))))), .rows 1000009 (.pair (.int .i64) (.pair (.int .i64) (.pair (.list (.int .u8)) .unit))), .slot 24 (.val (.int .i64))],junk:=[25,26,27,11,29,30,31,32,33,28,34,35,12,13,36,37,38,39,40,41,42,6,7,43,44,45,46,47,48,49],tails:=[] }],[])
def spt10 : Tab (List LSpec×List Nat):=(.node (.node .leaf none (.node .leaf none (.node .leaf none (.node .leaf (some vWo) .leaf)))) none (.node (.node (.node (.node (.node .leaf (some vWm) .leaf) none .leaf) none .leaf) none .leaf) none (.node (.node .leaf (some vWq) .leaf) none (.node (.node .leaf (some vWp) .leaf) none (.node .leaf (some vWn) .leaf)))))
def spf10 (f : Nat) : List LSpec×List Nat:=(spt10.get f).getD ([],[])
theorem xXy : zZt Try.prog cfg 10 yKx:=fnDm (sp:=spf10) (own:=[]) (l:=[(13,zZn),(33,zJ2),(46,zZ5),(31,zK7)]) (lo:=[]) (lr:=[]) (lx:=[48]) (lm:=[(32,zWr)]) zK3 zW7 (.cons zZ4 (.cons zYo (.cons zKs (.cons zJ1 .nil)))) .nil .nil (.cons ov48 .nil) (.cons zXy .nil) (fun d=>by kernel_rfl)
def zJj (d0 : ((Int)×((Int)×((Int)×((Int)×(Unit)))))×((List ((Int)×((Int)×((List (Int))×(Unit)))))×((Int)×((Int)×((List (Int))×(Unit)))))) : Option ((List ((Int)×((Int)×((List (Int))×(Unit)))))×(Int)) :=
 Z.bind (zXf ((d0.1.1,(d0.1.2.1,(d0.1.2.2.1,(d0.1.2.2.2.1,())))),d0.2.1)) fun (x1 : Int) =>
 (bif (Z.ine x1 0) then some (([] : List ((Int)×((Int)×((List (Int))×(Unit))))),x1)
 else Z.bind (zZd ((d0.1.1,(d0.1.2.1,(d0.1.2.2.1,(d0.1.2.2.2.1,())))),(d0.2.2.1,(d0.2.2.2.1,(d0.2.2.2.2.1,()))))) fun (x2 : Int) =>
 (bif (Z.ine x2 0) then some (([] : List ((Int)×((Int)×((List (Int))×(Unit))))),x2)
 else if (Z.MkOk 0 (Z.ofN (Z.len d0.2.1)) 40) then Z.loop (fun (s5 : ((Nat)×((Nat)×(Nat)))×((List ((Int)×((Int)×((List (Int))×(Unit)))))×(Int))) k6 =>
 (bif (Z.ilt s5.2.2 (Z.ofN (Z.len d0.2.1))) then if (Z.Ix s5.2.2 (Z.len d0.2.1)) then Z.bnd (Z.get d0.2.1 (Z.toN s5.2.2) (0,(0,(([] : List (Int)),())))) fun (x9 : (Int)×((Int)×((List (Int))×(Unit)))) =>
 Z.bind (zW2 (x9.1,(x9.2.1,(x9.2.2.1,())))) fun (x10 : (Int)×((Int)×((List (Int))×(Unit)))) =>
 if (Z.Le (Z.addN 0 1) (Z.len ((x10.1,(x10.2.1,(x10.2.2.1,())))::([] : List ((Int)×((Int)×((List (Int))×(Unit)))))))) then if (Z.Le (Z.addN s5.1.1 s5.1.2.1) (Z.len s5.2.1)) then if (Z.Big (Z.len (Z.seg s5.2.1 s5.1.1 s5.1.2.1)) (Z.len (Z.seg ((x10.1,(x10.2.1,(x10.2.2.1,())))::([] : List ((Int)×((Int)×((List (Int))×(Unit)))))) 0 1)) 40) then none
 else if (Z.Le (Z.addN s5.1.2.1 (Z.len (Z.seg ((x10.1,(x10.2.1,(x10.2.2.1,())))::([] : List ((Int)×((Int)×((List (Int))×(Unit)))))) 0 1))) s5.1.2.2) then if (Z.Le (Z.addN s5.1.1 (Z.addN s5.1.2.1 (Z.len (Z.seg ((x10.1,(x10.2.1,(x10.2.2.1,())))::([] : List ((Int)×((Int)×((List (Int))×(Unit)))))) 0 1)))) (Z.len s5.2.1)) then Z.bnd (Z.put s5.2.1 (Z.addN s5.1.1 s5.1.2.1) (Z.seg ((x10.1,(x10.2.1,(x10.2.2.1,())))::([] : List ((Int)×((Int)×((List (Int))×(Unit)))))) 0 1)) fun (x21 : List ((Int)×((Int)×((List (Int))×(Unit))))) =>
 Z.bnd (Z.wrap .i64 (Z.add s5.2.2 1)) fun (x22 : Int) =>
 k6 ((s5.1.1,((Z.addN s5.1.2.1 (Z.len (Z.seg ((x10.1,(x10.2.1,(x10.2.2.1,())))::([] : List ((Int)×((Int)×((List (Int))×(Unit)))))) 0 1))),s5.1.2.2)),(x21,x22))
 else none
 else none
 else none
 else none
 else none
 else Z.loop (fun (s23 : (Int)×(Int)) k24 =>
 (bif (Z.ilt s23.1 s23.2) then Z.bnd (Z.wrap .i64 (Z.sub s23.2 s23.1)) fun (x25 : Int) =>
 if (Z.IsZ 2) then none
 else Z.bnd (Z.wrap .i64 (Z.tdiv x25 2)) fun (x28 : Int) =>
 Z.bnd (Z.wrap .i64 (Z.add s23.1 x28)) fun (x29 : Int) =>
 if (Z.In x29 s5.1.2.1) then if (Z.Lt (Z.addN s5.1.1 (Z.toN x29)) (Z.len s5.2.1)) then Z.bnd (Z.get s5.2.1 (Z.addN s5.1.1 (Z.toN x29)) (0,(0,(([] : List (Int)),())))) fun (x34 : (Int)×((Int)×((List (Int))×(Unit)))) =>
 Z.bind (zXu (x34.1,(x34.2.1,(x34.2.2.1,())))) fun (x35 : Int) =>
 (bif (Z.ilt x35 d0.2.2.1) then Z.bnd (Z.wrap .i64 (Z.add x29 1)) fun (x36 : Int) =>
 k24 (x36,s23.2)
 else k24 (s23.1,x29))
 else none
 else none
 else (bif (Z.ilt s23.1 (Z.ofN s5.1.2.1)) then if (Z.In s23.1 s5.1.2.1) then if (Z.Lt (Z.addN s5.1.1 (Z.toN s23.1)) (Z.len s5.2.1)) then Z.bnd (Z.get s5.2.1 (Z.addN s5.1.1 (Z.toN s23.1)) (0,(0,(([] : List (Int)),())))) fun (x41 : (Int)×((Int)×((List (Int))×(Unit)))) =>
 Z.bind (zXu (x41.1,(x41.2.1,(x41.2.2.1,())))) fun (x42 : Int) =>
 (bif (Z.zWj true (Z.ieq x42 d0.2.2.1) false) then Z.bind (zW2 (d0.2.2.1,(d0.2.2.2.1,(d0.2.2.2.2.1,())))) fun (x43 : (Int)×((Int)×((List (Int))×(Unit)))) =>
 if (Z.In s23.1 s5.1.2.1) then if (Z.Lt (Z.addN s5.1.1 (Z.toN s23.1)) (Z.len s5.2.1)) then Z.bnd (Z.set s5.2.1 (Z.addN s5.1.1 (Z.toN s23.1)) (x43.1,(x43.2.1,(x43.2.2.1,())))) fun (x48 : List ((Int)×((Int)×((List (Int))×(Unit))))) =>
 if (Z.Le (Z.addN s5.1.1 s5.1.2.1) (Z.len x48)) then some ((Z.seg x48 s5.1.1 s5.1.2.1),0)
 else none
 else none
 else none
 else Z.bind (zW2 (d0.2.2.1,(d0.2.2.2.1,(d0.2.2.2.2.1,())))) fun (x51 : (Int)×((Int)×((List (Int))×(Unit)))) =>
 if (Z.Bd s23.1 s5.1.2.1) then if (Z.Lt (Z.toN s23.1) s5.1.2.2) then (bif (Z.ieq (Z.ofN 1) 0) then if (Z.Le (Z.addN s5.1.1 s5.1.2.1) (Z.len s5.2.1)) then some ((Z.seg s5.2.1 s5.1.1 s5.1.2.1),0)
 else none
 else (bif (Z.ieq s23.1 (Z.ofN s5.1.2.1)) then if (Z.Le (Z.addN 0 1) (Z.len ((x51.1,(x51.2.1,(x51.2.2.1,())))::([] : List ((Int)×((Int)×((List (Int))×(Unit)))))))) then if (Z.Le (Z.addN s5.1.1 s5.1.2.1) (Z.len s5.2.1)) then if (Z.Big (Z.len (Z.seg s5.2.1 s5.1.1 s5.1.2.1)) (Z.len (Z.seg ((x51.1,(x51.2.1,(x51.2.2.1,())))::([] : List ((Int)×((Int)×((List (Int))×(Unit)))))) 0 1)) 40) then none
 else if (Z.Le (Z.addN s5.1.2.1 (Z.len (Z.seg ((x51.1,(x51.2.1,(x51.2.2.1,())))::([] : List ((Int)×((Int)×((List (Int))×(Unit)))))) 0 1))) s5.1.2.2) then none
 else Z.bnd (Z.app (Z.seg s5.2.1 s5.1.1 s5.1.2.1) (Z.seg ((x51.1,(x51.2.1,(x51.2.2.1,())))::([] : List ((Int)×((Int)×((List (Int))×(Unit)))))) 0 1)) fun (x66 : List ((Int)×((Int)×((List (Int))×(Unit))))) =>
 if (Z.Le (Z.addN 0 (Z.len x66)) (Z.len x66)) then some ((Z.seg x66 0 (Z.len x66)),0)
 else none
 else none
 else none
 else Z.bnd (Z.wrap .i64 (Z.add (Z.ofN s5.1.2.1) (Z.ofN 1))) fun (x69 : Int) =>
 (bif (Z.igt x69 (Z.ofN s5.1.2.2)) then if (Z.Bd s23.1 s5.1.2.2) then if (Z.Lt 0 s5.1.2.2) then Z.bnd (Z.wrap .i64 (Z.add (Z.ofN s5.1.2.1) (Z.ofN 1))) fun (x74 : Int) =>
 Z.bnd (Z.wrap .i64 (Z.sub x74 s23.1)) fun (x75 : Int) =>
 if (Z.ZOk x75 40) then Z.bnd (Z.rep (α:=(Int)×((Int)×((List (Int))×(Unit)))) (Z.toN x75) (0,(0,(([] : List (Int)),())))) fun (x78 : List ((Int)×((Int)×((List (Int))×(Unit))))) =>
 if (Z.Le (Z.addN (Z.addN s5.1.1 0) (Z.subN (Z.toN s23.1) 0)) (Z.len s5.2.1)) then if (Z.Big (Z.len (Z.seg s5.2.1 (Z.addN s5.1.1 0) (Z.subN (Z.toN s23.1) 0))) (Z.len x78) 40) then none
 else if (Z.Le (Z.addN (Z.subN (Z.toN s23.1) 0) (Z.len x78)) (Z.subN s5.1.2.2 0)) then none
 else Z.bnd (Z.app (Z.seg s5.2.1 (Z.addN s5.1.1 0) (Z.subN (Z.toN s23.1) 0)) x78) fun (x85 : List ((Int)×((Int)×((List (Int))×(Unit))))) =>
 if (Z.Bd s23.1 (Z.len x85)) then if (Z.Lt (Z.toN s23.1) (Z.len x85)) then if (Z.Le (Z.addN 0 1) (Z.len ((x51.1,(x51.2.1,(x51.2.2.1,())))::([] : List ((Int)×((Int)×((List (Int))×(Unit)))))))) then if (Z.Le (Z.addN (Z.addN 0 (Z.toN s23.1)) (Z.subN (Z.len x85) (Z.toN s23.1))) (Z.len x85)) then Z.bnd (Z.wrap .i64 (Z.add s23.1 (Z.ofN 1))) fun (x94 : Int) =>
 if (Z.Bd x94 (Z.len x85)) then if (Z.Lt (Z.toN x94) (Z.len x85)) then if (Z.Bd s23.1 s5.1.2.1) then if (Z.Lt (Z.toN s23.1) s5.1.2.2) then if (Z.Le (Z.addN (Z.addN s5.1.1 (Z.toN s23.1)) (Z.subN s5.1.2.1 (Z.toN s23.1))) (Z.len s5.2.1)) then if (Z.Le (Z.addN (Z.addN 0 (Z.toN x94)) (Z.subN (Z.len x85) (Z.toN x94))) (Z.len (Z.put x85 (Z.addN 0 (Z.toN s23.1)) (Z.take (Z.minN (Z.len (Z.seg ((x51.1,(x51.2.1,(x51.2.2.1,())))::([] : List ((Int)×((Int)×((List (Int))×(Unit)))))) 0 1)) (Z.subN (Z.len x85) (Z.toN s23.1))) (Z.seg ((x51.1,(x51.2.1,(x51.2.2.1,())))::([] : List ((Int)×((Int)×((List (Int))×(Unit)))))) 0 1))))) then if (Z.Le (Z.addN 0 (Z.len x85)) (Z.len (Z.put (Z.put x85 (Z.addN 0 (Z.toN s23.1)) (Z.take (Z.minN (Z.len (Z.seg ((x51.1,(x51.2.1,(x51.2.2.1,())))::([] : List ((Int)×((Int)×((List (Int))×(Unit)))))) 0 1)) (Z.subN (Z.len x85) (Z.toN s23.1))) (Z.seg ((x51.1,(x51.2.1,(x51.2.2.1,())))::([] : List ((Int)×((Int)×((List (Int))×(Unit)))))) 0 1))) (Z.addN 0 (Z.toN x94)) (Z.take (Z.minN (Z.len (Z.seg s5.2.1 (Z.addN s5.1.1 (Z.toN s23.1)) (Z.subN s5.1.2.1 (Z.toN s23.1)))) (Z.subN (Z.len x85) (Z.toN x94))) (Z.seg s5.2.1 (Z.addN s5.1.1 (Z.toN s23.1)) (Z.subN s5.1.2.1 (Z.toN s23.1))))))) then some ((Z.seg (Z.put (Z.put x85 (Z.addN 0 (Z.toN s23.1)) (Z.take (Z.minN (Z.len (Z.seg ((x51.1,(x51.2.1,(x51.2.2.1,())))::([] : List ((Int)×((Int)×((List (Int))×(Unit)))))) 0 1)) (Z.subN (Z.len x85) (Z.toN s23.1))) (Z.seg ((x51.1,(x51.2.1,(x51.2.2.1,())))::([] : List ((Int)×((Int)×((List (Int))×(Unit)))))) 0 1))) (Z.addN 0 (Z.toN x94)) (Z.take (Z.minN (Z.len (Z.seg s5.2.1 (Z.addN s5.1.1 (Z.toN s23.1)) (Z.subN s5.1.2.1 (Z.toN s23.1)))) (Z.subN (Z.len x85) (Z.toN x94))) (Z.seg s5.2.1 (Z.addN s5.1.1 (Z.toN s23.1)) (Z.subN s5.1.2.1 (Z.toN s23.1))))) 0 (Z.len x85)),0)
 else none
 else none
 else none
 else if (Z.Le (Z.addN (Z.addN 0 (Z.toN x94)) (Z.subN (Z.len x85) (Z.toN x94))) (Z.len (Z.put x85 (Z.addN 0 (Z.toN s23.1)) (Z.take (Z.minN (Z.len (Z.seg ((x51.1,(x51.2.1,(x51.2.2.1,())))::([] : List ((Int)×((Int)×((List (Int))×(Unit)))))) 0 1)) (Z.subN (Z.len x85) (Z.toN s23.1))) (Z.seg ((x51.1,(x51.2.1,(x51.2.2.1,())))::([] : List ((Int)×((Int)×((List (Int))×(Unit)))))) 0 1))))) then if (Z.Le (Z.addN 0 (Z.len x85)) (Z.len (Z.put (Z.put x85 (Z.addN 0 (Z.toN s23.1)) (Z.take (Z.minN (Z.len (Z.seg ((x51.1,(x51.2.1,(x51.2.2.1,())))::([] : List ((Int)×((Int)×((List (Int))×(Unit)))))) 0 1)) (Z.subN (Z.len x85) (Z.toN s23.1))) (Z.seg ((x51.1,(x51.2.1,(x51.2.2.1,())))::([] : List ((Int)×((Int)×((List (Int))×(Unit)))))) 0 1))) (Z.addN 0 (Z.toN x94)) (Z.take (Z.minN (Z.len ([] : List ((Int)×((Int)×((List (Int))×(Unit)))))) (Z.subN (Z.len x85) (Z.toN x94))) ([] : List ((Int)×((Int)×((List (Int))×(Unit))))))))) then some ((Z.seg (Z.put (Z.put x85 (Z.addN 0 (Z.toN s23.1)) (Z.take (Z.minN (Z.len (Z.seg ((x51.1,(x51.2.1,(x51.2.2.1,())))::([] : List ((Int)×((Int)×((List (Int))×(Unit)))))) 0 1)) (Z.subN (Z.len x85) (Z.toN s23.1))) (Z.seg ((x51.1,(x51.2.1,(x51.2.2.1,())))::([] : List ((Int)×((Int)×((List (Int))×(Unit)))))) 0 1))) (Z.addN 0 (Z.toN x94)) (Z.take (Z.minN (Z.len ([] : List ((Int)×((Int)×((List (Int))×(Unit)))))) (Z.subN (Z.len x85) (Z.toN x94))) ([] : List ((Int)×((Int)×((List (Int))×(Unit))))))) 0 (Z.len x85)),0)
 else none
 else none
 else none
 else if (Z.Bd s23.1 s5.1.2.1) then if (Z.Lt (Z.toN s23.1) s5.1.2.2) then if (Z.Le (Z.addN (Z.addN s5.1.1 (Z.toN s23.1)) (Z.subN s5.1.2.1 (Z.toN s23.1))) (Z.len s5.2.1)) then none
 else none
 else none
 else none
 else none
 else none
 else none
 else if (Z.Le (Z.addN 0 1) (Z.len ((x51.1,(x51.2.1,(x51.2.2.1,())))::([] : List ((Int)×((Int)×((List (Int))×(Unit)))))))) then none
 else none
 else none
 else none
 else none
 else Z.bnd (Z.wrap .i64 (Z.add (Z.ofN s5.1.2.1) (Z.ofN 1))) fun (x121 : Int) =>
 Z.bnd (Z.wrap .i64 (Z.sub x121 s23.1)) fun (x122 : Int) =>
 if (Z.ZOk x122 40) then Z.bnd (Z.rep (α:=(Int)×((Int)×((List (Int))×(Unit)))) (Z.toN x122) (0,(0,(([] : List (Int)),())))) fun (x125 : List ((Int)×((Int)×((List (Int))×(Unit))))) =>
 none
 else none
 else none
 else Z.bnd (Z.wrap .i64 (Z.add (Z.ofN s5.1.2.1) (Z.ofN 1))) fun (x126 : Int) =>
 if (Z.Bd x126 s5.1.2.2) then if (Z.Lt 0 s5.1.2.2) then Z.bnd (Z.wrap .i64 (Z.add s23.1 (Z.ofN 1))) fun (x131 : Int) =>
 if (Z.Bd x131 (Z.subN (Z.toN x126) 0)) then if (Z.Lt (Z.toN x131) (Z.subN s5.1.2.2 0)) then none
 else none
 else none
 else Z.bnd (Z.wrap .i64 (Z.add s23.1 (Z.ofN 1))) fun (x136 : Int) =>
 if (Z.Bd x136 (Z.len ([] : List ((Int)×((Int)×((List (Int))×(Unit))))))) then Z.bnd (Z.slice ([] : List ((Int)×((Int)×((List (Int))×(Unit))))) (Z.toN x136) (Z.len ([] : List ((Int)×((Int)×((List (Int))×(Unit))))))) fun (x139 : List ((Int)×((Int)×((List (Int))×(Unit))))) =>
 none
 else none
 else none)))
 else (bif (Z.ieq (Z.ofN 1) 0) then if (Z.Le (Z.addN s5.1.1 s5.1.2.1) (Z.len s5.2.1)) then some ((Z.seg s5.2.1 s5.1.1 s5.1.2.1),0)
 else none
 else (bif (Z.ieq s23.1 (Z.ofN s5.1.2.1)) then if (Z.Le (Z.addN 0 1) (Z.len ((x51.1,(x51.2.1,(x51.2.2.1,())))::([] : List ((Int)×((Int)×((List (Int))×(Unit)))))))) then if (Z.Le (Z.addN s5.1.1 s5.1.2.1) (Z.len s5.2.1)) then if (Z.Big (Z.len (Z.seg s5.2.1 s5.1.1 s5.1.2.1)) (Z.len (Z.seg ((x51.1,(x51.2.1,(x51.2.2.1,())))::([] : List ((Int)×((Int)×((List (Int))×(Unit)))))) 0 1)) 40) then none
 else if (Z.Le (Z.addN s5.1.2.1 (Z.len (Z.seg ((x51.1,(x51.2.1,(x51.2.2.1,())))::([] : List ((Int)×((Int)×((List (Int))×(Unit)))))) 0 1))) s5.1.2.2) then none
 else Z.bnd (Z.app (Z.seg s5.2.1 s5.1.1 s5.1.2.1) (Z.seg ((x51.1,(x51.2.1,(x51.2.2.1,())))::([] : List ((Int)×((Int)×((List (Int))×(Unit)))))) 0 1)) fun (x150 : List ((Int)×((Int)×((List (Int))×(Unit))))) =>
 if (Z.Le (Z.addN 0 (Z.len x150)) (Z.len x150)) then some ((Z.seg x150 0 (Z.len x150)),0)
 else none
 else none
 else none
 else Z.bnd (Z.wrap .i64 (Z.add (Z.ofN s5.1.2.1) (Z.ofN 1))) fun (x153 : Int) =>
 (bif (Z.igt x153 (Z.ofN s5.1.2.2)) then if (Z.Bd s23.1 s5.1.2.2) then if (Z.Lt 0 s5.1.2.2) then Z.bnd (Z.wrap .i64 (Z.add (Z.ofN s5.1.2.1) (Z.ofN 1))) fun (x158 : Int) =>
 Z.bnd (Z.wrap .i64 (Z.sub x158 s23.1)) fun (x159 : Int) =>
 if (Z.ZOk x159 40) then Z.bnd (Z.rep (α:=(Int)×((Int)×((List (Int))×(Unit)))) (Z.toN x159) (0,(0,(([] : List (Int)),())))) fun (x162 : List ((Int)×((Int)×((List (Int))×(Unit))))) =>
 if (Z.Le (Z.addN (Z.addN s5.1.1 0) (Z.subN (Z.toN s23.1) 0)) (Z.len s5.2.1)) then if (Z.Big (Z.len (Z.seg s5.2.1 (Z.addN s5.1.1 0) (Z.subN (Z.toN s23.1) 0))) (Z.len x162) 40) then none
 else if (Z.Le (Z.addN (Z.subN (Z.toN s23.1) 0) (Z.len x162)) (Z.subN s5.1.2.2 0)) then none
 else Z.bnd (Z.app (Z.seg s5.2.1 (Z.addN s5.1.1 0) (Z.subN (Z.toN s23.1) 0)) x162) fun (x169 : List ((Int)×((Int)×((List (Int))×(Unit))))) =>
 if (Z.Bd s23.1 (Z.len x169)) then if (Z.Lt (Z.toN s23.1) (Z.len x169)) then if (Z.Le (Z.addN 0 1) (Z.len ((x51.1,(x51.2.1,(x51.2.2.1,())))::([] : List ((Int)×((Int)×((List (Int))×(Unit)))))))) then if (Z.Le (Z.addN (Z.addN 0 (Z.toN s23.1)) (Z.subN (Z.len x169) (Z.toN s23.1))) (Z.len x169)) then Z.bnd (Z.wrap .i64 (Z.add s23.1 (Z.ofN 1))) fun (x178 : Int) =>
 if (Z.Bd x178 (Z.len x169)) then if (Z.Lt (Z.toN x178) (Z.len x169)) then if (Z.Bd s23.1 s5.1.2.1) then if (Z.Lt (Z.toN s23.1) s5.1.2.2) then if (Z.Le (Z.addN (Z.addN s5.1.1 (Z.toN s23.1)) (Z.subN s5.1.2.1 (Z.toN s23.1))) (Z.len s5.2.1)) then if (Z.Le (Z.addN (Z.addN 0 (Z.toN x178)) (Z.subN (Z.len x169) (Z.toN x178))) (Z.len (Z.put x169 (Z.addN 0 (Z.toN s23.1)) (Z.take (Z.minN (Z.len (Z.seg ((x51.1,(x51.2.1,(x51.2.2.1,())))::([] : List ((Int)×((Int)×((List (Int))×(Unit)))))) 0 1)) (Z.subN (Z.len x169) (Z.toN s23.1))) (Z.seg ((x51.1,(x51.2.1,(x51.2.2.1,())))::([] : List ((Int)×((Int)×((List (Int))×(Unit)))))) 0 1))))) then if (Z.Le (Z.addN 0 (Z.len x169)) (Z.len (Z.put (Z.put x169 (Z.addN 0 (Z.toN s23.1)) (Z.take (Z.minN (Z.len (Z.seg ((x51.1,(x51.2.1,(x51.2.2.1,())))::([] : List ((Int)×((Int)×((List (Int))×(Unit)))))) 0 1)) (Z.subN (Z.len x169) (Z.toN s23.1))) (Z.seg ((x51.1,(x51.2.1,(x51.2.2.1,())))::([] : List ((Int)×((Int)×((List (Int))×(Unit)))))) 0 1))) (Z.addN 0 (Z.toN x178)) (Z.take (Z.minN (Z.len (Z.seg s5.2.1 (Z.addN s5.1.1 (Z.toN s23.1)) (Z.subN s5.1.2.1 (Z.toN s23.1)))) (Z.subN (Z.len x169) (Z.toN x178))) (Z.seg s5.2.1 (Z.addN s5.1.1 (Z.toN s23.1)) (Z.subN s5.1.2.1 (Z.toN s23.1))))))) then some ((Z.seg (Z.put (Z.put x169 (Z.addN 0 (Z.toN s23.1)) (Z.take (Z.minN (Z.len (Z.seg ((x51.1,(x51.2.1,(x51.2.2.1,())))::([] : List ((Int)×((Int)×((List (Int))×(Unit)))))) 0 1)) (Z.subN (Z.len x169) (Z.toN s23.1))) (Z.seg ((x51.1,(x51.2.1,(x51.2.2.1,())))::([] : List ((Int)×((Int)×((List (Int))×(Unit)))))) 0 1))) (Z.addN 0 (Z.toN x178)) (Z.take (Z.minN (Z.len (Z.seg s5.2.1 (Z.addN s5.1.1 (Z.toN s23.1)) (Z.subN s5.1.2.1 (Z.toN s23.1)))) (Z.subN (Z.len x169) (Z.toN x178))) (Z.seg s5.2.1 (Z.addN s5.1.1 (Z.toN s23.1)) (Z.subN s5.1.2.1 (Z.toN s23.1))))) 0 (Z.len x169)),0)
 else none
 else none
 else none
 else if (Z.Le (Z.addN (Z.addN 0 (Z.toN x178)) (Z.subN (Z.len x169) (Z.toN x178))) (Z.len (Z.put x169 (Z.addN 0 (Z.toN s23.1)) (Z.take (Z.minN (Z.len (Z.seg ((x51.1,(x51.2.1,(x51.2.2.1,())))::([] : List ((Int)×((Int)×((List (Int))×(Unit)))))) 0 1)) (Z.subN (Z.len x169) (Z.toN s23.1))) (Z.seg ((x51.1,(x51.2.1,(x51.2.2.1,())))::([] : List ((Int)×((Int)×((List (Int))×(Unit)))))) 0 1))))) then if (Z.Le (Z.addN 0 (Z.len x169)) (Z.len (Z.put (Z.put x169 (Z.addN 0 (Z.toN s23.1)) (Z.take (Z.minN (Z.len (Z.seg ((x51.1,(x51.2.1,(x51.2.2.1,())))::([] : List ((Int)×((Int)×((List (Int))×(Unit)))))) 0 1)) (Z.subN (Z.len x169) (Z.toN s23.1))) (Z.seg ((x51.1,(x51.2.1,(x51.2.2.1,())))::([] : List ((Int)×((Int)×((List (Int))×(Unit)))))) 0 1))) (Z.addN 0 (Z.toN x178)) (Z.take (Z.minN (Z.len ([] : List ((Int)×((Int)×((List (Int))×(Unit)))))) (Z.subN (Z.len x169) (Z.toN x178))) ([] : List ((Int)×((Int)×((List (Int))×(Unit))))))))) then some ((Z.seg (Z.put (Z.put x169 (Z.addN 0 (Z.toN s23.1)) (Z.take (Z.minN (Z.len (Z.seg ((x51.1,(x51.2.1,(x51.2.2.1,())))::([] : List ((Int)×((Int)×((List (Int))×(Unit)))))) 0 1)) (Z.subN (Z.len x169) (Z.toN s23.1))) (Z.seg ((x51.1,(x51.2.1,(x51.2.2.1,())))::([] : List ((Int)×((Int)×((List (Int))×(Unit)))))) 0 1))) (Z.addN 0 (Z.toN x178)) (Z.take (Z.minN (Z.len ([] : List ((Int)×((Int)×((List (Int))×(Unit)))))) (Z.subN (Z.len x169) (Z.toN x178))) ([] : List ((Int)×((Int)×((List (Int))×(Unit))))))) 0 (Z.len x169)),0)
 else none
 else none
 else none
 else if (Z.Bd s23.1 s5.1.2.1) then if (Z.Lt (Z.toN s23.1) s5.1.2.2) then if (Z.Le (Z.addN (Z.addN s5.1.1 (Z.toN s23.1)) (Z.subN s5.1.2.1 (Z.toN s23.1))) (Z.len s5.2.1)) then none
 else none
 else none
 else none
 else none
 else none
 else none
 else if (Z.Le (Z.addN 0 1) (Z.len ((x51.1,(x51.2.1,(x51.2.2.1,())))::([] : List ((Int)×((Int)×((List (Int))×(Unit)))))))) then none
 else none
 else none
 else none
 else none
 else Z.bnd (Z.wrap .i64 (Z.add (Z.ofN s5.1.2.1) (Z.ofN 1))) fun (x205 : Int) =>
 Z.bnd (Z.wrap .i64 (Z.sub x205 s23.1)) fun (x206 : Int) =>
 if (Z.ZOk x206 40) then Z.bnd (Z.rep (α:=(Int)×((Int)×((List (Int))×(Unit)))) (Z.toN x206) (0,(0,(([] : List (Int)),())))) fun (x209 : List ((Int)×((Int)×((List (Int))×(Unit))))) =>
 none
 else none
 else none
 else Z.bnd (Z.wrap .i64 (Z.add (Z.ofN s5.1.2.1) (Z.ofN 1))) fun (x210 : Int) =>
 if (Z.Bd x210 s5.1.2.2) then if (Z.Lt 0 s5.1.2.2) then Z.bnd (Z.wrap .i64 (Z.add s23.1 (Z.ofN 1))) fun (x215 : Int) =>
 if (Z.Bd x215 (Z.subN (Z.toN x210) 0)) then if (Z.Lt (Z.toN x215) (Z.subN s5.1.2.2 0)) then none
 else none
 else none
 else Z.bnd (Z.wrap .i64 (Z.add s23.1 (Z.ofN 1))) fun (x220 : Int) =>
 if (Z.Bd x220 (Z.len ([] : List ((Int)×((Int)×((List (Int))×(Unit))))))) then Z.bnd (Z.slice ([] : List ((Int)×((Int)×((List (Int))×(Unit))))) (Z.toN x220) (Z.len ([] : List ((Int)×((Int)×((List (Int))×(Unit))))))) fun (x223 : List ((Int)×((Int)×((List (Int))×(Unit))))) =>
 none
 else none
 else none)))
 else none)
 else none
 else none
 else Z.bind (zW2 (d0.2.2.1,(d0.2.2.2.1,(d0.2.2.2.2.1,())))) fun (x224 : (Int)×((Int)×((List (Int))×(Unit)))) =>
 if (Z.Bd s23.1 s5.1.2.1) then if (Z.Lt (Z.toN s23.1) s5.1.2.2) then (bif (Z.ieq (Z.ofN 1) 0) then if (Z.Le (Z.addN s5.1.1 s5.1.2.1) (Z.len s5.2.1)) then some ((Z.seg s5.2.1 s5.1.1 s5.1.2.1),0)
 else none
 else (bif (Z.ieq s23.1 (Z.ofN s5.1.2.1)) then if (Z.Le (Z.addN 0 1) (Z.len ((x224.1,(x224.2.1,(x224.2.2.1,())))::([] : List ((Int)×((Int)×((List (Int))×(Unit)))))))) then if (Z.Le (Z.addN s5.1.1 s5.1.2.1) (Z.len s5.2.1)) then if (Z.Big (Z.len (Z.seg s5.2.1 s5.1.1 s5.1.2.1)) (Z.len (Z.seg ((x224.1,(x224.2.1,(x224.2.2.1,())))::([] : List ((Int)×((Int)×((List (Int))×(Unit)))))) 0 1)) 40) then none
 else if (Z.Le (Z.addN s5.1.2.1 (Z.len (Z.seg ((x224.1,(x224.2.1,(x224.2.2.1,())))::([] : List ((Int)×((Int)×((List (Int))×(Unit)))))) 0 1))) s5.1.2.2) then none
 else Z.bnd (Z.app (Z.seg s5.2.1 s5.1.1 s5.1.2.1) (Z.seg ((x224.1,(x224.2.1,(x224.2.2.1,())))::([] : List ((Int)×((Int)×((List (Int))×(Unit)))))) 0 1)) fun (x239 : List ((Int)×((Int)×((List (Int))×(Unit))))) =>
 if (Z.Le (Z.addN 0 (Z.len x239)) (Z.len x239)) then some ((Z.seg x239 0 (Z.len x239)),0)
 else none
 else none
 else none
 else Z.bnd (Z.wrap .i64 (Z.add (Z.ofN s5.1.2.1) (Z.ofN 1))) fun (x242 : Int) =>
 (bif (Z.igt x242 (Z.ofN s5.1.2.2)) then if (Z.Bd s23.1 s5.1.2.2) then if (Z.Lt 0 s5.1.2.2) then Z.bnd (Z.wrap .i64 (Z.add (Z.ofN s5.1.2.1) (Z.ofN 1))) fun (x247 : Int) =>
 Z.bnd (Z.wrap .i64 (Z.sub x247 s23.1)) fun (x248 : Int) =>
 if (Z.ZOk x248 40) then Z.bnd (Z.rep (α:=(Int)×((Int)×((List (Int))×(Unit)))) (Z.toN x248) (0,(0,(([] : List (Int)),())))) fun (x251 : List ((Int)×((Int)×((List (Int))×(Unit))))) =>
 if (Z.Le (Z.addN (Z.addN s5.1.1 0) (Z.subN (Z.toN s23.1) 0)) (Z.len s5.2.1)) then if (Z.Big (Z.len (Z.seg s5.2.1 (Z.addN s5.1.1 0) (Z.subN (Z.toN s23.1) 0))) (Z.len x251) 40) then none
 else if (Z.Le (Z.addN (Z.subN (Z.toN s23.1) 0) (Z.len x251)) (Z.subN s5.1.2.2 0)) then none
 else Z.bnd (Z.app (Z.seg s5.2.1 (Z.addN s5.1.1 0) (Z.subN (Z.toN s23.1) 0)) x251) fun (x258 : List ((Int)×((Int)×((List (Int))×(Unit))))) =>
 if (Z.Bd s23.1 (Z.len x258)) then if (Z.Lt (Z.toN s23.1) (Z.len x258)) then if (Z.Le (Z.addN 0 1) (Z.len ((x224.1,(x224.2.1,(x224.2.2.1,())))::([] : List ((Int)×((Int)×((List (Int))×(Unit)))))))) then if (Z.Le (Z.addN (Z.addN 0 (Z.toN s23.1)) (Z.subN (Z.len x258) (Z.toN s23.1))) (Z.len x258)) then Z.bnd (Z.wrap .i64 (Z.add s23.1 (Z.ofN 1))) fun (x267 : Int) =>
 if (Z.Bd x267 (Z.len x258)) then if (Z.Lt (Z.toN x267) (Z.len x258)) then if (Z.Bd s23.1 s5.1.2.1) then if (Z.Lt (Z.toN s23.1) s5.1.2.2) then if (Z.Le (Z.addN (Z.addN s5.1.1 (Z.toN s23.1)) (Z.subN s5.1.2.1 (Z.toN s23.1))) (Z.len s5.2.1)) then if (Z.Le (Z.addN (Z.addN 0 (Z.toN x267)) (Z.subN (Z.len x258) (Z.toN x267))) (Z.len (Z.put x258 (Z.addN 0 (Z.toN s23.1)) (Z.take (Z.minN (Z.len (Z.seg ((x224.1,(x224.2.1,(x224.2.2.1,())))::([] : List ((Int)×((Int)×((List (Int))×(Unit)))))) 0 1)) (Z.subN (Z.len x258) (Z.toN s23.1))) (Z.seg ((x224.1,(x224.2.1,(x224.2.2.1,())))::([] : List ((Int)×((Int)×((List (Int))×(Unit)))))) 0 1))))) then if (Z.Le (Z.addN 0 (Z.len x258)) (Z.len (Z.put (Z.put x258 (Z.addN 0 (Z.toN s23.1)) (Z.take (Z.minN (Z.len (Z.seg ((x224.1,(x224.2.1,(x224.2.2.1,())))::([] : List ((Int)×((Int)×((List (Int))×(Unit)))))) 0 1)) (Z.subN (Z.len x258) (Z.toN s23.1))) (Z.seg ((x224.1,(x224.2.1,(x224.2.2.1,())))::([] : List ((Int)×((Int)×((List (Int))×(Unit)))))) 0 1))) (Z.addN 0 (Z.toN x267)) (Z.take (Z.minN (Z.len (Z.seg s5.2.1 (Z.addN s5.1.1 (Z.toN s23.1)) (Z.subN s5.1.2.1 (Z.toN s23.1)))) (Z.subN (Z.len x258) (Z.toN x267))) (Z.seg s5.2.1 (Z.addN s5.1.1 (Z.toN s23.1)) (Z.subN s5.1.2.1 (Z.toN s23.1))))))) then some ((Z.seg (Z.put (Z.put x258 (Z.addN 0 (Z.toN s23.1)) (Z.take (Z.minN (Z.len (Z.seg ((x224.1,(x224.2.1,(x224.2.2.1,())))::([] : List ((Int)×((Int)×((List (Int))×(Unit)))))) 0 1)) (Z.subN (Z.len x258) (Z.toN s23.1))) (Z.seg ((x224.1,(x224.2.1,(x224.2.2.1,())))::([] : List ((Int)×((Int)×((List (Int))×(Unit)))))) 0 1))) (Z.addN 0 (Z.toN x267)) (Z.take (Z.minN (Z.len (Z.seg s5.2.1 (Z.addN s5.1.1 (Z.toN s23.1)) (Z.subN s5.1.2.1 (Z.toN s23.1)))) (Z.subN (Z.len x258) (Z.toN x267))) (Z.seg s5.2.1 (Z.addN s5.1.1 (Z.toN s23.1)) (Z.subN s5.1.2.1 (Z.toN s23.1))))) 0 (Z.len x258)),0)
 else none
 else none
 else none
 else if (Z.Le (Z.addN (Z.addN 0 (Z.toN x267)) (Z.subN (Z.len x258) (Z.toN x267))) (Z.len (Z.put x258 (Z.addN 0 (Z.toN s23.1)) (Z.take (Z.minN (Z.len (Z.seg ((x224.1,(x224.2.1,(x224.2.2.1,())))::([] : List ((Int)×((Int)×((List (Int))×(Unit)))))) 0 1)) (Z.subN (Z.len x258) (Z.toN s23.1))) (Z.seg ((x224.1,(x224.2.1,(x224.2.2.1,())))::([] : List ((Int)×((Int)×((List (Int))×(Unit)))))) 0 1))))) then if (Z.Le (Z.addN 0 (Z.len x258)) (Z.len (Z.put (Z.put x258 (Z.addN 0 (Z.toN s23.1)) (Z.take (Z.minN (Z.len (Z.seg ((x224.1,(x224.2.1,(x224.2.2.1,())))::([] : List ((Int)×((Int)×((List (Int))×(Unit)))))) 0 1)) (Z.subN (Z.len x258) (Z.toN s23.1))) (Z.seg ((x224.1,(x224.2.1,(x224.2.2.1,())))::([] : List ((Int)×((Int)×((List (Int))×(Unit)))))) 0 1))) (Z.addN 0 (Z.toN x267)) (Z.take (Z.minN (Z.len ([] : List ((Int)×((Int)×((List (Int))×(Unit)))))) (Z.subN (Z.len x258) (Z.toN x267))) ([] : List ((Int)×((Int)×((List (Int))×(Unit))))))))) then some ((Z.seg (Z.put (Z.put x258 (Z.addN 0 (Z.toN s23.1)) (Z.take (Z.minN (Z.len (Z.seg ((x224.1,(x224.2.1,(x224.2.2.1,())))::([] : List ((Int)×((Int)×((List (Int))×(Unit)))))) 0 1)) (Z.subN (Z.len x258) (Z.toN s23.1))) (Z.seg ((x224.1,(x224.2.1,(x224.2.2.1,())))::([] : List ((Int)×((Int)×((List (Int))×(Unit)))))) 0 1))) (Z.addN 0 (Z.toN x267)) (Z.take (Z.minN (Z.len ([] : List ((Int)×((Int)×((List (Int))×(Unit)))))) (Z.subN (Z.len x258) (Z.toN x267))) ([] : List ((Int)×((Int)×((List (Int))×(Unit))))))) 0 (Z.len x258)),0)
 else none
 else none
 else none
 else if (Z.Bd s23.1 s5.1.2.1) then if (Z.Lt (Z.toN s23.1) s5.1.2.2) then if (Z.Le (Z.addN (Z.addN s5.1.1 (Z.toN s23.1)) (Z.subN s5.1.2.1 (Z.toN s23.1))) (Z.len s5.2.1)) then none
 else none
 else none
 else none
 else none
 else none
 else none
 else if (Z.Le (Z.addN 0 1) (Z.len ((x224.1,(x224.2.1,(x224.2.2.1,())))::([] : List ((Int)×((Int)×((List (Int))×(Unit)))))))) then none
 else none
 else none
 else none
 else none
 else Z.bnd (Z.wrap .i64 (Z.add (Z.ofN s5.1.2.1) (Z.ofN 1))) fun (x294 : Int) =>
 Z.bnd (Z.wrap .i64 (Z.sub x294 s23.1)) fun (x295 : Int) =>
 if (Z.ZOk x295 40) then Z.bnd (Z.rep (α:=(Int)×((Int)×((List (Int))×(Unit)))) (Z.toN x295) (0,(0,(([] : List (Int)),())))) fun (x298 : List ((Int)×((Int)×((List (Int))×(Unit))))) =>
 none
 else none
 else none
 else Z.bnd (Z.wrap .i64 (Z.add (Z.ofN s5.1.2.1) (Z.ofN 1))) fun (x299 : Int) =>
 if (Z.Bd x299 s5.1.2.2) then if (Z.Lt 0 s5.1.2.2) then Z.bnd (Z.wrap .i64 (Z.add s23.1 (Z.ofN 1))) fun (x304 : Int) =>
 if (Z.Bd x304 (Z.subN (Z.toN x299) 0)) then if (Z.Lt (Z.toN x304) (Z.subN s5.1.2.2 0)) then none
 else none
 else none
 else Z.bnd (Z.wrap .i64 (Z.add s23.1 (Z.ofN 1))) fun (x309 : Int) =>
 if (Z.Bd x309 (Z.len ([] : List ((Int)×((Int)×((List (Int))×(Unit))))))) then Z.bnd (Z.slice ([] : List ((Int)×((Int)×((List (Int))×(Unit))))) (Z.toN x309) (Z.len ([] : List ((Int)×((Int)×((List (Int))×(Unit))))))) fun (x312 : List ((Int)×((Int)×((List (Int))×(Unit))))) =>
 none
 else none
 else none)))
 else (bif (Z.ieq (Z.ofN 1) 0) then if (Z.Le (Z.addN s5.1.1 s5.1.2.1) (Z.len s5.2.1)) then some ((Z.seg s5.2.1 s5.1.1 s5.1.2.1),0)
 else none
 else (bif (Z.ieq s23.1 (Z.ofN s5.1.2.1)) then if (Z.Le (Z.addN 0 1) (Z.len ((x224.1,(x224.2.1,(x224.2.2.1,())))::([] : List ((Int)×((Int)×((List (Int))×(Unit)))))))) then if (Z.Le (Z.addN s5.1.1 s5.1.2.1) (Z.len s5.2.1)) then if (Z.Big (Z.len (Z.seg s5.2.1 s5.1.1 s5.1.2.1)) (Z.len (Z.seg ((x224.1,(x224.2.1,(x224.2.2.1,())))::([] : List ((Int)×((Int)×((List (Int))×(Unit)))))) 0 1)) 40) then none
 else if (Z.Le (Z.addN s5.1.2.1 (Z.len (Z.seg ((x224.1,(x224.2.1,(x224.2.2.1,())))::([] : List ((Int)×((Int)×((List (Int))×(Unit)))))) 0 1))) s5.1.2.2) then none
 else Z.bnd (Z.app (Z.seg s5.2.1 s5.1.1 s5.1.2.1) (Z.seg ((x224.1,(x224.2.1,(x224.2.2.1,())))::([] : List ((Int)×((Int)×((List (Int))×(Unit)))))) 0 1)) fun (x323 : List ((Int)×((Int)×((List (Int))×(Unit))))) =>
 if (Z.Le (Z.addN 0 (Z.len x323)) (Z.len x323)) then some ((Z.seg x323 0 (Z.len x323)),0)
 else none
 else none
 else none
 else Z.bnd (Z.wrap .i64 (Z.add (Z.ofN s5.1.2.1) (Z.ofN 1))) fun (x326 : Int) =>
 (bif (Z.igt x326 (Z.ofN s5.1.2.2)) then if (Z.Bd s23.1 s5.1.2.2) then if (Z.Lt 0 s5.1.2.2) then Z.bnd (Z.wrap .i64 (Z.add (Z.ofN s5.1.2.1) (Z.ofN 1))) fun (x331 : Int) =>
 Z.bnd (Z.wrap .i64 (Z.sub x331 s23.1)) fun (x332 : Int) =>
 if (Z.ZOk x332 40) then Z.bnd (Z.rep (α:=(Int)×((Int)×((List (Int))×(Unit)))) (Z.toN x332) (0,(0,(([] : List (Int)),())))) fun (x335 : List ((Int)×((Int)×((List (Int))×(Unit))))) =>
 if (Z.Le (Z.addN (Z.addN s5.1.1 0) (Z.subN (Z.toN s23.1) 0)) (Z.len s5.2.1)) then if (Z.Big (Z.len (Z.seg s5.2.1 (Z.addN s5.1.1 0) (Z.subN (Z.toN s23.1) 0))) (Z.len x335) 40) then none
 else if (Z.Le (Z.addN (Z.subN (Z.toN s23.1) 0) (Z.len x335)) (Z.subN s5.1.2.2 0)) then none
 else Z.bnd (Z.app (Z.seg s5.2.1 (Z.addN s5.1.1 0) (Z.subN (Z.toN s23.1) 0)) x335) fun (x342 : List ((Int)×((Int)×((List (Int))×(Unit))))) =>
 if (Z.Bd s23.1 (Z.len x342)) then if (Z.Lt (Z.toN s23.1) (Z.len x342)) then if (Z.Le (Z.addN 0 1) (Z.len ((x224.1,(x224.2.1,(x224.2.2.1,())))::([] : List ((Int)×((Int)×((List (Int))×(Unit)))))))) then if (Z.Le (Z.addN (Z.addN 0 (Z.toN s23.1)) (Z.subN (Z.len x342) (Z.toN s23.1))) (Z.len x342)) then Z.bnd (Z.wrap .i64 (Z.add s23.1 (Z.ofN 1))) fun (x351 : Int) =>
 if (Z.Bd x351 (Z.len x342)) then if (Z.Lt (Z.toN x351) (Z.len x342)) then if (Z.Bd s23.1 s5.1.2.1) then if (Z.Lt (Z.toN s23.1) s5.1.2.2) then if (Z.Le (Z.addN (Z.addN s5.1.1 (Z.toN s23.1)) (Z.subN s5.1.2.1 (Z.toN s23.1))) (Z.len s5.2.1)) then if (Z.Le (Z.addN (Z.addN 0 (Z.toN x351)) (Z.subN (Z.len x342) (Z.toN x351))) (Z.len (Z.put x342 (Z.addN 0 (Z.toN s23.1)) (Z.take (Z.minN (Z.len (Z.seg ((x224.1,(x224.2.1,(x224.2.2.1,())))::([] : List ((Int)×((Int)×((List (Int))×(Unit)))))) 0 1)) (Z.subN (Z.len x342) (Z.toN s23.1))) (Z.seg ((x224.1,(x224.2.1,(x224.2.2.1,())))::([] : List ((Int)×((Int)×((List (Int))×(Unit)))))) 0 1))))) then if (Z.Le (Z.addN 0 (Z.len x342)) (Z.len (Z.put (Z.put x342 (Z.addN 0 (Z.toN s23.1)) (Z.take (Z.minN (Z.len (Z.seg ((x224.1,(x224.2.1,(x224.2.2.1,())))::([] : List ((Int)×((Int)×((List (Int))×(Unit)))))) 0 1)) (Z.subN (Z.len x342) (Z.toN s23.1))) (Z.seg ((x224.1,(x224.2.1,(x224.2.2.1,())))::([] : List ((Int)×((Int)×((List (Int))×(Unit)))))) 0 1))) (Z.addN 0 (Z.toN x351)) (Z.take (Z.minN (Z.len (Z.seg s5.2.1 (Z.addN s5.1.1 (Z.toN s23.1)) (Z.subN s5.1.2.1 (Z.toN s23.1)))) (Z.subN (Z.len x342) (Z.toN x351))) (Z.seg s5.2.1 (Z.addN s5.1.1 (Z.toN s23.1)) (Z.subN s5.1.2.1 (Z.toN s23.1))))))) then some ((Z.seg (Z.put (Z.put x342 (Z.addN 0 (Z.toN s23.1)) (Z.take (Z.minN (Z.len (Z.seg ((x224.1,(x224.2.1,(x224.2.2.1,())))::([] : List ((Int)×((Int)×((List (Int))×(Unit)))))) 0 1)) (Z.subN (Z.len x342) (Z.toN s23.1))) (Z.seg ((x224.1,(x224.2.1,(x224.2.2.1,())))::([] : List ((Int)×((Int)×((List (Int))×(Unit)))))) 0 1))) (Z.addN 0 (Z.toN x351)) (Z.take (Z.minN (Z.len (Z.seg s5.2.1 (Z.addN s5.1.1 (Z.toN s23.1)) (Z.subN s5.1.2.1 (Z.toN s23.1)))) (Z.subN (Z.len x342) (Z.toN x351))) (Z.seg s5.2.1 (Z.addN s5.1.1 (Z.toN s23.1)) (Z.subN s5.1.2.1 (Z.toN s23.1))))) 0 (Z.len x342)),0)
 else none
 else none
 else none
 else if (Z.Le (Z.addN (Z.addN 0 (Z.toN x351)) (Z.subN (Z.len x342) (Z.toN x351))) (Z.len (Z.put x342 (Z.addN 0 (Z.toN s23.1)) (Z.take (Z.minN (Z.len (Z.seg ((x224.1,(x224.2.1,(x224.2.2.1,())))::([] : List ((Int)×((Int)×((List (Int))×(Unit)))))) 0 1)) (Z.subN (Z.len x342) (Z.toN s23.1))) (Z.seg ((x224.1,(x224.2.1,(x224.2.2.1,())))::([] : List ((Int)×((Int)×((List (Int))×(Unit)))))) 0 1))))) then if (Z.Le (Z.addN 0 (Z.len x342)) (Z.len (Z.put (Z.put x342 (Z.addN 0 (Z.toN s23.1)) (Z.take (Z.minN (Z.len (Z.seg ((x224.1,(x224.2.1,(x224.2.2.1,())))::([] : List ((Int)×((Int)×((List (Int))×(Unit)))))) 0 1)) (Z.subN (Z.len x342) (Z.toN s23.1))) (Z.seg ((x224.1,(x224.2.1,(x224.2.2.1,())))::([] : List ((Int)×((Int)×((List (Int))×(Unit)))))) 0 1))) (Z.addN 0 (Z.toN x351)) (Z.take (Z.minN (Z.len ([] : List ((Int)×((Int)×((List (Int))×(Unit)))))) (Z.subN (Z.len x342) (Z.toN x351))) ([] : List ((Int)×((Int)×((List (Int))×(Unit))))))))) then some ((Z.seg (Z.put (Z.put x342 (Z.addN 0 (Z.toN s23.1)) (Z.take (Z.minN (Z.len (Z.seg ((x224.1,(x224.2.1,(x224.2.2.1,())))::([] : List ((Int)×((Int)×((List (Int))×(Unit)))))) 0 1)) (Z.subN (Z.len x342) (Z.toN s23.1))) (Z.seg ((x224.1,(x224.2.1,(x224.2.2.1,())))::([] : List ((Int)×((Int)×((List (Int))×(Unit)))))) 0 1))) (Z.addN 0 (Z.toN x351)) (Z.take (Z.minN (Z.len ([] : List ((Int)×((Int)×((List (Int))×(Unit)))))) (Z.subN (Z.len x342) (Z.toN x351))) ([] : List ((Int)×((Int)×((List (Int))×(Unit))))))) 0 (Z.len x342)),0)
 else none
 else none
 else none
 else if (Z.Bd s23.1 s5.1.2.1) then if (Z.Lt (Z.toN s23.1) s5.1.2.2) then if (Z.Le (Z.addN (Z.addN s5.1.1 (Z.toN s23.1)) (Z.subN s5.1.2.1 (Z.toN s23.1))) (Z.len s5.2.1)) then none
 else none
 else none
 else none
 else none
 else none
 else none
 else if (Z.Le (Z.addN 0 1) (Z.len ((x224.1,(x224.2.1,(x224.2.2.1,())))::([] : List ((Int)×((Int)×((List (Int))×(Unit)))))))) then none
 else none
 else none
 else none
 else none
 else Z.bnd (Z.wrap .i64 (Z.add (Z.ofN s5.1.2.1) (Z.ofN 1))) fun (x378 : Int) =>
 Z.bnd (Z.wrap .i64 (Z.sub x378 s23.1)) fun (x379 : Int) =>
 if (Z.ZOk x379 40) then Z.bnd (Z.rep (α:=(Int)×((Int)×((List (Int))×(Unit)))) (Z.toN x379) (0,(0,(([] : List (Int)),())))) fun (x382 : List ((Int)×((Int)×((List (Int))×(Unit))))) =>
 none
 else none
 else none
 else Z.bnd (Z.wrap .i64 (Z.add (Z.ofN s5.1.2.1) (Z.ofN 1))) fun (x383 : Int) =>
 if (Z.Bd x383 s5.1.2.2) then if (Z.Lt 0 s5.1.2.2) then Z.bnd (Z.wrap .i64 (Z.add s23.1 (Z.ofN 1))) fun (x388 : Int) =>
 if (Z.Bd x388 (Z.subN (Z.toN x383) 0)) then if (Z.Lt (Z.toN x388) (Z.subN s5.1.2.2 0)) then none
 else none
 else none
 else Z.bnd (Z.wrap .i64 (Z.add s23.1 (Z.ofN 1))) fun (x393 : Int) =>
 if (Z.Bd x393 (Z.len ([] : List ((Int)×((Int)×((List (Int))×(Unit))))))) then Z.bnd (Z.slice ([] : List ((Int)×((Int)×((List (Int))×(Unit))))) (Z.toN x393) (Z.len ([] : List ((Int)×((Int)×((List (Int))×(Unit))))))) fun (x396 : List ((Int)×((Int)×((List (Int))×(Unit))))) =>
 none
 else none
 else none)))
 else none))) (0,(Z.ofN s5.1.2.1)))) ((0,((Z.toN 0),(Z.toN (Z.ofN (Z.len d0.2.1))))),((Z.rep (α:=(Int)×((Int)×((List (Int))×(Unit)))) (Z.toN (Z.ofN (Z.len d0.2.1))) (0,(0,(([] : List (Int)),())))),0))
 else none))
def yKw : PFn:={ args:=[(.pair (.int .i64) (.pair (.int .i64) (.pair (.int .i64) (.pair (.int .i64) .unit)))),(.list (.pair (.int .i64) (.pair (.int .i64) (.pair (.list (.int .u8)) .unit)))),(.pair (.int .i64) (.pair (.int .i64) (.pair (.list (.int .u8)) .unit)))],res:=[(.list (.pair (.int .i64) (.pair (.int .i64) (.pair (.list (.int .u8)) .unit)))),(.int .i64)],fn:=zJj }
def vWa : List LSpec×List Nat:=([{ id:=2900,known:=true,toks:=[],items:=[.slot 6 (.val (.int .i64)), .slot 7 (.val (.int .i64))],junk:=[12,13,14,15,16,17,18,19,20,8,21,22,23,24,25,26,27,28,29,30,31,32,33],tails:=[] }],[])
def vWb : List LSpec×List Nat:=([{ id:=2200,known:=true,toks:=[],items:=[.slot 3 (.sref 1000003 true (.pair (.int .i64) (.pair (.int .i64) (.pair (.list (.int .u8)) .unit)))), .vec 1000003 (.pair (.int .i64) (.pair (.int .i64) (.pair (.list (.int .u8)) .unit))), .slot 11 (.val (.int .i64))],junk:=[12,13,14,5,15,16,17,18,19,20],tails:=[] }],[1000000005])
def vQ9 : List LSpec×List Nat:=([],[1000000005])
def vQ8 : List LSpec×List Nat:=([],[2000000007,2000000009])
def spt18 : Tab (List LSpec×List Nat):=(.node (.node .leaf none (.node .leaf none (.node .leaf none (.node .leaf (some vWa) .leaf)))) none (.node (.node (.node (.node (.node .leaf (some vQ8) .leaf) none .leaf) none .leaf) none .leaf) none (.node .leaf none (.node (.node .leaf (some vWb) .leaf) none (.node .leaf (some vQ9) .leaf)))))
def spf18 (f : Nat) : List LSpec×List Nat:=(spt18.get f).getD ([],[])
theorem xXx : zZt Try.prog cfg 18 yKw:=fnD spf18 (l:=[(13,zZn),(31,zK7),(33,zJ2),(46,zZ5)]) zK3 zW7 (.cons zZ4 (.cons zJ1 (.cons zYo (.cons zKs .nil)))) (fun d=>by kernel_rfl)
def yQn (d0 : (List (Int))×(List (Int))) : Option (Bool) :=
 Z.bnd (Z.str d0.1) fun (x1 : List (UInt8)) =>
 Z.bnd (Z.str d0.2) fun (x2 : List (UInt8)) =>
 some (Z.seq x1 x2)
def yZj : PFn:={ args:=[(.list (.int .u8)),(.list (.int .u8))],res:=[.bool],fn:=yQn }
def vQq : List LSpec×List Nat:=([{ id:=2200,known:=true,toks:=[],items:=[.slot 3 (.sref 1000003 true (.pair (.int .i64) (.pair (.int .i64) (.pair (.list (.int .u8)) .unit)))), .vec 1000003 (.pair (.int .i64) (.pair (.int .i64) (.pair (.list (.int .u8)) .unit))), .slot 11 (.val (.int .i64))],junk:=[12,13,14,5,15,16,17,18,19,20],tails:=[] }],[1000000005])
def vQp : List LSpec×List Nat:=([],[1000000005])
def vQo : List LSpec×List Nat:=([],[2000000007,2000000009])
def spt41 : Tab (List LSpec×List Nat):=(.node .leaf none (.node (.node (.node (.node (.node .leaf (some vQo) .leaf) none .leaf) none .leaf) none .leaf) none (.node .leaf none (.node (.node .leaf (some vQq) .leaf) none (.node .leaf (some vQp) .leaf)))))
def spf41 (f : Nat) : List LSpec×List Nat:=(spt41.get f).getD ([],[])
theorem xWa : zZt Try.prog cfg 41 yZj:=fnD spf41 (l:=[]) zK3 zW7 .nil (fun d=>by kernel_rfl)
def zJo (d0 : ((Int)×((Int)×((List (Int))×(Unit))))×((Int)×((Int)×((List (Int))×(Unit))))) : Option (Bool) :=
 (bif (Z.ieq d0.1.1 d0.2.1) then (bif (Z.zWj true (Z.ieq d0.1.2.1 d0.2.2.1) false) then Z.bind (yQn (d0.1.2.2.1,d0.2.2.2.1)) fun (x1 : Bool) =>
 some (Z.zWj true x1 false)
 else some false)
 else some false)
def yZi : PFn:={ args:=[(.pair (.int .i64) (.pair (.int .i64) (.pair (.list (.int .u8)) .unit))),(.pair (.int .i64) (.pair (.int .i64) (.pair (.list (.int .u8)) .unit)))],res:=[.bool],fn:=zJo }
def vQ7 : List LSpec×List Nat:=([{ id:=2200,known:=true,toks:=[],items:=[.slot 3 (.sref 1000003 true (.pair (.int .i64) (.pair (.int .i64) (.pair (.list (.int .u8)) .unit)))), .vec 1000003 (.pair (.int .i64) (.pair (.int .i64) (.pair (.list (.int .u8)) .unit))), .slot 11 (.val (.int .i64))],junk:=[12,13,14,5,15,16,17,18,19,20],tails:=[] }],[1000000005])
def vQ6 : List LSpec×List Nat:=([],[1000000005])
def vQ5 : List LSpec×List Nat:=([],[2000000007,2000000009])
def spt23 : Tab (List LSpec×List Nat):=(.node .leaf none (.node (.node (.node (.node (.node .leaf (some vQ5) .leaf) none .leaf) none .leaf) none .leaf) none (.node .leaf none (.node (.node .leaf (some vQ7) .leaf) none (.node .leaf (some vQ6) .leaf)))))
def spf23 (f : Nat) : List LSpec×List Nat:=(spt23.get f).getD ([],[])
theorem xQ9 : zZt Try.prog cfg 23 yZi:=fnD spf23 (l:=[(41,yZj)]) zK3 zW7 (.cons xWa .nil) (fun d=>by kernel_rfl)
def zZk (d0 : (List ((Int)×((Int)×((List (Int))×(Unit)))))×(List ((Int)×((Int)×((List (Int))×(Unit)))))) : Option (Bool) :=
 (bif (Z.ine (Z.ofN (Z.len d0.1)) (Z.ofN (Z.len d0.2))) then some false
 else Z.loop (fun (s1 : Int) k2 =>
 (bif (Z.ilt s1 (Z.ofN (Z.len d0.1))) then if (Z.Ix s1 (Z.len d0.1)) then Z.bnd (Z.get d0.1 (Z.toN s1) (0,(0,(([] : List (Int)),())))) fun (x5 : (Int)×((Int)×((List (Int))×(Unit)))) =>
 if (Z.Ix s1 (Z.len d0.2)) then Z.bnd (Z.get d0.2 (Z.toN s1) (0,(0,(([] : List (Int)),())))) fun (x8 : (Int)×((Int)×((List (Int))×(Unit)))) =>
 Z.bind (zJo ((x5.1,(x5.2.1,(x5.2.2.1,()))),(x8.1,(x8.2.1,(x8.2.2.1,()))))) fun (x9 : Bool) =>
 (bif (Z.bnot x9) then some false
 else Z.bnd (Z.wrap .i64 (Z.add s1 1)) fun (x10 : Int) =>
 k2 x10)
 else none
 else none
 else some true)) 0)
def zYr : PFn:={ args:=[(.list (.pair (.int .i64) (.pair (.int .i64) (.pair (.list (.int .u8)) .unit)))),(.list (.pair (.int .i64) (.pair (.int .i64) (.pair (.list (.int .u8)) .unit))))],res:=[.bool],fn:=zZk }
def vQ4 : List LSpec×List Nat:=([{ id:=2200,known:=true,toks:=[],items:=[.slot 3 (.sref 1000003 true (.pair (.int .i64) (.pair (.int .i64) (.pair (.list (.int .u8)) .unit)))), .vec 1000003 (.pair (.int .i64) (.pair (.int .i64) (.pair (.list (.int .u8)) .unit))), .slot 11 (.val (.int .i64))],junk:=[12,13,14,5,15,16,17,18,19,20],tails:=[] }],[1000000005])
def vQ2 : List LSpec×List Nat:=([],[1000000005])
def vQ1 : List LSpec×List Nat:=([],[2000000007,2000000009])
def vQ3 : List LSpec×List Nat:=([{ id:=2400,known:=true,toks:=[],items:=[.slot 5 (.val (.int .i64))],junk:=[11,12,13,14,17,18,19,20,21,22,23,24,25,26,4,15,16],tails:=[] }],[])
def spt24 : Tab (List LSpec×List Nat):=(.node .leaf none (.node (.node (.node (.node (.node .leaf (some vQ1) .leaf) none .leaf) none (.node .leaf (some vQ3) .leaf)) none .leaf) none (.node .leaf none (.node (.node .leaf (some vQ4) .leaf) none (.node .leaf (some vQ2) .leaf)))))
def spf24 (f : Nat) : List LSpec×List Nat:=(spt24.get f).getD ([],[])
theorem yZw : zZt Try.prog cfg 24 zYr:=fnD spf24 (l:=[(23,yZi)]) zK3 zW7 (.cons xQ9 .nil) (fun d=>by kernel_rfl)
def zJ8 (d0 : Unit) : Option (Bool) :=
 Z.bind (zW6 ()) fun (x1 : (Int)×((Int)×((Int)×((Int)×(Unit))))) =>
 Z.bind (zWo (5,1)) fun (x2 : (Int)×((Int)×((List (Int))×(Unit)))) =>
 Z.bind (zJj ((x1.1,(x1.2.1,(x1.2.2.1,(x1.2.2.2.1,())))),(([] : List ((Int)×((Int)×((List (Int))×(Unit))))),(x2.1,(x2.2.1,(x2.2.2.1,())))))) fun (x3 : (List ((Int)×((Int)×((List (Int))×(Unit)))))×(Int)) =>
 Z.bind (zW6 ()) fun (x4 : (Int)×((Int)×((Int)×((Int)×(Unit))))) =>
 Z.bind (zWo (2,1)) fun (x5 : (Int)×((Int)×((List (Int))×(Unit)))) =>
 Z.bind (zJj ((x4.1,(x4.2.1,(x4.2.2.1,(x4.2.2.2.1,())))),(x3.1,(x5.1,(x5.2.1,(x5.2.2.1,())))))) fun (x6 : (List ((Int)×((Int)×((List (Int))×(Unit)))))×(Int)) =>
 Z.bind (zW6 ()) fun (x7 : (Int)×((Int)×((Int)×((Int)×(Unit))))) =>
 Z.bind (zWo (5,9)) fun (x8 : (Int)×((Int)×((List (Int))×(Unit)))) =>
 Z.bind (zJj ((x7.1,(x7.2.1,(x7.2.2.1,(x7.2.2.2.1,())))),(x6.1,(x8.1,(x8.2.1,(x8.2.2.1,())))))) fun (x9 : (List ((Int)×((Int)×((List (Int))×(Unit)))))×(Int)) =>
 (bif (Z.ieq x3.2 0) then (bif (Z.zWj true (Z.ieq x6.2 0) false) then Z.bind (zZ7 ()) fun (x10 : List ((Int)×((Int)×((List (Int))×(Unit))))) =>
 Z.bind (zZk (x6.1,x10)) fun (x11 : Bool) =>
 (bif (Z.zWj true x11 false) then (bif (Z.zWj true (Z.ieq x9.2 0) false) then Z.bind (zWo (2,1)) fun (x12 : (Int)×((Int)×((List (Int))×(Unit)))) =>
 Z.bind (zWo (5,9)) fun (x13 : (Int)×((Int)×((List (Int))×(Unit)))) =>
 if (Z.Le (Z.addN 0 2) (Z.len ((x12.1,(x12.2.1,(x12.2.2.1,())))::((x13.1,(x13.2.1,(x13.2.2.1,())))::([] : List ((Int)×((Int)×((List (Int))×(Unit))))))))) then Z.bind (zZk (x9.1,(Z.seg ((x12.1,(x12.2.1,(x12.2.2.1,())))::((x13.1,(x13.2.1,(x13.2.2.1,())))::([] : List ((Int)×((Int)×((List (Int))×(Unit))))))) 0 2))) fun (x16 : Bool) =>
 some (Z.zWj true x16 false)
 else none
 else some false)
 else some false)
 else some false)
 else some false)
def yWx : PFn:={ args:=[],res:=[.bool],fn:=zJ8 }
def vWi : List LSpec×List Nat:=([{ id:=2200,known:=true,toks:=[],items:=[.slot 3 (.sref 1000003 true (.pair (.int .i64) (.pair (.int .i64) (.pair (.list (.int .u8)) .unit)))), .vec 1000003 (.pair (.int .i64) (.pair (.int .i64) (.pair (.list (.int .u8)) .unit))), .slot 11 (.val (.int .i64))],junk:=[12,13,14,5,15,16,17,18,19,20],tails:=[] }],[1000000005])
def vWh : List LSpec×List Nat:=([],[1000000005])
def vWg : List LSpec×List Nat:=([],[2000000007,2000000009])
def spt12 : Tab (List LSpec×List Nat):=(.node .leaf none (.node (.node (.node (.node (.node .leaf (some vWg) .leaf) none .leaf) none .leaf) none .leaf) none (.node .leaf none (.node (.node .leaf (some vWi) .leaf) none (.node .leaf (some vWh) .leaf)))))
def spf12 (f : Nat) : List LSpec×List Nat:=(spt12.get f).getD ([],[])
theorem yYa : zZt Try.prog cfg 12 yWx:=fnD spf12 (l:=[(8,zJ4),(11,zJ3),(18,yKw),(9,yWe),(24,zYr)]) zK3 zW7 (.cons yQ4 (.cons zYp (.cons xXx (.cons yZg (.cons yZw .nil))))) (fun d=>by kernel_rfl)
def zX6 (d0 : Unit) : Option (Bool) :=
 Z.bind (zW6 ()) fun (x1 : (Int)×((Int)×((Int)×((Int)×(Unit))))) =>
 Z.bind (zZ7 ()) fun (x2 : List ((Int)×((Int)×((List (Int))×(Unit))))) =>
 Z.bind (yQk ((x1.1,(x1.2.1,(x1.2.2.1,(x1.2.2.2.1,())))),(x2,3))) fun (x3 : (List ((Int)×((Int)×((List (Int))×(Unit)))))×(Int)) =>
 Z.bind (zW6 ()) fun (x4 : (Int)×((Int)×((Int)×((Int)×(Unit))))) =>
 Z.bind (zZ7 ()) fun (x5 : List ((Int)×((Int)×((List (Int))×(Unit))))) =>
 Z.bind (zWo (2,1)) fun (x6 : (Int)×((Int)×((List (Int))×(Unit)))) =>
 if (Z.Le (Z.addN 0 1) (Z.len ((x6.1,(x6.2.1,(x6.2.2.1,())))::([] : List ((Int)×((Int)×((List (Int))×(Unit)))))))) then Z.bind (zJk ((x4.1,(x4.2.1,(x4.2.2.1,(x4.2.2.2.1,())))),(x5,(Z.seg ((x6.1,(x6.2.1,(x6.2.2.1,())))::([] : List ((Int)×((Int)×((List (Int))×(Unit)))))) 0 1)))) fun (x9 : (List ((Int)×((Int)×((List (Int))×(Unit)))))×(Int)) =>
 Z.bind (zW6 ()) fun (x10 : (Int)×((Int)×((Int)×((Int)×(Unit))))) =>
 Z.bind (zZ7 ()) fun (x11 : List ((Int)×((Int)×((List (Int))×(Unit))))) =>
 Z.bind (zWo (3,1)) fun (x12 : (Int)×((Int)×((List (Int))×(Unit)))) =>
 Z.bind (zWo (3,1)) fun (x13 : (Int)×((Int)×((List (Int))×(Unit)))) =>
 if (Z.Le (Z.addN 0 2) (Z.len ((x12.1,(x12.2.1,(x12.2.2.1,())))::((x13.1,(x13.2.1,(x13.2.2.1,())))::([] : List ((Int)×((Int)×((List (Int))×(Unit))))))))) then Z.bind (zJk ((x10.1,(x10.2.1,(x10.2.2.1,(x10.2.2.2.1,())))),(x11,(Z.seg ((x12.1,(x12.2.1,(x12.2.2.1,())))::((x13.1,(x13.2.1,(x13.2.2.1,())))::([] : List ((Int)×((Int)×((List (Int))×(Unit))))))) 0 2)))) fun (x16 : (List ((Int)×((Int)×((List (Int))×(Unit)))))×(Int)) =>
 Z.bind (zW6 ()) fun (x17 : (Int)×((Int)×((Int)×((Int)×(Unit))))) =>
 Z.bind (zZ7 ()) fun (x18 : List ((Int)×((Int)×((List (Int))×(Unit))))) =>
 Z.bind (zWo (7,1)) fun (x19 : (Int)×((Int)×((List (Int))×(Unit)))) =>
 Z.bind (zWo (0,1)) fun (x20 : (Int)×((Int)×((List (Int))×(Unit)))) =>
 if (Z.Le (Z.addN 0 2) (Z.len ((x19.1,(x19.2.1,(x19.2.2.1,())))::((x20.1,(x20.2.1,(x20.2.2.1,())))::([] : List ((Int)×((Int)×((List (Int))×(Unit))))))))) then Z.bind (zJk ((x17.1,(x17.2.1,(x17.2.2.1,(x17.2.2.2.1,())))),(x18,(Z.seg ((x19.1,(x19.2.1,(x19.2.2.1,())))::((x20.1,(x20.2.1,(x20.2.2.1,())))::([] : List ((Int)×((Int)×((List (Int))×(Unit))))))) 0 2)))) fun (x23 : (List ((Int)×((Int)×((List (Int))×(Unit)))))×(Int)) =>
 Z.join (σ:=Bool) (fun k24 =>
 Z.bind (zJ8 ()) fun (x25 : Bool) =>
 (bif (Z.zWj true x25 false) then (bif (Z.zWj true (Z.ieq x3.2 6) false) then (bif (Z.zWj true (Z.ieq x9.2 8) false) then (bif (Z.zWj true (Z.ieq x16.2 8) false) then (bif (Z.zWj true (Z.ieq x23.2 0) false) then (bif (Z.zWj true (Z.ieq (Z.ofN (Z.len x23.1)) 4) false) then if (Z.Ix 0 (Z.len x23.1)) then Z.bnd (Z.get x23.1 (Z.toN 0) (0,(0,(([] : List (Int)),())))) fun (x28 : (Int)×((Int)×((List (Int))×(Unit)))) =>
 (bif (Z.zWj true (Z.ieq x28.1 0) false) then if (Z.Ix 3 (Z.len x23.1)) then Z.bnd (Z.get x23.1 (Z.toN 3) (0,(0,(([] : List (Int)),())))) fun (x31 : (Int)×((Int)×((List (Int))×(Unit)))) =>
 (bif (Z.zWj true (Z.ieq x31.1 7) false) then Z.bind (zW6 ()) fun (x32 : (Int)×((Int)×((Int)×((Int)×(Unit))))) =>
 Z.bind (zWo (5,1)) fun (x33 : (Int)×((Int)×((List (Int))×(Unit)))) =>
 Z.bind (zWo (2,1)) fun (x34 : (Int)×((Int)×((List (Int))×(Unit)))) =>
 if (Z.Le (Z.addN 0 2) (Z.len ((x33.1,(x33.2.1,(x33.2.2.1,())))::((x34.1,(x34.2.1,(x34.2.2.1,())))::([] : List ((Int)×((Int)×((List (Int))×(Unit))))))))) then Z.bind (zXf ((x32.1,(x32.2.1,(x32.2.2.1,(x32.2.2.2.1,())))),(Z.seg ((x33.1,(x33.2.1,(x33.2.2.1,())))::((x34.1,(x34.2.1,(x34.2.2.1,())))::([] : List ((Int)×((Int)×((List (Int))×(Unit))))))) 0 2))) fun (x37 : Int) =>
 k24 (Z.zWj true (Z.ieq x37 8) false)
 else none
 else k24 false)
 else none
 else k24 false)
 else none
 else k24 false)
 else k24 false)
 else k24 false)
 else k24 false)
 else k24 false)
 else k24 false)) fun (j38 : Bool) =>
 some j38
 else none
 else none
 else none
def zXt : PFn:={ args:=[],res:=[.bool],fn:=zX6 }
def sp3_55 : List LSpec×List Nat:=([{ id:=5055000,known:=false,toks:=[],items:=[],junk:=[2],tails:=[] },{ id:=5055001,known:=true,toks:=[],items:=[.slot 8 (.val .bool)],junk:=[3,4,5,6,7],tails:=[] },{ id:=5055002,known:=false,toks:=[],items:=[],junk:=[2],tails:=[] },{ id:=5055003,known:=false,toks:=[],items:=[.slot 2 (.val (.int .i64))],junk:=[],tails:=[] },{ id:=5055004,known:=false,toks:=[],items:=[.slot 2 (.val (.int .i64))],junk:=[],tails:=[] }],[])
def sp3_34 : List LSpec×List Nat:=([{ id:=5034000,known:=false,toks:=[],items:=[],junk:=[2,3],tails:=[] },{ id:=5034001,known:=true,toks:=[],items:=[.slot 24 (.val .bool)],junk:=[7,8,9,10,11,12,13,14,15,16,17,18,19,20,21,22,23],tails:=[] },{ id:=5034002,known:=false,toks:=[],items:=[],junk:=[2,3],tails:=[] },{ id:=5034003,known:=false,toks:=[],items:=[.slot 2 (.val (.int .i64)), .slot 3 (.val (.int .i64))],junk:=[],tails:=[] },{ id:=5034004,known:=false,toks:=[],items:=[.slot 4 (.val (.int .i64)), .slot 5 (.val (.int .i64))],junk:=[26,27,28,25,29,30],tails:=[] },{ id:=5034005,known:=true,toks:=[],items:=[.slot 38 (.val .bool)],junk:=[31,32,33,34,35,36,37],tails:=[] },{ id:=5034006,known:=false,toks:=[],items:=[],junk:=[2,3],tails:=[] },{ id:=5034007,known:=false,toks:=[],items:=[.slot 2 (.val (.int .i64)), .slot 3 (.val (.int .i64))],junk:=[],tails:=[] },{ id:=5034008,known:=false,toks:=[],items:=[.slot 6 (.val (.int .i64))],junk:=[],tails:=[] },{ id:=3400,known:=false,toks:=[],items:=[],junk:=[],tails:=[] },{ id:=5034009,known:=false,toks:=[],items:=[.slot 40 (.val .bool)],junk:=[39],tails:=[] },{ id:=5034010,known:=false,toks:=[],items:=[],junk:=[],tails:=[] },{ id:=5034011,known:=false,toks:=[],items:=[.slot 50 (.val .bool)],junk:=[43,44,45,46,47,48,49],tails:=[] },{ id:=5034012,known:=false,toks:=[],items:=[],junk:=[51,2,3],tails:=[] },{ id:=5034013,known:=false,toks:=[],items:=[.slot 2 (.val (.int .i64)), .slot 3 (.val (.int .i64))],junk:=[51],tails:=[] },{ id:=5034014,known:=false,toks:=[],items:=[.slot 6 (.val (.int .i64))],junk:=[41,42],tails:=[] },{ id:=5034015,known:=false,toks:=[],items:=[.slot 2 (.val (.int .i64)), .slot 3 (.val (.int .i64))],junk:=[],tails:=[] }],[])
def sp3_31 : List LSpec×List Nat:=([{ id:=5031000,known:=false,toks:=[],items:=[],junk:=[4],tails:=[] },{ id:=5031001,known:=false,toks:=[],items:=[.slot 6 (.val (.int .i64))],junk:=[10,11,9,12,13,5],tails:=[] },{ id:=5031002,known:=false,toks:=[],items:=[.slot 15 (.val .bool)],junk:=[14],tails:=[] },{ id:=5031003,known:=false,toks:=[],items:=[],junk:=[16,4],tails:=[] },{ id:=5031004,known:=false,toks:=[],items:=[.slot 4 (.val (.int .i64))],junk:=[16],tails:=[] },{ id:=5031005,known:=false,toks:=[],items:=[.slot 7 (.val (.int .i64))],junk:=[18,19,20,17,21,22,8],tails:=[] },{ id:=5031006,known:=true,toks:=[],items:=[.slot 51 (.val .bool)],junk:=[23,24,25,26,27,28,29,30,31,32,33,34,35,36,37,38,39,40,41,42,43,44,45,46,47,48,49,50],tails:=[] },{ id:=5031007,known:=false,toks:=[],items:=[],junk:=[4],tails:=[] },{ id:=5031008,known:=false,toks:=[],items:=[.slot 4 (.val (.int .i64))],junk:=[],tails:=[] },{ id:=5031009,known:=false,toks:=[],items:=[.slot 4 (.val (.int .i64))],junk:=[],tails:=[] }],[])
def sp3_13 : List LSpec×List Nat:=([{ id:=5013000,known:=false,toks:=[],items:=[],junk:=[4],tails:=[] },{ id:=5013001,known:=false,toks:=[],items:=[.slot 6 (.val (.int .i64))],junk:=[10,11,9,12,13,5],tails:=[] },{ id:=5013002,known:=false,toks:=[],items:=[.slot 15 (.val .bool)],junk:=[14],tails:=[] },{ id:=5013003,known:=false,toks:=[],items:=[],junk:=[16,4],tails:=[] },{ id:=5013004,known:=false,toks:=[],items:=[.slot 4 (.val (.int .i64))],junk:=[16],tails:=[] },{ id:=5013005,known:=false,toks:=[],items:=[.slot 18 (.val (.int .i64)), .slot 19 (.val (.int .i64))],junk:=[],tails:=[] },{ id:=1300,known:=false,toks:=[],items:=[],junk:=[],tails:=[] },{ id:=5013006,known:=false,toks:=[],items:=[],junk:=[],tails:=[] },{ id:=5013007,known:=false,toks:=[],items:=[],junk:=[],tails:=[] },{ id:=5013008,known:=false,toks:=[],items:=[.slot 7 (.val (.int .i64))],junk:=[21,22,23],tails:=[] },{ id:=5013009,known:=true,toks:=[],items:=[.slot 42 (.val .bool)],junk:=[24,25,26,27,28,29,30,31,32,33,34,35,36,37,38,39,40,41],tails:=[] },{ id:=5013010,known:=false,toks:=[],items:=[],junk:=[4],tails:=[] },{ id:=5013011,known:=false,toks:=[],items:=[.slot 4 (.val (.int .i64))],junk:=[],tails:=[] },{ id:=5013012,known:=false,toks:=[],items:=[.slot 19 (.val (.int .i64))],junk:=[43],tails:=[] },{ id:=5013013,known:=false,toks:=[],items:=[.slot 4 (.val (.int .i64))],junk:=[],tails:=[] }],[])
def sp3_29 : List LSpec×List Nat:=([{ id:=5029000,known:=false,toks:=[],items:=[],junk:=[4,5],tails:=[] },{ id:=5029001,known:=false,toks:=[],items:=[.slot 6 (.val (.int .i64)), .slot 7 (.val (.int .i64))],junk:=[9,10,11],tails:=[] },{ id:=2900,known:=false,toks:=[],items:=[],junk:=[],tails:=[] },{ id:=5029002,known:=false,toks:=[],items:=[.slot 14 (.val .bool)],junk:=[12,13],tails:=[] },{ id:=5029003,known:=false,toks:=[],items:=[],junk:=[],tails:=[] },{ id:=5029004,known:=false,toks:=[],items:=[.slot 8 (.val (.int .i64))],junk:=[15,16,17,18,19,20],tails:=[] },{ id:=5029005,known:=false,toks:=[],items:=[.slot 30 (.val .bool)],junk:=[21,22,23,24,25,26,27,28,29],tails:=[] },{ id:=5029006,known:=true,toks:=[],items:=[.slot 6 (.val (.int .i64)), .slot 7 (.val (.int .i64))],junk:=[31,32,33],tails:=[] },{ id:=5029007,known:=false,toks:=[],items:=[.slot 6 (.val (.int .i64))],junk:=[31,32],tails:=[] },{ id:=5029008,known:=false,toks:=[],items:=[.slot 7 (.val (.int .i64))],junk:=[33],tails:=[] },{ id:=5029009,known:=true,toks:=[],items:=[.slot 4 (.val (.int .i64)), .slot 5 (.val .bool)],junk:=[34,35,36,37,38,39,40,41,42,43,44,45,46,47,48,49,50,51],tails:=[] }],[])
def sp3_22 : List LSpec×List Nat:=([{ id:=2200,known:=true,toks:=[],items:=[.slot 3 (.sref 1000003 true (.pair (.int .i64) (.pair (.int .i64) (.pair (.list (.int .u8)) .unit)))), .vec 1000003 (.pair (.int .i64) (.pair (.int .i64) (.pair (.list (.int .u8)) .unit))), .slot 11 (.val (.int .i64))],junk:=[12,13,14,5,15,16,17,18,19,20],tails:=[] }],[1000000005])
def sp3_30 : List LSpec×List Nat:=([],[1000000005])
def sp3_32 : List LSpec×List Nat:=([],[2000000007,2000000009])
def sp3_10 : List LSpec×List Nat:=([{ id:=5010000,known:=false,toks:=[],items:=[],junk:=[6,7],tails:=[] },{ id:=5010001,known:=false,toks:=[],items:=[.slot 8 (.val (.int .i64))],junk:=[14,15,16],tails:=[] },{ id:=5010002,known:=false,toks:=[],items:=[.slot 18 (.val .bool)],junk:=[17],tails:=[] },{ id:=5010003,known:=false,toks:=[],items:=[],junk:=[19,6,7],tails:=[] },{ id:=5010004,known:=false,toks:=[],items:=[.slot 7 (.val (.int .i64))],junk:=[19],tails:=[] },{ id:=5010005,known:=false,toks:=[],items:=[],junk:=[20,21],tails:=[] },{ id:=5010006,known:=false,toks:=[],items:=[.slot 23 (.val (.int .i64)), .slot 24 (.val (.int .i64))],junk:=[],tails:=[] },{ id:=1000,known:=false,toks:=[],items:=[],junk:=[],tails:=[] },{ id:=5010007,known:=false,toks:=[],items:=[],junk:=[],tails:=[] },{ id:=5010008,known:=false,toks:=[],items:=[],junk:=[],tails:=[] },{ id:=5010009,known:=false,toks:=[],items:=[],junk:=[26,27],tails:=[] },{ id:=5010010,known:=false,toks:=[],items:=[.slot 12 (.val (.int .i64)), .slot 13 (.val .bool)],junk:=[29,30,31,32,33,28,34,35],tails:=[] },{ id:=5010011,known:=true,toks:=[],items:=[.slot 42 (.val .bool)],junk:=[36,37,38,39,40,41],tails:=[] },{ id:=5010012,known:=false,toks:=[],items:=[],junk:=[6,7],tails:=[] },{ id:=5010013,known:=false,toks:=[],items:=[.slot 7 (.val (.int .i64))],junk:=[],tails:=[] },{ id:=5010014,known:=false,toks:=[],items:=[],junk:=[43,44,45,46,47,48],tails:=[] },{ id:=5010015,known:=false,toks:=[],items:=[.slot 24 (.val (.int .i64))],junk:=[49],tails:=[] },{ id:=5010016,known:=false,toks:=[],items:=[.slot 7 (.val (.int .i64))],junk:=[50],tails:=[] }],[])
def sp3_23 : List LSpec×List Nat:=([{ id:=5023000,known:=false,toks:=[],items:=[],junk:=[4],tails:=[] },{ id:=5023001,known:=true,toks:=[],items:=[.slot 4 (.val .bool)],junk:=[5,6,7,8,9,10,11,12,13,14,15,16,17,18,19,20,21,22,23],tails:=[] }],[])
def sp3_12 : List LSpec×List Nat:=([{ id:=5012000,known:=false,toks:=[],items:=[],junk:=[0],tails:=[] },{ id:=5012001,known:=false,toks:=[],items:=[.slot 2 (.val (.int .i64))],junk:=[8,9,10,7,11,12],tails:=[] },{ id:=5012002,known:=false,toks:=[],items:=[.slot 4 (.val (.int .i64))],junk:=[14,15,16,17,13,18,19],tails:=[] },{ id:=5012003,known:=false,toks:=[],items:=[.slot 6 (.val (.int .i64))],junk:=[21,22,23,24,20,25,26],tails:=[] },{ id:=5012004,known:=true,toks:=[],items:=[.slot 0 (.val .bool)],junk:=[27,28,29,30,31,32,33,34,35,36,37,38,39,40,41,42,43,44,45,46,47,48],tails:=[] }],[])
def sp3_3 : List LSpec×List Nat:=([{ id:=5003000,known:=false,toks:=[],items:=[],junk:=[0],tails:=[] },{ id:=5003001,known:=false,toks:=[],items:=[.slot 2 (.val (.int .i64))],junk:=[10,11,12,9,13,14,1],tails:=[] },{ id:=5003002,known:=false,toks:=[],items:=[.slot 4 (.val (.int .i64))],junk:=[16,17,18,19,20,15,21,22,3],tails:=[] },{ id:=5003003,known:=false,toks:=[],items:=[.slot 6 (.val (.int .i64))],junk:=[24,25,26,27,28,29,23,30,31,5],tails:=[] },{ id:=5003004,known:=false,toks:=[],items:=[.slot 8 (.val (.int .i64))],junk:=[33,34,35,36,37,38,32,39,40],tails:=[] },{ id:=5003005,known:=true,toks:=[],items:=[.slot 0 (.val .bool)],junk:=[41,42,43,44,45,46,47,48,49,50,51,52,53,54,55,56,57,58,59,60,61,62,63,64,65,66,67,68,69,70,71,72,73,74,75,76,77,78,79,80,81,82,83,84,85,86],tails:=[] }],[])
def spt3 : Tab (List LSpec×List Nat):=(.node (.node (.node (.node (.node (.node .leaf (some sp3_31) .leaf) none .leaf) none (.node .leaf (some sp3_23) (.node .leaf (some sp3_55) .leaf))) (some sp3_3) .leaf) none (.node .leaf none (.node .leaf (some sp3_13) (.node .leaf (some sp3_29) .leaf)))) none (.node (.node (.node (.node (.node .leaf (some sp3_32) .leaf) none .leaf) none .leaf) none (.node .leaf (some sp3_12) .leaf)) none (.node (.node (.node (.node .leaf (some sp3_34) .leaf) none .leaf) (some sp3_10) .leaf) none (.node (.node .leaf (some sp3_22) .leaf) none (.node .leaf (some sp3_30) .leaf)))))
def spf3 (f : Nat) : List LSpec×List Nat:=(spt3.get f).getD ([],[])
theorem yWd : zZt Try.prog cfg 3 zXt:=fnD spf3 (l:=[(8,zJ4),(9,yWe),(7,yZh),(11,zJ3),(10,yKx),(12,yWx),(13,zZn)]) zK3 zW7 (.cons yQ4 (.cons yZg (.cons xQ8 (.cons zYp (.cons xXy (.cons yYa (.cons zZ4 .nil))))))) (fun d=>by kernel_rfl)
end
end Go.Proofs.Ytampmlalpifkoaa
