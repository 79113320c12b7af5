/- The functions of the program, as functions on plain data. -/
import Derived.Test.YtampmlalpifkoaaCfg
import Derived.Test.YtampmlalpifkoaaM6
import Derived.ProofKit
namespace Go.Proofs.Ytampmlalpifkoaa
open Go.Eng
noncomputable section
set_option linter.unusedVariables false
set_option maxRecDepth 100000
def sp0 (f : Nat) : List LSpec×List Nat:=([],[])
def zKm (d0 : Unit) : Option ((Int)×((Int)×((Int)×((Int)×(Unit))))) :=
 some (8,(1,(3,(73,()))))
def yWp : PFn:={ args:=[],res:=[(.pair (.int .i64) (.pair (.int .i64) (.pair (.int .i64) (.pair (.int .i64) .unit))))],fn:=zKm }
def sp8_22 : List LSpec×List Nat:=([{ id:=2200,known:=true,toks:=[],items:=[.slot 3 (.sref 1000003 true (.pair (.int .i64) (.pair (.int .i64) (.pair (.list (.int .u8)) .unit)))), .vec 1000003 (.pair (.int .i64) (.pair (.int .i64) (.pair (.list (.int .u8)) .unit))), .slot 11 (.val (.int .i64))],junk:=[12,13,14,5,15,16,17,18,19,20],tails:=[] }],[1000000005])
def sp8_32 : List LSpec×List Nat:=([],[2000000007,2000000009])
def sp8_30 : List LSpec×List Nat:=([],[1000000005])
def spt8 : Tab (List LSpec×List Nat):=(.node .leaf none (.node (.node (.node (.node (.node .leaf (some sp8_32) .leaf) none .leaf) none .leaf) none .leaf) none (.node .leaf none (.node (.node .leaf (some sp8_22) .leaf) none (.node .leaf (some sp8_30) .leaf)))))
def spf8 (f : Nat) : List LSpec×List Nat:=(spt8.get f).getD ([],[])
theorem yJy : zZi Try.prog cfg 8 yWp:=fnD spf8 (l:=[]) zKv zWx .nil (fun d=>by kernel_rfl)
def zXz (d0 : (Int)×(Int)) : Option ((Int)×((Int)×((List (Int))×(Unit)))) :=
 if (Z.Le (Z.addN 0 1) (Z.len (d0.2::([] : List (Int))))) then some (d0.1,(0,((Z.seg (d0.2::([] : List (Int))) 0 1),())))
 else none
def yQ1 : PFn:={ args:=[(.int .i64),(.int .u8)],res:=[(.pair (.int .i64) (.pair (.int .i64) (.pair (.list (.int .u8)) .unit)))],fn:=zXz }
def vQi : List LSpec×List Nat:=([{ id:=2200,known:=true,toks:=[],items:=[.slot 3 (.sref 1000003 true (.pair (.int .i64) (.pair (.int .i64) (.pair (.list (.int .u8)) .unit)))), .vec 1000003 (.pair (.int .i64) (.pair (.int .i64) (.pair (.list (.int .u8)) .unit))), .slot 11 (.val (.int .i64))],junk:=[12,13,14,5,15,16,17,18,19,20],tails:=[] }],[1000000005])
def vQg : List LSpec×List Nat:=([],[2000000007,2000000009])
def vQh : List LSpec×List Nat:=([],[1000000005])
def spt11 : Tab (List LSpec×List Nat):=(.node .leaf none (.node (.node (.node (.node (.node .leaf (some vQg) .leaf) none .leaf) none .leaf) none .leaf) none (.node .leaf none (.node (.node .leaf (some vQi) .leaf) none (.node .leaf (some vQh) .leaf)))))
def spf11 (f : Nat) : List LSpec×List Nat:=(spt11.get f).getD ([],[])
theorem yX3 : zZi Try.prog cfg 11 yQ1:=fnD spf11 (l:=[]) zKv zWx .nil (fun d=>by kernel_rfl)
def yWu (d0 : Int) : Option (Int) :=
 (bif (Z.ilt d0 1) then some 2
 else (bif (Z.zQj false true (Z.igt d0 6)) then some 2
 else some 0))
def yKo : PFn:={ args:=[(.int .i64)],res:=[(.int .i64)],fn:=yWu }
def wJ3 : List LSpec×List Nat:=([{ id:=2200,known:=true,toks:=[],items:=[.slot 3 (.sref 1000003 true (.pair (.int .i64) (.pair (.int .i64) (.pair (.list (.int .u8)) .unit)))), .vec 1000003 (.pair (.int .i64) (.pair (.int .i64) (.pair (.list (.int .u8)) .unit))), .slot 11 (.val (.int .i64))],junk:=[12,13,14,5,15,16,17,18,19,20],tails:=[] }],[1000000005])
def wJ1 : List LSpec×List Nat:=([],[2000000007,2000000009])
def wJ2 : List LSpec×List Nat:=([],[1000000005])
def spt55 : Tab (List LSpec×List Nat):=(.node .leaf none (.node (.node (.node (.node (.node .leaf (some wJ1) .leaf) none .leaf) none .leaf) none .leaf) none (.node .leaf none (.node (.node .leaf (some wJ3) .leaf) none (.node .leaf (some wJ2) .leaf)))))
def spf55 (f : Nat) : List LSpec×List Nat:=(spt55.get f).getD ([],[])
theorem xXm : zZi Try.prog cfg 55 yKo:=fnD spf55 (l:=[]) zKv zWx .nil (fun d=>by kernel_rfl)
def zJg (d0 : Int) : Option ((Int)×(Int)) :=
 Z.bind (yWu d0) fun (x1 : Int) =>
 (bif (Z.ine x1 0) then some (0,x1)
 else if (Z.Neg d0) then none
 else Z.bnd (Z.shl .i64 1 d0) fun (x4 : Int) =>
 some (x4,0))
def zYf : PFn:={ args:=[(.int .i64)],res:=[(.int .i64),(.int .i64)],fn:=zJg }
def wJ9 : List LSpec×List Nat:=([{ id:=2200,known:=true,toks:=[],items:=[.slot 3 (.sref 1000003 true (.pair (.int .i64) (.pair (.int .i64) (.pair (.list (.int .u8)) .unit)))), .vec 1000003 (.pair (.int .i64) (.pair (.int .i64) (.pair (.list (.int .u8)) .unit))), .slot 11 (.val (.int .i64))],junk:=[12,13,14,5,15,16,17,18,19,20],tails:=[] }],[1000000005])
def wJ7 : List LSpec×List Nat:=([],[2000000007,2000000009])
def wJ8 : List LSpec×List Nat:=([],[1000000005])
def spt47 : Tab (List LSpec×List Nat):=(.node .leaf none (.node (.node (.node (.node (.node .leaf (some wJ7) .leaf) none .leaf) none .leaf) none .leaf) none (.node .leaf none (.node (.node .leaf (some wJ9) .leaf) none (.node .leaf (some wJ8) .leaf)))))
def spf47 (f : Nat) : List LSpec×List Nat:=(spt47.get f).getD ([],[])
theorem yWn : zZi Try.prog cfg 47 zYf:=fnD spf47 (l:=[(55,yKo)]) zKv zWx (.cons xXm .nil) (fun d=>by kernel_rfl)
def yWg (d0 : (Int)×((Int)×((Int)×((Int)×(Unit))))) : Option (Int) :=
 Z.bnd (Z.wrap .i64 (Z.add 8 d0.2.1)) fun (x1 : Int) =>
 some x1
def yKm : PFn:={ args:=[(.pair (.int .i64) (.pair (.int .i64) (.pair (.int .i64) (.pair (.int .i64) .unit))))],res:=[(.int .i64)],fn:=yWg }
def wJ6 : List LSpec×List Nat:=([{ id:=2200,known:=true,toks:=[],items:=[.slot 3 (.sref 1000003 true (.pair (.int .i64) (.pair (.int .i64) (.pair (.list (.int .u8)) .unit)))), .vec 1000003 (.pair (.int .i64) (.pair (.int .i64) (.pair (.list (.int .u8)) .unit))), .slot 11 (.val (.int .i64))],junk:=[12,13,14,5,15,16,17,18,19,20],tails:=[] }],[1000000005])
def wJ4 : List LSpec×List Nat:=([],[2000000007,2000000009])
def wJ5 : List LSpec×List Nat:=([],[1000000005])
def spt51 : Tab (List LSpec×List Nat):=(.node .leaf none (.node (.node (.node (.node (.node .leaf (some wJ4) .leaf) none .leaf) none .leaf) none .leaf) none (.node .leaf none (.node (.node .leaf (some wJ6) .leaf) none (.node .leaf (some wJ5) .leaf)))))
def spf51 (f : Nat) : List LSpec×List Nat:=(spt51.get f).getD ([],[])
theorem xXk : zZi Try.prog cfg 51 yKm:=fnD spf51 (l:=[]) zKv zWx .nil (fun d=>by kernel_rfl)
def zK9 (d0 : (Int)×((Int)×((Int)×((Int)×(Unit))))) : Option ((Int)×(Int)) :=
 (bif (Z.ilt d0.1 1) then some (0,8)
 else (bif (Z.zQj false true (Z.igt d0.1 64)) then some (0,8)
 else (bif (Z.zQj false true (Z.ilt d0.2.1 1)) then some (0,8)
 else (bif (Z.zQj false true (Z.igt d0.2.1 32)) then some (0,8)
 else Z.bind (zJg d0.2.2.1) fun (x1 : (Int)×(Int)) =>
 (bif (Z.ine x1.2 0) then some (0,8)
 else (bif (Z.zQj false true (Z.ilt x1.1 d0.1)) then some (0,8)
 else Z.loop (fun (s2 : Int) k3 =>
 (bif (Z.ile s2 4) then Z.bind (yWg (d0.1,(d0.2.1,(d0.2.2.1,(d0.2.2.2.1,()))))) fun (x4 : Int) =>
 Z.bnd (Z.wrap .i64 (Z.mul s2 x4)) fun (x5 : Int) =>
 Z.bnd (Z.wrap .i64 (Z.add x5 64)) fun (x6 : Int) =>
 (bif (Z.ieq d0.2.2.2.1 x6) then some (s2,0)
 else Z.bnd (Z.wrap .i64 (Z.add s2 1)) fun (x7 : Int) =>
 k3 x7)
 else some (0,8))) 1))))))
def zYc : PFn:={ args:=[(.pair (.int .i64) (.pair (.int .i64) (.pair (.int .i64) (.pair (.int .i64) .unit))))],res:=[(.int .i64),(.int .i64)],fn:=zK9 }
def wYg : List LSpec×List Nat:=([{ id:=3400,known:=true,toks:=[],items:=[.slot 6 (.val (.int .i64))],junk:=[39,40,43,44,45,46,47,48,49,50,51,2,3,41,42],tails:=[] }],[])
def wYj : List LSpec×List Nat:=([{ id:=2200,known:=true,toks:=[],items:=[.slot 3 (.sref 1000003 true (.pair (.int .i64) (.pair (.int .i64) (.pair (.list (.int .u8)) .unit)))), .vec 1000003 (.pair (.int .i64) (.pair (.int .i64) (.pair (.list (.int .u8)) .unit))), .slot 11 (.val (.int .i64))],junk:=[12,13,14,5,15,16,17,18,19,20],tails:=[] }],[1000000005])
def wYh : List LSpec×List Nat:=([],[2000000007,2000000009])
def wYi : List LSpec×List Nat:=([],[1000000005])
def spt34 : Tab (List LSpec×List Nat):=(.node .leaf none (.node (.node (.node (.node (.node .leaf (some wYh) .leaf) none .leaf) none .leaf) none .leaf) none (.node (.node (.node (.node .leaf (some wYg) .leaf) none .leaf) none .leaf) none (.node (.node .leaf (some wYj) .leaf) none (.node .leaf (some wYi) .leaf)))))
def spf34 (f : Nat) : List LSpec×List Nat:=(spt34.get f).getD ([],[])
theorem yWj : zZi Try.prog cfg 34 zYc:=fnD spf34 (l:=[(47,zYf),(51,yKm)]) zKv zWx (.cons yWn (.cons xXk .nil)) (fun d=>by kernel_rfl)
def zJa (d0 : ((Int)×((Int)×((Int)×((Int)×(Unit)))))×((Int)×((Int)×((List (Int))×(Unit))))) : Option (Int) :=
 Z.bind (zK9 (d0.1.1,(d0.1.2.1,(d0.1.2.2.1,(d0.1.2.2.2.1,()))))) fun (x1 : (Int)×(Int)) =>
 (bif (Z.ine x1.2 0) then some x1.2
 else Z.bind (zJg d0.1.2.2.1) fun (x2 : (Int)×(Int)) =>
 (bif (Z.ilt d0.2.1 0) then some 8
 else (bif (Z.zQj false true (Z.ige d0.2.1 d0.1.1)) then some 8
 else (bif (Z.zQj false true (Z.ilt d0.2.2.1 0)) then some 8
 else (bif (Z.zQj false true (Z.ige d0.2.2.1 x2.1)) then some 8
 else (bif (Z.zQj false true (Z.ine (Z.ofN (Z.len d0.2.2.2.1)) d0.1.2.1)) then some 8
 else some 0))))))
def zYd : PFn:={ args:=[(.pair (.int .i64) (.pair (.int .i64) (.pair (.int .i64) (.pair (.int .i64) .unit)))),(.pair (.int .i64) (.pair (.int .i64) (.pair (.list (.int .u8)) .unit)))],res:=[(.int .i64)],fn:=zJa }
def wYp : List LSpec×List Nat:=([{ id:=2200,known:=true,toks:=[],items:=[.slot 3 (.sref 1000003 true (.pair (.int .i64) (.pair (.int .i64) (.pair (.list (.int .u8)) .unit)))), .vec 1000003 (.pair (.int .i64) (.pair (.int .i64) (.pair (.list (.int .u8)) .unit))), .slot 11 (.val (.int .i64))],junk:=[12,13,14,5,15,16,17,18,19,20],tails:=[] }],[1000000005])
def wYn : List LSpec×List Nat:=([],[2000000007,2000000009])
def wYo : List LSpec×List Nat:=([],[1000000005])
def spt31 : Tab (List LSpec×List Nat):=(.node .leaf none (.node (.node (.node (.node (.node .leaf (some wYn) .leaf) none .leaf) none .leaf) none .leaf) none (.node .leaf none (.node (.node .leaf (some wYp) .leaf) none (.node .leaf (some wYo) .leaf)))))
def spf31 (f : Nat) : List LSpec×List Nat:=(spt31.get f).getD ([],[])
theorem yWk : zZi Try.prog cfg 31 zYd:=fnD spf31 (l:=[(34,zYc),(47,zYf)]) zKv zWx (.cons yWj (.cons yWn .nil)) (fun d=>by kernel_rfl)
def zW5 (d0 : ((Int)×((Int)×((Int)×((Int)×(Unit)))))×(List ((Int)×((Int)×((List (Int))×(Unit)))))) : Option (Int) :=
 Z.bind (zK9 (d0.1.1,(d0.1.2.1,(d0.1.2.2.1,(d0.1.2.2.2.1,()))))) fun (x1 : (Int)×(Int)) =>
 (bif (Z.ine x1.2 0) then some x1.2
 else Z.loop (fun (s2 : Int) k3 =>
 (bif (Z.ilt s2 (Z.ofN (Z.len d0.2))) then if (Z.Ix s2 (Z.len d0.2)) then Z.bnd (Z.get d0.2 (Z.toN s2) (0,(0,(([] : List (Int)),())))) fun (x6 : (Int)×((Int)×((List (Int))×(Unit)))) =>
 Z.bind (zJa ((d0.1.1,(d0.1.2.1,(d0.1.2.2.1,(d0.1.2.2.2.1,())))),(x6.1,(x6.2.1,(x6.2.2.1,()))))) fun (x7 : Int) =>
 (bif (Z.ine x7 0) then some 8
 else (bif (Z.igt s2 0) then Z.bnd (Z.wrap .i64 (Z.sub s2 1)) fun (x8 : Int) =>
 if (Z.Ix x8 (Z.len d0.2)) then Z.bnd (Z.get d0.2 (Z.toN x8) (0,(0,(([] : List (Int)),())))) fun (x11 : (Int)×((Int)×((List (Int))×(Unit)))) =>
 (bif (Z.zQj false true (Z.zQj true (Z.ige x11.1 x6.1) false)) then some 8
 else Z.bnd (Z.wrap .i64 (Z.add s2 1)) fun (x12 : Int) =>
 k3 x12)
 else none
 else Z.bnd (Z.wrap .i64 (Z.add s2 1)) fun (x13 : Int) =>
 k3 x13))
 else none
 else some 0)) 0)
def zZd : PFn:={ args:=[(.pair (.int .i64) (.pair (.int .i64) (.pair (.int .i64) (.pair (.int .i64) .unit)))),(.list (.pair (.int .i64) (.pair (.int .i64) (.pair (.list (.int .u8)) .unit))))],res:=[(.int .i64)],fn:=zW5 }
def vQc : List LSpec×List Nat:=([{ id:=1300,known:=true,toks:=[],items:=[.slot 19 (.val (.int .i64))],junk:=[20,21,22,23,8,7,24,25,26,27,28,29,30,31,32,33,34,35,36,37,38,39,40,41,42,4,43],tails:=[] }],[])
def vQb : List LSpec×List Nat:=([{ id:=2200,known:=true,toks:=[],items:=[.slot 3 (.sref 1000003 true (.pair (.int .i64) (.pair (.int .i64) (.pair (.list (.int .u8)) .unit)))), .vec 1000003 (.pair (.int .i64) (.pair (.int .i64) (.pair (.list (.int .u8)) .unit))), .slot 11 (.val (.int .i64))],junk:=[12,13,14,5,15,16,17,18,19,20],tails:=[] }],[1000000005])
def wY9 : List LSpec×List Nat:=([],[2000000007,2000000009])
def vQa : List LSpec×List Nat:=([],[1000000005])
def spt13 : Tab (List LSpec×List Nat):=(.node (.node .leaf none (.node .leaf none (.node .leaf (some vQc) .leaf))) none (.node (.node (.node (.node (.node .leaf (some wY9) .leaf) none .leaf) none .leaf) none .leaf) none (.node .leaf none (.node (.node .leaf (some vQb) .leaf) none (.node .leaf (some vQa) .leaf)))))
def spf13 (f : Nat) : List LSpec×List Nat:=(spt13.get f).getD ([],[])
theorem zZv : zZi Try.prog cfg 13 zZd:=fnD spf13 (l:=[(34,zYc),(31,zYd)]) zKv zWx (.cons yWj (.cons yWk .nil)) (fun d=>by kernel_rfl)
def zWe (d0 : List (Int)) : Option (List (Int)) :=
 if (Z.Le (Z.addN 0 0) (Z.len ([] : List (Int)))) then if (Z.Big (Z.len (Z.seg ([] : List (Int)) 0 0)) (Z.len d0) 1) then none
 else Z.bnd (Z.app (Z.seg ([] : List (Int)) 0 0) d0) fun (x5 : List (Int)) =>
 some x5
 else none
def zX4 : PFn:={ args:=[(.list (.int .u8))],res:=[(.list (.int .u8))],fn:=zWe }
def cx50 : CloneX Try.prog cfg 50 5 (.int .u8) := clx xf50 5 (xf50.body.cOps.getD 0 ⟨none, .move (.tmp 0), 0, "", #[], none⟩) (xf50.body.cOps.getD 1 ⟨none, .move (.tmp 0), 0, "", #[], none⟩) (by kernel_rfl) (by kernel_rfl) (by kernel_rfl) (by kernel_rfl) (by kernel_rfl) (by kernel_rfl) (by kernel_rfl) (by kernel_rfl) (by kernel_rfl)
theorem zK4 : zZi Try.prog cfg 50 zX4:=cloneD sp0 zKv zWx cx50 (of_decide_eq_true (by kernel_rfl)) (by kernel_rfl) (by kernel_rfl) (by kernel_rfl) (fun d=>by kernel_rfl) (fun d=>by kernel_rfl) (by kernel_rfl) (fun d r h=>by
  unfold zWe at h
  split at h
  · split at h
    · cases h
    · have h1 : some d = some r := h
      exact (Option.some.inj h1).symm
  · cases h)
def zXn (d0 : (Int)×((Int)×((List (Int))×(Unit)))) : Option ((Int)×((Int)×((List (Int))×(Unit)))) :=
 Z.bind (zWe d0.2.2.1) fun (x1 : List (Int)) =>
 some (d0.1,(d0.2.1,(x1,())))
def zJr : PFn:={ args:=[(.pair (.int .i64) (.pair (.int .i64) (.pair (.list (.int .u8)) .unit)))],res:=[(.pair (.int .i64) (.pair (.int .i64) (.pair (.list (.int .u8)) .unit)))],fn:=zXn }
def wYm : List LSpec×List Nat:=([{ id:=2200,known:=true,toks:=[],items:=[.slot 3 (.sref 1000003 true (.pair (.int .i64) (.pair (.int .i64) (.pair (.list (.int .u8)) .unit)))), .vec 1000003 (.pair (.int .i64) (.pair (.int .i64) (.pair (.list (.int .u8)) .unit))), .slot 11 (.val (.int .i64))],junk:=[12,13,14,5,15,16,17,18,19,20],tails:=[] }],[1000000005])
def wYk : List LSpec×List Nat:=([],[2000000007,2000000009])
def wYl : List LSpec×List Nat:=([],[1000000005])
def spt33 : Tab (List LSpec×List Nat):=(.node .leaf none (.node (.node (.node (.node (.node .leaf (some wYk) .leaf) none .leaf) none .leaf) none .leaf) none (.node .leaf none (.node (.node .leaf (some wYm) .leaf) none (.node .leaf (some wYl) .leaf)))))
def spf33 (f : Nat) : List LSpec×List Nat:=(spt33.get f).getD ([],[])
theorem zYb : zZi Try.prog cfg 33 zJr:=fnD spf33 (l:=[(50,zX4)]) zKv zWx (.cons zK4 .nil) (fun d=>by kernel_rfl)
def zXm (d0 : (Int)×((Int)×((List (Int))×(Unit)))) : Option (Int) :=
 some d0.1
def zZw : PFn:={ args:=[(.pair (.int .i64) (.pair (.int .i64) (.pair (.list (.int .u8)) .unit)))],res:=[(.int .i64)],fn:=zXm }
def wYc : List LSpec×List Nat:=([{ id:=2200,known:=true,toks:=[],items:=[.slot 3 (.sref 1000003 true (.pair (.int .i64) (.pair (.int .i64) (.pair (.list (.int .u8)) .unit)))), .vec 1000003 (.pair (.int .i64) (.pair (.int .i64) (.pair (.list (.int .u8)) .unit))), .slot 11 (.val (.int .i64))],junk:=[12,13,14,5,15,16,17,18,19,20],tails:=[] }],[1000000005])
def wYa : List LSpec×List Nat:=([],[2000000007,2000000009])
def wYb : List LSpec×List Nat:=([],[1000000005])
def spt46 : Tab (List LSpec×List Nat):=(.node .leaf none (.node (.node (.node (.node (.node .leaf (some wYa) .leaf) none .leaf) none .leaf) none .leaf) none (.node .leaf none (.node (.node .leaf (some wYc) .leaf) none (.node .leaf (some wYb) .leaf)))))
def spf46 (f : Nat) : List LSpec×List Nat:=(spt46.get f).getD ([],[])
theorem zKk : zZi Try.prog cfg 46 zZw:=fnD spf46 (l:=[]) zKv zWx .nil (fun d=>by kernel_rfl)
def zKd (d0 : ((Int)×((Int)×((Int)×((Int)×(Unit)))))×((List ((Int)×((Int)×((List (Int))×(Unit)))))×((Int)×((Int)×((List (Int))×(Unit)))))) : Option ((List ((Int)×((Int)×((List (Int))×(Unit)))))×(Int)) :=
 Z.bind (zW5 ((d0.1.1,(d0.1.2.1,(d0.1.2.2.1,(d0.1.2.2.2.1,())))),d0.2.1)) fun (x1 : Int) =>
 (bif (Z.ine x1 0) then some (([] : List ((Int)×((Int)×((List (Int))×(Unit))))),x1)
 else Z.bind (zJa ((d0.1.1,(d0.1.2.1,(d0.1.2.2.1,(d0.1.2.2.2.1,())))),(d0.2.2.1,(d0.2.2.2.1,(d0.2.2.2.2.1,()))))) fun (x2 : Int) =>
 (bif (Z.ine x2 0) then some (([] : List ((Int)×((Int)×((List (Int))×(Unit))))),x2)
 else if (Z.MkOk 0 (Z.ofN (Z.len d0.2.1)) 40) then Z.loop (fun (s5 : ((Nat)×((Nat)×(Nat)))×((List ((Int)×((Int)×((List (Int))×(Unit)))))×(Int))) k6 =>
 (bif (Z.ilt s5.2.2 (Z.ofN (Z.len d0.2.1))) then if (Z.Ix s5.2.2 (Z.len d0.2.1)) then Z.bnd (Z.get d0.2.1 (Z.toN s5.2.2) (0,(0,(([] : List (Int)),())))) fun (x9 : (Int)×((Int)×((List (Int))×(Unit)))) =>
 Z.bind (zXn (x9.1,(x9.2.1,(x9.2.2.1,())))) fun (x10 : (Int)×((Int)×((List (Int))×(Unit)))) =>
 if (Z.Le (Z.addN 0 1) (Z.len ((x10.1,(x10.2.1,(x10.2.2.1,())))::([] : List ((Int)×((Int)×((List (Int))×(Unit)))))))) then if (Z.Le (Z.addN s5.1.1 s5.1.2.1) (Z.len s5.2.1)) then if (Z.Big (Z.len (Z.seg s5.2.1 s5.1.1 s5.1.2.1)) (Z.len (Z.seg ((x10.1,(x10.2.1,(x10.2.2.1,())))::([] : List ((Int)×((Int)×((List (Int))×(Unit)))))) 0 1)) 40) then none
 else if (Z.Le (Z.addN s5.1.2.1 (Z.len (Z.seg ((x10.1,(x10.2.1,(x10.2.2.1,())))::([] : List ((Int)×((Int)×((List (Int))×(Unit)))))) 0 1))) s5.1.2.2) then if (Z.Le (Z.addN s5.1.1 (Z.addN s5.1.2.1 (Z.len (Z.seg ((x10.1,(x10.2.1,(x10.2.2.1,())))::([] : List ((Int)×((Int)×((List (Int))×(Unit)))))) 0 1)))) (Z.len s5.2.1)) then Z.bnd (Z.put s5.2.1 (Z.addN s5.1.1 s5.1.2.1) (Z.seg ((x10.1,(x10.2.1,(x10.2.2.1,())))::([] : List ((Int)×((Int)×((List (Int))×(Unit)))))) 0 1)) fun (x21 : List ((Int)×((Int)×((List (Int))×(Unit))))) =>
 Z.bnd (Z.wrap .i64 (Z.add s5.2.2 1)) fun (x22 : Int) =>
 k6 ((s5.1.1,((Z.addN s5.1.2.1 (Z.len (Z.seg ((x10.1,(x10.2.1,(x10.2.2.1,())))::([] : List ((Int)×((Int)×((List (Int))×(Unit)))))) 0 1))),s5.1.2.2)),(x21,x22))
 else none
 else none
 else none
 else none
 else none
 else Z.loop (fun (s23 : (Int)×(Int)) k24 =>
 (bif (Z.ilt s23.1 s23.2) then Z.bnd (Z.wrap .i64 (Z.sub s23.2 s23.1)) fun (x25 : Int) =>
 if (Z.IsZ 2) then none
 else Z.bnd (Z.wrap .i64 (Z.tdiv x25 2)) fun (x28 : Int) =>
 Z.bnd (Z.wrap .i64 (Z.add s23.1 x28)) fun (x29 : Int) =>
 if (Z.In x29 s5.1.2.1) then if (Z.Lt (Z.addN s5.1.1 (Z.toN x29)) (Z.len s5.2.1)) then Z.bnd (Z.get s5.2.1 (Z.addN s5.1.1 (Z.toN x29)) (0,(0,(([] : List (Int)),())))) fun (x34 : (Int)×((Int)×((List (Int))×(Unit)))) =>
 Z.bind (zXm (x34.1,(x34.2.1,(x34.2.2.1,())))) fun (x35 : Int) =>
 (bif (Z.ilt x35 d0.2.2.1) then Z.bnd (Z.wrap .i64 (Z.add x29 1)) fun (x36 : Int) =>
 k24 (x36,s23.2)
 else k24 (s23.1,x29))
 else none
 else none
 else (bif (Z.ilt s23.1 (Z.ofN s5.1.2.1)) then if (Z.In s23.1 s5.1.2.1) then if (Z.Lt (Z.addN s5.1.1 (Z.toN s23.1)) (Z.len s5.2.1)) then Z.bnd (Z.get s5.2.1 (Z.addN s5.1.1 (Z.toN s23.1)) (0,(0,(([] : List (Int)),())))) fun (x41 : (Int)×((Int)×((List (Int))×(Unit)))) =>
 Z.bind (zXm (x41.1,(x41.2.1,(x41.2.2.1,())))) fun (x42 : Int) =>
 (bif (Z.zQj true (Z.ieq x42 d0.2.2.1) false) then Z.bind (zXn (d0.2.2.1,(d0.2.2.2.1,(d0.2.2.2.2.1,())))) fun (x43 : (Int)×((Int)×((List (Int))×(Unit)))) =>
 if (Z.In s23.1 s5.1.2.1) then if (Z.Lt (Z.addN s5.1.1 (Z.toN s23.1)) (Z.len s5.2.1)) then Z.bnd (Z.set s5.2.1 (Z.addN s5.1.1 (Z.toN s23.1)) (x43.1,(x43.2.1,(x43.2.2.1,())))) fun (x48 : List ((Int)×((Int)×((List (Int))×(Unit))))) =>
 if (Z.Le (Z.addN s5.1.1 s5.1.2.1) (Z.len x48)) then some ((Z.seg x48 s5.1.1 s5.1.2.1),0)
 else none
 else none
 else none
 else Z.bind (zXn (d0.2.2.1,(d0.2.2.2.1,(d0.2.2.2.2.1,())))) fun (x51 : (Int)×((Int)×((List (Int))×(Unit)))) =>
 if (Z.Bd s23.1 s5.1.2.1) then if (Z.Lt (Z.toN s23.1) s5.1.2.2) then (bif (Z.ieq (Z.ofN 1) 0) then if (Z.Le (Z.addN s5.1.1 s5.1.2.1) (Z.len s5.2.1)) then some ((Z.seg s5.2.1 s5.1.1 s5.1.2.1),0)
 else none
 else (bif (Z.ieq s23.1 (Z.ofN s5.1.2.1)) then if (Z.Le (Z.addN 0 1) (Z.len ((x51.1,(x51.2.1,(x51.2.2.1,())))::([] : List ((Int)×((Int)×((List (Int))×(Unit)))))))) then if (Z.Le (Z.addN s5.1.1 s5.1.2.1) (Z.len s5.2.1)) then if (Z.Big (Z.len (Z.seg s5.2.1 s5.1.1 s5.1.2.1)) (Z.len (Z.seg ((x51.1,(x51.2.1,(x51.2.2.1,())))::([] : List ((Int)×((Int)×((List (Int))×(Unit)))))) 0 1)) 40) then none
 else if (Z.Le (Z.addN s5.1.2.1 (Z.len (Z.seg ((x51.1,(x51.2.1,(x51.2.2.1,())))::([] : List ((Int)×((Int)×((List (Int))×(Unit)))))) 0 1))) s5.1.2.2) then none
 else Z.bnd (Z.app (Z.seg s5.2.1 s5.1.1 s5.1.2.1) (Z.seg ((x51.1,(x51.2.1,(x51.2.2.1,())))::([] : List ((Int)×((Int)×((List (Int))×(Unit)))))) 0 1)) fun (x66 : List ((Int)×((Int)×((List (Int))×(Unit))))) =>
 if (Z.Le (Z.addN 0 (Z.len x66)) (Z.len x66)) then some ((Z.seg x66 0 (Z.len x66)),0)
 else none
 else none
 else none
 else Z.bnd (Z.wrap .i64 (Z.add (Z.ofN s5.1.2.1) (Z.ofN 1))) fun (x69 : Int) =>
 (bif (Z.igt x69 (Z.ofN s5.1.2.2)) then if (Z.Bd s23.1 s5.1.2.2) then if (Z.Lt 0 s5.1.2.2) then Z.bnd (Z.wrap .i64 (Z.add (Z.ofN s5.1.2.1) (Z.ofN 1))) fun (x74 : Int) =>
 Z.bnd (Z.wrap .i64 (Z.sub x74 s23.1)) fun (x75 : Int) =>
 if (Z.ZOk x75 40) then Z.bnd (Z.rep (α:=(Int)×((Int)×((List (Int))×(Unit)))) (Z.toN x75) (0,(0,(([] : List (Int)),())))) fun (x78 : List ((Int)×((Int)×((List (Int))×(Unit))))) =>
 if (Z.Le (Z.addN (Z.addN s5.1.1 0) (Z.subN (Z.toN s23.1) 0)) (Z.len s5.2.1)) then if (Z.Big (Z.len (Z.seg s5.2.1 (Z.addN s5.1.1 0) (Z.subN (Z.toN s23.1) 0))) (Z.len x78) 40) then none
 else if (Z.Le (Z.addN (Z.subN (Z.toN s23.1) 0) (Z.len x78)) (Z.subN s5.1.2.2 0)) then none
 else Z.bnd (Z.app (Z.seg s5.2.1 (Z.addN s5.1.1 0) (Z.subN (Z.toN s23.1) 0)) x78) fun (x85 : List ((Int)×((Int)×((List (Int))×(Unit))))) =>
 if (Z.Bd s23.1 (Z.len x85)) then if (Z.Lt (Z.toN s23.1) (Z.len x85)) then if (Z.Le (Z.addN 0 1) (Z.len ((x51.1,(x51.2.1,(x51.2.2.1,())))::([] : List ((Int)×((Int)×((List (Int))×(Unit)))))))) then if (Z.Le (Z.addN (Z.addN 0 (Z.toN s23.1)) (Z.subN (Z.len x85) (Z.toN s23.1))) (Z.len x85)) then Z.bnd (Z.wrap .i64 (Z.add s23.1 (Z.ofN 1))) fun (x94 : Int) =>
 if (Z.Bd x94 (Z.len x85)) then if (Z.Lt (Z.toN x94) (Z.len x85)) then if (Z.Bd s23.1 s5.1.2.1) then if (Z.Lt (Z.toN s23.1) s5.1.2.2) then if (Z.Le (Z.addN (Z.addN s5.1.1 (Z.toN s23.1)) (Z.subN s5.1.2.1 (Z.toN s23.1))) (Z.len s5.2.1)) then if (Z.Le (Z.addN (Z.addN 0 (Z.toN x94)) (Z.subN (Z.len x85) (Z.toN x94))) (Z.len (Z.put x85 (Z.addN 0 (Z.toN s23.1)) (Z.take (Z.minN (Z.len (Z.seg ((x51.1,(x51.2.1,(x51.2.2.1,())))::([] : List ((Int)×((Int)×((List (Int))×(Unit)))))) 0 1)) (Z.subN (Z.len x85) (Z.toN s23.1))) (Z.seg ((x51.1,(x51.2.1,(x51.2.2.1,())))::([] : List ((Int)×((Int)×((List (Int))×(Unit)))))) 0 1))))) then if (Z.Le (Z.addN 0 (Z.len x85)) (Z.len (Z.put (Z.put x85 (Z.addN 0 (Z.toN s23.1)) (Z.take (Z.minN (Z.len (Z.seg ((x51.1,(x51.2.1,(x51.2.2.1,())))::([] : List ((Int)×((Int)×((List (Int))×(Unit)))))) 0 1)) (Z.subN (Z.len x85) (Z.toN s23.1))) (Z.seg ((x51.1,(x51.2.1,(x51.2.2.1,())))::([] : List ((Int)×((Int)×((List (Int))×(Unit)))))) 0 1))) (Z.addN 0 (Z.toN x94)) (Z.take (Z.minN (Z.len (Z.seg s5.2.1 (Z.addN s5.1.1 (Z.toN s23.1)) (Z.subN s5.1.2.1 (Z.toN s23.1)))) (Z.subN (Z.len x85) (Z.toN x94))) (Z.seg s5.2.1 (Z.addN s5.1.1 (Z.toN s23.1)) (Z.subN s5.1.2.1 (Z.toN s23.1))))))) then some ((Z.seg (Z.put (Z.put x85 (Z.addN 0 (Z.toN s23.1)) (Z.take (Z.minN (Z.len (Z.seg ((x51.1,(x51.2.1,(x51.2.2.1,())))::([] : List ((Int)×((Int)×((List (Int))×(Unit)))))) 0 1)) (Z.subN (Z.len x85) (Z.toN s23.1))) (Z.seg ((x51.1,(x51.2.1,(x51.2.2.1,())))::([] : List ((Int)×((Int)×((List (Int))×(Unit)))))) 0 1))) (Z.addN 0 (Z.toN x94)) (Z.take (Z.minN (Z.len (Z.seg s5.2.1 (Z.addN s5.1.1 (Z.toN s23.1)) (Z.subN s5.1.2.1 (Z.toN s23.1)))) (Z.subN (Z.len x85) (Z.toN x94))) (Z.seg s5.2.1 (Z.addN s5.1.1 (Z.toN s23.1)) (Z.subN s5.1.2.1 (Z.toN s23.1))))) 0 (Z.len x85)),0)
 else none
 else none
 else none
 else if (Z.Le (Z.addN (Z.addN 0 (Z.toN x94)) (Z.subN (Z.len x85) (Z.toN x94))) (Z.len (Z.put x85 (Z.addN 0 (Z.toN s23.1)) (Z.take (Z.minN (Z.len (Z.seg ((x51.1,(x51.2.1,(x51.2.2.1,())))::([] : List ((Int)×((Int)×((List (Int))×(Unit)))))) 0 1)) (Z.subN (Z.len x85) (Z.toN s23.1))) (Z.seg ((x51.1,(x51.2.1,(x51.2.2.1,())))::([] : List ((Int)×((Int)×((List (Int))×(Unit)))))) 0 1))))) then if (Z.Le (Z.addN 0 (Z.len x85)) (Z.len (Z.put (Z.put x85 (Z.addN 0 (Z.toN s23.1)) (Z.take (Z.minN (Z.len (Z.seg ((x51.1,(x51.2.1,(x51.2.2.1,())))::([] : List ((Int)×((Int)×((List (Int))×(Unit)))))) 0 1)) (Z.subN (Z.len x85) (Z.toN s23.1))) (Z.seg ((x51.1,(x51.2.1,(x51.2.2.1,())))::([] : List ((Int)×((Int)×((List (Int))×(Unit)))))) 0 1))) (Z.addN 0 (Z.toN x94)) (Z.take (Z.minN (Z.len ([] : List ((Int)×((Int)×((List (Int))×(Unit)))))) (Z.subN (Z.len x85) (Z.toN x94))) ([] : List ((Int)×((Int)×((List (Int))×(Unit))))))))) then some ((Z.seg (Z.put (Z.put x85 (Z.addN 0 (Z.toN s23.1)) (Z.take (Z.minN (Z.len (Z.seg ((x51.1,(x51.2.1,(x51.2.2.1,())))::([] : List ((Int)×((Int)×((List (Int))×(Unit)))))) 0 1)) (Z.subN (Z.len x85) (Z.toN s23.1))) (Z.seg ((x51.1,(x51.2.1,(x51.2.2.1,())))::([] : List ((Int)×((Int)×((List (Int))×(Unit)))))) 0 1))) (Z.addN 0 (Z.toN x94)) (Z.take (Z.minN (Z.len ([] : List ((Int)×((Int)×((List (Int))×(Unit)))))) (Z.subN (Z.len x85) (Z.toN x94))) ([] : List ((Int)×((Int)×((List (Int))×(Unit))))))) 0 (Z.len x85)),0)
 else none
 else none
 else none
 else if (Z.Bd s23.1 s5.1.2.1) then if (Z.Lt (Z.toN s23.1) s5.1.2.2) then if (Z.Le (Z.addN (Z.addN s5.1.1 (Z.toN s23.1)) (Z.subN s5.1.2.1 (Z.toN s23.1))) (Z.len s5.2.1)) then none
 else none
 else none
 else none
 else none
 else none
 else none
 else if (Z.Le (Z.addN 0 1) (Z.len ((x51.1,(x51.2.1,(x51.2.2.1,())))::([] : List ((Int)×((Int)×((List (Int))×(Unit)))))))) then none
 else none
 else none
 else none
 else none
 else Z.bnd (Z.wrap .i64 (Z.add (Z.ofN s5.1.2.1) (Z.ofN 1))) fun (x121 : Int) =>
 Z.bnd (Z.wrap .i64 (Z.sub x121 s23.1)) fun (x122 : Int) =>
 if (Z.ZOk x122 40) then Z.bnd (Z.rep (α:=(Int)×((Int)×((List (Int))×(Unit)))) (Z.toN x122) (0,(0,(([] : List (Int)),())))) fun (x125 : List ((Int)×((Int)×((List (Int))×(Unit))))) =>
 none
 else none
 else none
 else Z.bnd (Z.wrap .i64 (Z.add (Z.ofN s5.1.2.1) (Z.ofN 1))) fun (x126 : Int) =>
 if (Z.Bd x126 s5.1.2.2) then if (Z.Lt 0 s5.1.2.2) then Z.bnd (Z.wrap .i64 (Z.add s23.1 (Z.ofN 1))) fun (x131 : Int) =>
 if (Z.Bd x131 (Z.subN (Z.toN x126) 0)) then if (Z.Lt (Z.toN x131) (Z.subN s5.1.2.2 0)) then none
 else none
 else none
 else Z.bnd (Z.wrap .i64 (Z.add s23.1 (Z.ofN 1))) fun (x136 : Int) =>
 if (Z.Bd x136 (Z.len ([] : List ((Int)×((Int)×((List (Int))×(Unit))))))) then Z.bnd (Z.slice ([] : List ((Int)×((Int)×((List (Int))×(Unit))))) (Z.toN x136) (Z.len ([] : List ((Int)×((Int)×((List (Int))×(Unit))))))) fun (x139 : List ((Int)×((Int)×((List (Int))×(Unit))))) =>
 none
 else none
 else none)))
 else (bif (Z.ieq (Z.ofN 1) 0) then if (Z.Le (Z.addN s5.1.1 s5.1.2.1) (Z.len s5.2.1)) then some ((Z.seg s5.2.1 s5.1.1 s5.1.2.1),0)
 else none
 else (bif (Z.ieq s23.1 (Z.ofN s5.1.2.1)) then if (Z.Le (Z.addN 0 1) (Z.len ((x51.1,(x51.2.1,(x51.2.2.1,())))::([] : List ((Int)×((Int)×((List (Int))×(Unit)))))))) then if (Z.Le (Z.addN s5.1.1 s5.1.2.1) (Z.len s5.2.1)) then if (Z.Big (Z.len (Z.seg s5.2.1 s5.1.1 s5.1.2.1)) (Z.len (Z.seg ((x51.1,(x51.2.1,(x51.2.2.1,())))::([] : List ((Int)×((Int)×((List (Int))×(Unit)))))) 0 1)) 40) then none
 else if (Z.Le (Z.addN s5.1.2.1 (Z.len (Z.seg ((x51.1,(x51.2.1,(x51.2.2.1,())))::([] : List ((Int)×((Int)×((List (Int))×(Unit)))))) 0 1))) s5.1.2.2) then none
 else Z.bnd (Z.app (Z.seg s5.2.1 s5.1.1 s5.1.2.1) (Z.seg ((x51.1,(x51.2.1,(x51.2.2.1,())))::([] : List ((Int)×((Int)×((List (Int))×(Unit)))))) 0 1)) fun (x150 : List ((Int)×((Int)×((List (Int))×(Unit))))) =>
 if (Z.Le (Z.addN 0 (Z.len x150)) (Z.len x150)) then some ((Z.seg x150 0 (Z.len x150)),0)
 else none
 else none
 else none
 else Z.bnd (Z.wrap .i64 (Z.add (Z.ofN s5.1.2.1) (Z.ofN 1))) fun (x153 : Int) =>
 (bif (Z.igt x153 (Z.ofN s5.1.2.2)) then if (Z.Bd s23.1 s5.1.2.2) then if (Z.Lt 0 s5.1.2.2) then Z.bnd (Z.wrap .i64 (Z.add (Z.ofN s5.1.2.1) (Z.ofN 1))) fun (x158 : Int) =>
 Z.bnd (Z.wrap .i64 (Z.sub x158 s23.1)) fun (x159 : Int) =>
 if (Z.ZOk x159 40) then Z.bnd (Z.rep (α:=(Int)×((Int)×((List (Int))×(Unit)))) (Z.toN x159) (0,(0,(([] : List (Int)),())))) fun (x162 : List ((Int)×((Int)×((List (Int))×(Unit))))) =>
 if (Z.Le (Z.addN (Z.addN s5.1.1 0) (Z.subN (Z.toN s23.1) 0)) (Z.len s5.2.1)) then if (Z.Big (Z.len (Z.seg s5.2.1 (Z.addN s5.1.1 0) (Z.subN (Z.toN s23.1) 0))) (Z.len x162) 40) then none
 else if (Z.Le (Z.addN (Z.subN (Z.toN s23.1) 0) (Z.len x162)) (Z.subN s5.1.2.2 0)) then none
 else Z.bnd (Z.app (Z.seg s5.2.1 (Z.addN s5.1.1 0) (Z.subN (Z.toN s23.1) 0)) x162) fun (x169 : List ((Int)×((Int)×((List (Int))×(Unit))))) =>
 if (Z.Bd s23.1 (Z.len x169)) then if (Z.Lt (Z.toN s23.1) (Z.len x169)) then if (Z.Le (Z.addN 0 1) (Z.len ((x51.1,(x51.2.1,(x51.2.2.1,())))::([] : List ((Int)×((Int)×((List (Int))×(Unit)))))))) then if (Z.Le (Z.addN (Z.addN 0 (Z.toN s23.1)) (Z.subN (Z.len x169) (Z.toN s23.1))) (Z.len x169)) then Z.bnd (Z.wrap .i64 (Z.add s23.1 (Z.ofN 1))) fun (x178 : Int) =>
 if (Z.Bd x178 (Z.len x169)) then if (Z.Lt (Z.toN x178) (Z.len x169)) then if (Z.Bd s23.1 s5.1.2.1) then if (Z.Lt (Z.toN s23.1) s5.1.2.2) then if (Z.Le (Z.addN (Z.addN s5.1.1 (Z.toN s23.1)) (Z.subN s5.1.2.1 (Z.toN s23.1))) (Z.len s5.2.1)) then if (Z.Le (Z.addN (Z.addN 0 (Z.toN x178)) (Z.subN (Z.len x169) (Z.toN x178))) (Z.len (Z.put x169 (Z.addN 0 (Z.toN s23.1)) (Z.take (Z.minN (Z.len (Z.seg ((x51.1,(x51.2.1,(x51.2.2.1,())))::([] : List ((Int)×((Int)×((List (Int))×(Unit)))))) 0 1)) (Z.subN (Z.len x169) (Z.toN s23.1))) (Z.seg ((x51.1,(x51.2.1,(x51.2.2.1,())))::([] : List ((Int)×((Int)×((List (Int))×(Unit)))))) 0 1))))) then if (Z.Le (Z.addN 0 (Z.len x169)) (Z.len (Z.put (Z.put x169 (Z.addN 0 (Z.toN s23.1)) (Z.take (Z.minN (Z.len (Z.seg ((x51.1,(x51.2.1,(x51.2.2.1,())))::([] : List ((Int)×((Int)×((List (Int))×(Unit)))))) 0 1)) (Z.subN (Z.len x169) (Z.toN s23.1))) (Z.seg ((x51.1,(x51.2.1,(x51.2.2.1,())))::([] : List ((Int)×((Int)×((List (Int))×(Unit)))))) 0 1))) (Z.addN 0 (Z.toN x178)) (Z.take (Z.minN (Z.len (Z.seg s5.2.1 (Z.addN s5.1.1 (Z.toN s23.1)) (Z.subN s5.1.2.1 (Z.toN s23.1)))) (Z.subN (Z.len x169) (Z.toN x178))) (Z.seg s5.2.1 (Z.addN s5.1.1 (Z.toN s23.1)) (Z.subN s5.1.2.1 (Z.toN s23.1))))))) then some ((Z.seg (Z.put (Z.put x169 (Z.addN 0 (Z.toN s23.1)) (Z.take (Z.minN (Z.len (Z.seg ((x51.1,(x51.2.1,(x51.2.2.1,())))::([] : List ((Int)×((Int)×((List (Int))×(Unit)))))) 0 1)) (Z.subN (Z.len x169) (Z.toN s23.1))) (Z.seg ((x51.1,(x51.2.1,(x51.2.2.1,())))::([] : List ((Int)×((Int)×((List (Int))×(Unit)))))) 0 1))) (Z.addN 0 (Z.toN x178)) (Z.take (Z.minN (Z.len (Z.seg s5.2.1 (Z.addN s5.1.1 (Z.toN s23.1)) (Z.subN s5.1.2.1 (Z.toN s23.1)))) (Z.subN (Z.len x169) (Z.toN x178))) (Z.seg s5.2.1 (Z.addN s5.1.1 (Z.toN s23.1)) (Z.subN s5.1.2.1 (Z.toN s23.1))))) 0 (Z.len x169)),0)
 else none
 else none
 else none
 else if (Z.Le (Z.addN (Z.addN 0 (Z.toN x178)) (Z.subN (Z.len x169) (Z.toN x178))) (Z.len (Z.put x169 (Z.addN 0 (Z.toN s23.1)) (Z.take (Z.minN (Z.len (Z.seg ((x51.1,(x51.2.1,(x51.2.2.1,())))::([] : List ((Int)×((Int)×((List (Int))×(Unit)))))) 0 1)) (Z.subN (Z.len x169) (Z.toN s23.1))) (Z.seg ((x51.1,(x51.2.1,(x51.2.2.1,())))::([] : List ((Int)×((Int)×((List (Int))×(Unit)))))) 0 1))))) then if (Z.Le (Z.addN 0 (Z.len x169)) (Z.len (Z.put (Z.put x169 (Z.addN 0 (Z.toN s23.1)) (Z.take (Z.minN (Z.len (Z.seg ((x51.1,(x51.2.1,(x51.2.2.1,())))::([] : List ((Int)×((Int)×((List (Int))×(Unit)))))) 0 1)) (Z.subN (Z.len x169) (Z.toN s23.1))) (Z.seg ((x51.1,(x51.2.1,(x51.2.2.1,())))::([] : List ((Int)×((Int)×((List (Int))×(Unit)))))) 0 1))) (Z.addN 0 (Z.toN x178)) (Z.take (Z.minN (Z.len ([] : List ((Int)×((Int)×((List (Int))×(Unit)))))) (Z.subN (Z.len x169) (Z.toN x178))) ([] : List ((Int)×((Int)×((List (Int))×(Unit))))))))) then some ((Z.seg (Z.put (Z.put x169 (Z.addN 0 (Z.toN s23.1)) (Z.take (Z.minN (Z.len (Z.seg ((x51.1,(x51.2.1,(x51.2.2.1,())))::([] : List ((Int)×((Int)×((List (Int))×(Unit)))))) 0 1)) (Z.subN (Z.len x169) (Z.toN s23.1))) (Z.seg ((x51.1,(x51.2.1,(x51.2.2.1,())))::([] : List ((Int)×((Int)×((List (Int))×(Unit)))))) 0 1))) (Z.addN 0 (Z.toN x178)) (Z.take (Z.minN (Z.len ([] : List ((Int)×((Int)×((List (Int))×(Unit)))))) (Z.subN (Z.len x169) (Z.toN x178))) ([] : List ((Int)×((Int)×((List (Int))×(Unit))))))) 0 (Z.len x169)),0)
 else none
 else none
 else none
 else if (Z.Bd s23.1 s5.1.2.1) then if (Z.Lt (Z.toN s23.1) s5.1.2.2) then if (Z.Le (Z.addN (Z.addN s5.1.1 (Z.toN s23.1)) (Z.subN s5.1.2.1 (Z.toN s23.1))) (Z.len s5.2.1)) then none
 else none
 else none
 else none
 else none
 else none
 else none
 else if (Z.Le (Z.addN 0 1) (Z.len ((x51.1,(x51.2.1,(x51.2.2.1,())))::([] : List ((Int)×((Int)×((List (Int))×(Unit)))))))) then none
 else none
 else none
 else none
 else none
 else Z.bnd (Z.wrap .i64 (Z.add (Z.ofN s5.1.2.1) (Z.ofN 1))) fun (x205 : Int) =>
 Z.bnd (Z.wrap .i64 (Z.sub x205 s23.1)) fun (x206 : Int) =>
 if (Z.ZOk x206 40) then Z.bnd (Z.rep (α:=(Int)×((Int)×((List (Int))×(Unit)))) (Z.toN x206) (0,(0,(([] : List (Int)),())))) fun (x209 : List ((Int)×((Int)×((List (Int))×(Unit))))) =>
 none
 else none
 else none
 else Z.bnd (Z.wrap .i64 (Z.add (Z.ofN s5.1.2.1) (Z.ofN 1))) fun (x210 : Int) =>
 if (Z.Bd x210 s5.1.2.2) then if (Z.Lt 0 s5.1.2.2) then Z.bnd (Z.wrap .i64 (Z.add s23.1 (Z.ofN 1))) fun (x215 : Int) =>
 if (Z.Bd x215 (Z.subN (Z.toN x210) 0)) then if (Z.Lt (Z.toN x215) (Z.subN s5.1.2.2 0)) then none
 else none
 else none
 else Z.bnd (Z.wrap .i64 (Z.add s23.1 (Z.ofN 1))) fun (x220 : Int) =>
 if (Z.Bd x220 (Z.len ([] : List ((Int)×((Int)×((List (Int))×(Unit))))))) then Z.bnd (Z.slice ([] : List ((Int)×((Int)×((List (Int))×(Unit))))) (Z.toN x220) (Z.len ([] : List ((Int)×((Int)×((List (Int))×(Unit))))))) fun (x223 : List ((Int)×((Int)×((List (Int))×(Unit))))) =>
 none
 else none
 else none)))
 else none)
 else none
 else none
 else Z.bind (zXn (d0.2.2.1,(d0.2.2.2.1,(d0.2.2.2.2.1,())))) fun (x224 : (Int)×((Int)×((List (Int))×(Unit)))) =>
 if (Z.Bd s23.1 s5.1.2.1) then if (Z.Lt (Z.toN s23.1) s5.1.2.2) then (bif (Z.ieq (Z.ofN 1) 0) then if (Z.Le (Z.addN s5.1.1 s5.1.2.1) (Z.len s5.2.1)) then some ((Z.seg s5.2.1 s5.1.1 s5.1.2.1),0)
 else none
 else (bif (Z.ieq s23.1 (Z.ofN s5.1.2.1)) then if (Z.Le (Z.addN 0 1) (Z.len ((x224.1,(x224.2.1,(x224.2.2.1,())))::([] : List ((Int)×((Int)×((List (Int))×(Unit)))))))) then if (Z.Le (Z.addN s5.1.1 s5.1.2.1) (Z.len s5.2.1)) then if (Z.Big (Z.len (Z.seg s5.2.1 s5.1.1 s5.1.2.1)) (Z.len (Z.seg ((x224.1,(x224.2.1,(x224.2.2.1,())))::([] : List ((Int)×((Int)×((List (Int))×(Unit)))))) 0 1)) 40) then none
 else if (Z.Le (Z.addN s5.1.2.1 (Z.len (Z.seg ((x224.1,(x224.2.1,(x224.2.2.1,())))::([] : List ((Int)×((Int)×((List (Int))×(Unit)))))) 0 1))) s5.1.2.2) then none
 else Z.bnd (Z.app (Z.seg s5.2.1 s5.1.1 s5.1.2.1) (Z.seg ((x224.1,(x224.2.1,(x224.2.2.1,())))::([] : List ((Int)×((Int)×((List (Int))×(Unit)))))) 0 1)) fun (x239 : List ((Int)×((Int)×((List (Int))×(Unit))))) =>
 if (Z.Le (Z.addN 0 (Z.len x239)) (Z.len x239)) then some ((Z.seg x239 0 (Z.len x239)),0)
 else none
 else none
 else none
 else Z.bnd (Z.wrap .i64 (Z.add (Z.ofN s5.1.2.1) (Z.ofN 1))) fun (x242 : Int) =>
 (bif (Z.igt x242 (Z.ofN s5.1.2.2)) then if (Z.Bd s23.1 s5.1.2.2) then if (Z.Lt 0 s5.1.2.2) then Z.bnd (Z.wrap .i64 (Z.add (Z.ofN s5.1.2.1) (Z.ofN 1))) fun (x247 : Int) =>
 Z.bnd (Z.wrap .i64 (Z.sub x247 s23.1)) fun (x248 : Int) =>
 if (Z.ZOk x248 40) then Z.bnd (Z.rep (α:=(Int)×((Int)×((List (Int))×(Unit)))) (Z.toN x248) (0,(0,(([] : List (Int)),())))) fun (x251 : List ((Int)×((Int)×((List (Int))×(Unit))))) =>
 if (Z.Le (Z.addN (Z.addN s5.1.1 0) (Z.subN (Z.toN s23.1) 0)) (Z.len s5.2.1)) then if (Z.Big (Z.len (Z.seg s5.2.1 (Z.addN s5.1.1 0) (Z.subN (Z.toN s23.1) 0))) (Z.len x251) 40) then none
 else if (Z.Le (Z.addN (Z.subN (Z.toN s23.1) 0) (Z.len x251)) (Z.subN s5.1.2.2 0)) then none
 else Z.bnd (Z.app (Z.seg s5.2.1 (Z.addN s5.1.1 0) (Z.subN (Z.toN s23.1) 0)) x251) fun (x258 : List ((Int)×((Int)×((List (Int))×(Unit))))) =>
 if (Z.Bd s23.1 (Z.len x258)) then if (Z.Lt (Z.toN s23.1) (Z.len x258)) then if (Z.Le (Z.addN 0 1) (Z.len ((x224.1,(x224.2.1,(x224.2.2.1,())))::([] : List ((Int)×((Int)×((List (Int))×(Unit)))))))) then if (Z.Le (Z.addN (Z.addN 0 (Z.toN s23.1)) (Z.subN (Z.len x258) (Z.toN s23.1))) (Z.len x258)) then Z.bnd (Z.wrap .i64 (Z.add s23.1 (Z.ofN 1))) fun (x267 : Int) =>
 if (Z.Bd x267 (Z.len x258)) then if (Z.Lt (Z.toN x267) (Z.len x258)) then if (Z.Bd s23.1 s5.1.2.1) then if (Z.Lt (Z.toN s23.1) s5.1.2.2) then if (Z.Le (Z.addN (Z.addN s5.1.1 (Z.toN s23.1)) (Z.subN s5.1.2.1 (Z.toN s23.1))) (Z.len s5.2.1)) then if (Z.Le (Z.addN (Z.addN 0 (Z.toN x267)) (Z.subN (Z.len x258) (Z.toN x267))) (Z.len (Z.put x258 (Z.addN 0 (Z.toN s23.1)) (Z.take (Z.minN (Z.len (Z.seg ((x224.1,(x224.2.1,(x224.2.2.1,())))::([] : List ((Int)×((Int)×((List (Int))×(Unit)))))) 0 1)) (Z.subN (Z.len x258) (Z.toN s23.1))) (Z.seg ((x224.1,(x224.2.1,(x224.2.2.1,())))::([] : List ((Int)×((Int)×((List (Int))×(Unit)))))) 0 1))))) then if (Z.Le (Z.addN 0 (Z.len x258)) (Z.len (Z.put (Z.put x258 (Z.addN 0 (Z.toN s23.1)) (Z.take (Z.minN (Z.len (Z.seg ((x224.1,(x224.2.1,(x224.2.2.1,())))::([] : List ((Int)×((Int)×((List (Int))×(Unit)))))) 0 1)) (Z.subN (Z.len x258) (Z.toN s23.1))) (Z.seg ((x224.1,(x224.2.1,(x224.2.2.1,())))::([] : List ((Int)×((Int)×((List (Int))×(Unit)))))) 0 1))) (Z.addN 0 (Z.toN x267)) (Z.take (Z.minN (Z.len (Z.seg s5.2.1 (Z.addN s5.1.1 (Z.toN s23.1)) (Z.subN s5.1.2.1 (Z.toN s23.1)))) (Z.subN (Z.len x258) (Z.toN x267))) (Z.seg s5.2.1 (Z.addN s5.1.1 (Z.toN s23.1)) (Z.subN s5.1.2.1 (Z.toN s23.1))))))) then some ((Z.seg (Z.put (Z.put x258 (Z.addN 0 (Z.toN s23.1)) (Z.take (Z.minN (Z.len (Z.seg ((x224.1,(x224.2.1,(x224.2.2.1,())))::([] : List ((Int)×((Int)×((List (Int))×(Unit)))))) 0 1)) (Z.subN (Z.len x258) (Z.toN s23.1))) (Z.seg ((x224.1,(x224.2.1,(x224.2.2.1,())))::([] : List ((Int)×((Int)×((List (Int))×(Unit)))))) 0 1))) (Z.addN 0 (Z.toN x267)) (Z.take (Z.minN (Z.len (Z.seg s5.2.1 (Z.addN s5.1.1 (Z.toN s23.1)) (Z.subN s5.1.2.1 (Z.toN s23.1)))) (Z.subN (Z.len x258) (Z.toN x267))) (Z.seg s5.2.1 (Z.addN s5.1.1 (Z.toN s23.1)) (Z.subN s5.1.2.1 (Z.toN s23.1))))) 0 (Z.len x258)),0)
 else none
 else none
 else none
 else if (Z.Le (Z.addN (Z.addN 0 (Z.toN x267)) (Z.subN (Z.len x258) (Z.toN x267))) (Z.len (Z.put x258 (Z.addN 0 (Z.toN s23.1)) (Z.take (Z.minN (Z.len (Z.seg ((x224.1,(x224.2.1,(x224.2.2.1,())))::([] : List ((Int)×((Int)×((List (Int))×(Unit)))))) 0 1)) (Z.subN (Z.len x258) (Z.toN s23.1))) (Z.seg ((x224.1,(x224.2.1,(x224.2.2.1,())))::([] : List ((Int)×((Int)×((List (Int))×(Unit)))))) 0 1))))) then if (Z.Le (Z.addN 0 (Z.len x258)) (Z.len (Z.put (Z.put x258 (Z.addN 0 (Z.toN s23.1)) (Z.take (Z.minN (Z.len (Z.seg ((x224.1,(x224.2.1,(x224.2.2.1,())))::([] : List ((Int)×((Int)×((List (Int))×(Unit)))))) 0 1)) (Z.subN (Z.len x258) (Z.toN s23.1))) (Z.seg ((x224.1,(x224.2.1,(x224.2.2.1,())))::([] : List ((Int)×((Int)×((List (Int))×(Unit)))))) 0 1))) (Z.addN 0 (Z.toN x267)) (Z.take (Z.minN (Z.len ([] : List ((Int)×((Int)×((List (Int))×(Unit)))))) (Z.subN (Z.len x258) (Z.toN x267))) ([] : List ((Int)×((Int)×((List (Int))×(Unit))))))))) then some ((Z.seg (Z.put (Z.put x258 (Z.addN 0 (Z.toN s23.1)) (Z.take (Z.minN (Z.len (Z.seg ((x224.1,(x224.2.1,(x224.2.2.1,())))::([] : List ((Int)×((Int)×((List (Int))×(Unit)))))) 0 1)) (Z.subN (Z.len x258) (Z.toN s23.1))) (Z.seg ((x224.1,(x224.2.1,(x224.2.2.1,())))::([] : List ((Int)×((Int)×((List (Int))×(Unit)))))) 0 1))) (Z.addN 0 (Z.toN x267)) (Z.take (Z.minN (Z.len ([] : List ((Int)×((Int)×((List (Int))×(Unit)))))) (Z.subN (Z.len x258) (Z.toN x267))) ([] : List ((Int)×((Int)×((List (Int))×(Unit))))))) 0 (Z.len x258)),0)
 else none
 else none
 else none
 else if (Z.Bd s23.1 s5.1.2.1) then if (Z.Lt (Z.toN s23.1) s5.1.2.2) then if (Z.Le (Z.addN (Z.addN s5.1.1 (Z.toN s23.1)) (Z.subN s5.1.2.1 (Z.toN s23.1))) (Z.len s5.2.1)) then none
 else none
 else none
 else none
 else none
 else none
 else none
 else if (Z.Le (Z.addN 0 1) (Z.len ((x224.1,(x224.2.1,(x224.2.2.1,())))::([] : List ((Int)×((Int)×((List (Int))×(Unit)))))))) then none
 else none
 else none
 else none
 else none
 else Z.bnd (Z.wrap .i64 (Z.add (Z.ofN s5.1.2.1) (Z.ofN 1))) fun (x294 : Int) =>
 Z.bnd (Z.wrap .i64 (Z.sub x294 s23.1)) fun (x295 : Int) =>
 if (Z.ZOk x295 40) then Z.bnd (Z.rep (α:=(Int)×((Int)×((List (Int))×(Unit)))) (Z.toN x295) (0,(0,(([] : List (Int)),())))) fun (x298 : List ((Int)×((Int)×((List (Int))×(Unit))))) =>
 none
 else none
 else none
 else Z.bnd (Z.wrap .i64 (Z.add (Z.ofN s5.1.2.1) (Z.ofN 1))) fun (x299 : Int) =>
 if (Z.Bd x299 s5.1.2.2) then if (Z.Lt 0 s5.1.2.2) then Z.bnd (Z.wrap .i64 (Z.add s23.1 (Z.ofN 1))) fun (x304 : Int) =>
 if (Z.Bd x304 (Z.subN (Z.toN x299) 0)) then if (Z.Lt (Z.toN x304) (Z.subN s5.1.2.2 0)) then none
 else none
 else none
 else Z.bnd (Z.wrap .i64 (Z.add s23.1 (Z.ofN 1))) fun (x309 : Int) =>
 if (Z.Bd x309 (Z.len ([] : List ((Int)×((Int)×((List (Int))×(Unit))))))) then Z.bnd (Z.slice ([] : List ((Int)×((Int)×((List (Int))×(Unit))))) (Z.toN x309) (Z.len ([] : List ((Int)×((Int)×((List (Int))×(Unit))))))) fun (x312 : List ((Int)×((Int)×((List (Int))×(Unit))))) =>
 none
 else none
 else none)))
 else (bif (Z.ieq (Z.ofN 1) 0) then if (Z.Le (Z.addN s5.1.1 s5.1.2.1) (Z.len s5.2.1)) then some ((Z.seg s5.2.1 s5.1.1 s5.1.2.1),0)
 else none
 else (bif (Z.ieq s23.1 (Z.ofN s5.1.2.1)) then if (Z.Le (Z.addN 0 1) (Z.len ((x224.1,(x224.2.1,(x224.2.2.1,())))::([] : List ((Int)×((Int)×((List (Int))×(Unit)))))))) then if (Z.Le (Z.addN s5.1.1 s5.1.2.1) (Z.len s5.2.1)) then if (Z.Big (Z.len (Z.seg s5.2.1 s5.1.1 s5.1.2.1)) (Z.len (Z.seg ((x224.1,(x224.2.1,(x224.2.2.1,())))::([] : List ((Int)×((Int)×((List (Int))×(Unit)))))) 0 1)) 40) then none
 else if (Z.Le (Z.addN s5.1.2.1 (Z.len (Z.seg ((x224.1,(x224.2.1,(x224.2.2.1,())))::([] : List ((Int)×((Int)×((List (Int))×(Unit)))))) 0 1))) s5.1.2.2) then none
 else Z.bnd (Z.app (Z.seg s5.2.1 s5.1.1 s5.1.2.1) (Z.seg ((x224.1,(x224.2.1,(x224.2.2.1,())))::([] : List ((Int)×((Int)×((List (Int))×(Unit)))))) 0 1)) fun (x323 : List ((Int)×((Int)×((List (Int))×(Unit))))) =>
 if (Z.Le (Z.addN 0 (Z.len x323)) (Z.len x323)) then some ((Z.seg x323 0 (Z.len x323)),0)
 else none
 else none
 else none
 else Z.bnd (Z.wrap .i64 (Z.add (Z.ofN s5.1.2.1) (Z.ofN 1))) fun (x326 : Int) =>
 (bif (Z.igt x326 (Z.ofN s5.1.2.2)) then if (Z.Bd s23.1 s5.1.2.2) then if (Z.Lt 0 s5.1.2.2) then Z.bnd (Z.wrap .i64 (Z.add (Z.ofN s5.1.2.1) (Z.ofN 1))) fun (x331 : Int) =>
 Z.bnd (Z.wrap .i64 (Z.sub x331 s23.1)) fun (x332 : Int) =>
 if (Z.ZOk x332 40) then Z.bnd (Z.rep (α:=(Int)×((Int)×((List (Int))×(Unit)))) (Z.toN x332) (0,(0,(([] : List (Int)),())))) fun (x335 : List ((Int)×((Int)×((List (Int))×(Unit))))) =>
 if (Z.Le (Z.addN (Z.addN s5.1.1 0) (Z.subN (Z.toN s23.1) 0)) (Z.len s5.2.1)) then if (Z.Big (Z.len (Z.seg s5.2.1 (Z.addN s5.1.1 0) (Z.subN (Z.toN s23.1) 0))) (Z.len x335) 40) then none
 else if (Z.Le (Z.addN (Z.subN (Z.toN s23.1) 0) (Z.len x335)) (Z.subN s5.1.2.2 0)) then none
 else Z.bnd (Z.app (Z.seg s5.2.1 (Z.addN s5.1.1 0) (Z.subN (Z.toN s23.1) 0)) x335) fun (x342 : List ((Int)×((Int)×((List (Int))×(Unit))))) =>
 if (Z.Bd s23.1 (Z.len x342)) then if (Z.Lt (Z.toN s23.1) (Z.len x342)) then if (Z.Le (Z.addN 0 1) (Z.len ((x224.1,(x224.2.1,(x224.2.2.1,())))::([] : List ((Int)×((Int)×((List (Int))×(Unit)))))))) then if (Z.Le (Z.addN (Z.addN 0 (Z.toN s23.1)) (Z.subN (Z.len x342) (Z.toN s23.1))) (Z.len x342)) then Z.bnd (Z.wrap .i64 (Z.add s23.1 (Z.ofN 1))) fun (x351 : Int) =>
 if (Z.Bd x351 (Z.len x342)) then if (Z.Lt (Z.toN x351) (Z.len x342)) then if (Z.Bd s23.1 s5.1.2.1) then if (Z.Lt (Z.toN s23.1) s5.1.2.2) then if (Z.Le (Z.addN (Z.addN s5.1.1 (Z.toN s23.1)) (Z.subN s5.1.2.1 (Z.toN s23.1))) (Z.len s5.2.1)) then if (Z.Le (Z.addN (Z.addN 0 (Z.toN x351)) (Z.subN (Z.len x342) (Z.toN x351))) (Z.len (Z.put x342 (Z.addN 0 (Z.toN s23.1)) (Z.take (Z.minN (Z.len (Z.seg ((x224.1,(x224.2.1,(x224.2.2.1,())))::([] : List ((Int)×((Int)×((List (Int))×(Unit)))))) 0 1)) (Z.subN (Z.len x342) (Z.toN s23.1))) (Z.seg ((x224.1,(x224.2.1,(x224.2.2.1,())))::([] : List ((Int)×((Int)×((List (Int))×(Unit)))))) 0 1))))) then if (Z.Le (Z.addN 0 (Z.len x342)) (Z.len (Z.put (Z.put x342 (Z.addN 0 (Z.toN s23.1)) (Z.take (Z.minN (Z.len (Z.seg ((x224.1,(x224.2.1,(x224.2.2.1,())))::([] : List ((Int)×((Int)×((List (Int))×(Unit)))))) 0 1)) (Z.subN (Z.len x342) (Z.toN s23.1))) (Z.seg ((x224.1,(x224.2.1,(x224.2.2.1,())))::([] : List ((Int)×((Int)×((List (Int))×(Unit)))))) 0 1))) (Z.addN 0 (Z.toN x351)) (Z.take (Z.minN (Z.len (Z.seg s5.2.1 (Z.addN s5.1.1 (Z.toN s23.1)) (Z.subN s5.1.2.1 (Z.toN s23.1)))) (Z.subN (Z.len x342) (Z.toN x351))) (Z.seg s5.2.1 (Z.addN s5.1.1 (Z.toN s23.1)) (Z.subN s5.1.2.1 (Z.toN s23.1))))))) then some ((Z.seg (Z.put (Z.put x342 (Z.addN 0 (Z.toN s23.1)) (Z.take (Z.minN (Z.len (Z.seg ((x224.1,(x224.2.1,(x224.2.2.1,())))::([] : List ((Int)×((Int)×((List (Int))×(Unit)))))) 0 1)) (Z.subN (Z.len x342) (Z.toN s23.1))) (Z.seg ((x224.1,(x224.2.1,(x224.2.2.1,())))::([] : List ((Int)×((Int)×((List (Int))×(Unit)))))) 0 1))) (Z.addN 0 (Z.toN x351)) (Z.take (Z.minN (Z.len (Z.seg s5.2.1 (Z.addN s5.1.1 (Z.toN s23.1)) (Z.subN s5.1.2.1 (Z.toN s23.1)))) (Z.subN (Z.len x342) (Z.toN x351))) (Z.seg s5.2.1 (Z.addN s5.1.1 (Z.toN s23.1)) (Z.subN s5.1.2.1 (Z.toN s23.1))))) 0 (Z.len x342)),0)
 else none
 else none
 else none
 else if (Z.Le (Z.addN (Z.addN 0 (Z.toN x351)) (Z.subN (Z.len x342) (Z.toN x351))) (Z.len (Z.put x342 (Z.addN 0 (Z.toN s23.1)) (Z.take (Z.minN (Z.len (Z.seg ((x224.1,(x224.2.1,(x224.2.2.1,())))::([] : List ((Int)×((Int)×((List (Int))×(Unit)))))) 0 1)) (Z.subN (Z.len x342) (Z.toN s23.1))) (Z.seg ((x224.1,(x224.2.1,(x224.2.2.1,())))::([] : List ((Int)×((Int)×((List (Int))×(Unit)))))) 0 1))))) then if (Z.Le (Z.addN 0 (Z.len x342)) (Z.len (Z.put (Z.put x342 (Z.addN 0 (Z.toN s23.1)) (Z.take (Z.minN (Z.len (Z.seg ((x224.1,(x224.2.1,(x224.2.2.1,())))::([] : List ((Int)×((Int)×((List (Int))×(Unit)))))) 0 1)) (Z.subN (Z.len x342) (Z.toN s23.1))) (Z.seg ((x224.1,(x224.2.1,(x224.2.2.1,())))::([] : List ((Int)×((Int)×((List (Int))×(Unit)))))) 0 1))) (Z.addN 0 (Z.toN x351)) (Z.take (Z.minN (Z.len ([] : List ((Int)×((Int)×((List (Int))×(Unit)))))) (Z.subN (Z.len x342) (Z.toN x351))) ([] : List ((Int)×((Int)×((List (Int))×(Unit))))))))) then some ((Z.seg (Z.put (Z.put x342 (Z.addN 0 (Z.toN s23.1)) (Z.take (Z.minN (Z.len (Z.seg ((x224.1,(x224.2.1,(x224.2.2.1,())))::([] : List ((Int)×((Int)×((List (Int))×(Unit)))))) 0 1)) (Z.subN (Z.len x342) (Z.toN s23.1))) (Z.seg ((x224.1,(x224.2.1,(x224.2.2.1,())))::([] : List ((Int)×((Int)×((List (Int))×(Unit)))))) 0 1))) (Z.addN 0 (Z.toN x351)) (Z.take (Z.minN (Z.len ([] : List ((Int)×((Int)×((List (Int))×(Unit)))))) (Z.subN (Z.len x342) (Z.toN x351))) ([] : List ((Int)×((Int)×((List (Int))×(Unit))))))) 0 (Z.len x342)),0)
 else none
 else none
 else none
 else if (Z.Bd s23.1 s5.1.2.1) then if (Z.Lt (Z.toN s23.1) s5.1.2.2) then if (Z.Le (Z.addN (Z.addN s5.1.1 (Z.toN s23.1)) (Z.subN s5.1.2.1 (Z.toN s23.1))) (Z.len s5.2.1)) then none
 else none
 else none
 else none
 else none
 else none
 else none
 else if (Z.Le (Z.addN 0 1) (Z.len ((x224.1,(x224.2.1,(x224.2.2.1,())))::([] : List ((Int)×((Int)×((List (Int))×(Unit)))))))) then none
 else none
 else none
 else none
 else none
 else Z.bnd (Z.wrap .i64 (Z.add (Z.ofN s5.1.2.1) (Z.ofN 1))) fun (x378 : Int) =>
 Z.bnd (Z.wrap .i64 (Z.sub x378 s23.1)) fun (x379 : Int) =>
 if (Z.ZOk x379 40) then Z.bnd (Z.rep (α:=(Int)×((Int)×((List (Int))×(Unit)))) (Z.toN x379) (0,(0,(([] : List (Int)),())))) fun (x382 : List ((Int)×((Int)×((List (Int))×(Unit))))) =>
 none
 else none
 else none
 else Z.bnd (Z.wrap .i64 (Z.add (Z.ofN s5.1.2.1) (Z.ofN 1))) fun (x383 : Int) =>
 if (Z.Bd x383 s5.1.2.2) then if (Z.Lt 0 s5.1.2.2) then Z.bnd (Z.wrap .i64 (Z.add s23.1 (Z.ofN 1))) fun (x388 : Int) =>
 if (Z.Bd x388 (Z.subN (Z.toN x383) 0)) then if (Z.Lt (Z.toN x388) (Z.subN s5.1.2.2 0)) then none
 else none
 else none
 else Z.bnd (Z.wrap .i64 (Z.add s23.1 (Z.ofN 1))) fun (x393 : Int) =>
 if (Z.Bd x393 (Z.len ([] : List ((Int)×((Int)×((List (Int))×(Unit))))))) then Z.bnd (Z.slice ([] : List ((Int)×((Int)×((List (Int))×(Unit))))) (Z.toN x393) (Z.len ([] : List ((Int)×((Int)×((List (Int))×(Unit))))))) fun (x396 : List ((Int)×((Int)×((List (Int))×(Unit))))) =>
 none
 else none
 else none)))
 else none))) (0,(Z.ofN s5.1.2.1)))) ((0,((Z.toN 0),(Z.toN (Z.ofN (Z.len d0.2.1))))),((Z.rep (α:=(Int)×((Int)×((List (Int))×(Unit)))) (Z.toN (Z.ofN (Z.len d0.2.1))) (0,(0,(([] : List (Int)),())))),0))
 else none))
def yQ0 : PFn:={ args:=[(.pair (.int .i64) (.pair (.int .i64) (.pair (.int .i64) (.pair (.int .i64) .unit)))),(.list (.pair (.int .i64) (.pair (.int .i64) (.pair (.list (.int .u8)) .unit)))),(.pair (.int .i64) (.pair (.int .i64) (.pair (.list (.int .u8)) .unit)))],res:=[(.list (.pair (.int .i64) (.pair (.int .i64) (.pair (.list (.int .u8)) .unit)))),(.int .i64)],fn:=zKd }
def wY0 : List LSpec×List Nat:=([{ id:=2200,known:=true,toks:=[],items:=[.slot 3 (.sref 1000003 true (.pair (.int .i64) (.pair (.int .i64) (.pair (.list (.int .u8)) .unit)))), .vec 1000003 (.pair (.int .i64) (.pair (.int .i64) (.pair (.list (.int .u8)) .unit))), .slot 11 (.val (.int .i64))],junk:=[12,13,14,5,15,16,17,18,19,20],tails:=[] }],[1000000005])
def wYz : List LSpec×List Nat:=([{ id:=2900,known:=true,toks:=[],items:=[.slot 6 (.val (.int .i64)), .slot 7 (.val (.int .i64))],junk:=[12,13,14,15,16,17,18,19,20,8,21,22,23,24,25,26,27,28,29,30,31,32,33],tails:=[] }],[])
def wYx : List LSpec×List Nat:=([],[2000000007,2000000009])
def wYy : List LSpec×List Nat:=([],[1000000005])
def spt18 : Tab (List LSpec×List Nat):=(.node (.node .leaf none (.node .leaf none (.node .leaf none (.node .leaf (some wYz) .leaf)))) none (.node (.node (.node (.node (.node .leaf (some wYx) .leaf) none .leaf) none .leaf) none .leaf) none (.node .leaf none (.node (.node .leaf (some wY0) .leaf) none (.node .leaf (some wYy) .leaf)))))
def spf18 (f : Nat) : List LSpec×List Nat:=(spt18.get f).getD ([],[])
theorem yX2 : zZi Try.prog cfg 18 yQ0:=fnD spf18 (l:=[(13,zZd),(31,zYd),(33,zJr),(46,zZw)]) zKv zWx (.cons zZv (.cons yWk (.cons zYb (.cons zKk .nil)))) (fun d=>by kernel_rfl)
def yWs (d0 : Unit) : Option (List ((Int)×((Int)×((List (Int))×(Unit))))) :=
 Z.bind (zXz (2,1)) fun (x1 : (Int)×((Int)×((List (Int))×(Unit)))) =>
 Z.bind (zXz (5,1)) fun (x2 : (Int)×((Int)×((List (Int))×(Unit)))) =>
 if (Z.Le (Z.addN 0 2) (Z.len ((x1.1,(x1.2.1,(x1.2.2.1,())))::((x2.1,(x2.2.1,(x2.2.2.1,())))::([] : List ((Int)×((Int)×((List (Int))×(Unit))))))))) then some (Z.seg ((x1.1,(x1.2.1,(x1.2.2.1,())))::((x2.1,(x2.2.1,(x2.2.2.1,())))::([] : List ((Int)×((Int)×((List (Int))×(Unit))))))) 0 2)
 else none
def yKn : PFn:={ args:=[],res:=[(.list (.pair (.int .i64) (.pair (.int .i64) (.pair (.list (.int .u8)) .unit))))],fn:=yWs }
def sp9_22 : List LSpec×List Nat:=([{ id:=2200,known:=true,toks:=[],items:=[.slot 3 (.sref 1000003 true (.pair (.int .i64) (.pair (.int .i64) (.pair (.list (.int .u8)) .unit)))), .vec 1000003 (.pair (.int .i64) (.pair (.int .i64) (.pair (.list (.int .u8)) .unit))), .slot 11 (.val (.int .i64))],junk:=[12,13,14,5,15,16,17,18,19,20],tails:=[] }],[1000000005])
def sp9_32 : List LSpec×List Nat:=([],[2000000007,2000000009])
def sp9_30 : List LSpec×List Nat:=([],[1000000005])
def spt9 : Tab (List LSpec×List Nat):=(.node .leaf none (.node (.node (.node (.node (.node .leaf (some sp9_32) .leaf) none .leaf) none .leaf) none .leaf) none (.node .leaf none (.node (.node .leaf (some sp9_22) .leaf) none (.node .leaf (some sp9_30) .leaf)))))
def spf9 (f : Nat) : List LSpec×List Nat:=(spt9.get f).getD ([],[])
theorem xXl : zZi Try.prog cfg 9 yKn:=fnD spf9 (l:=[(11,yQ1)]) zKv zWx (.cons yX3 .nil) (fun d=>by kernel_rfl)
def zY6 (d0 : (List (Int))×(List (Int))) : Option (Bool) :=
 Z.bnd (Z.str d0.1) fun (x1 : List (UInt8)) =>
 Z.bnd (Z.str d0.2) fun (x2 : List (UInt8)) =>
 some (Z.seq x1 x2)
def yX6 : PFn:={ args:=[(.list (.int .u8)),(.list (.int .u8))],res:=[.bool],fn:=zY6 }
def wYf : List LSpec×List Nat:=([{ id:=2200,known:=true,toks:=[],items:=[.slot 3 (.sref 1000003 true (.pair (.int .i64) (.pair (.int .i64) (.pair (.list (.int .u8)) .unit)))), .vec 1000003 (.pair (.int .i64) (.pair (.int .i64) (.pair (.list (.int .u8)) .unit))), .slot 11 (.val (.int .i64))],junk:=[12,13,14,5,15,16,17,18,19,20],tails:=[] }],[1000000005])
def wYd : List LSpec×List Nat:=([],[2000000007,2000000009])
def wYe : List LSpec×List Nat:=([],[1000000005])
def spt41 : Tab (List LSpec×List Nat):=(.node .leaf none (.node (.node (.node (.node (.node .leaf (some wYd) .leaf) none .leaf) none .leaf) none .leaf) none (.node .leaf none (.node (.node .leaf (some wYf) .leaf) none (.node .leaf (some wYe) .leaf)))))
def spf41 (f : Nat) : List LSpec×List Nat:=(spt41.get f).getD ([],[])
theorem xQx : zZi Try.prog cfg 41 yX6:=fnD spf41 (l:=[]) zKv zWx .nil (fun d=>by kernel_rfl)
def zZn (d0 : ((Int)×((Int)×((List (Int))×(Unit))))×((Int)×((Int)×((List (Int))×(Unit))))) : Option (Bool) :=
 (bif (Z.ieq d0.1.1 d0.2.1) then (bif (Z.zQj true (Z.ieq d0.1.2.1 d0.2.2.1) false) then Z.bind (zY6 (d0.1.2.2.1,d0.2.2.2.1)) fun (x1 : Bool) =>
 some (Z.zQj true x1 false)
 else some false)
 else some false)
def zYe : PFn:={ args:=[(.pair (.int .i64) (.pair (.int .i64) (.pair (.list (.int .u8)) .unit))),(.pair (.int .i64) (.pair (.int .i64) (.pair (.list (.int .u8)) .unit)))],res:=[.bool],fn:=zZn }
def wYw : List LSpec×List Nat:=([{ id:=2200,known:=true,toks:=[],items:=[.slot 3 (.sref 1000003 true (.pair (.int .i64) (.pair (.int .i64) (.pair (.list (.int .u8)) .unit)))), .vec 1000003 (.pair (.int .i64) (.pair (.int .i64) (.pair (.list (.int .u8)) .unit))), .slot 11 (.val (.int .i64))],junk:=[12,13,14,5,15,16,17,18,19,20],tails:=[] }],[1000000005])
def wYu : List LSpec×List Nat:=([],[2000000007,2000000009])
def wYv : List LSpec×List Nat:=([],[1000000005])
def spt23 : Tab (List LSpec×List Nat):=(.node .leaf none (.node (.node (.node (.node (.node .leaf (some wYu) .leaf) none .leaf) none .leaf) none .leaf) none (.node .leaf none (.node (.node .leaf (some wYw) .leaf) none (.node .leaf (some wYv) .leaf)))))
def spf23 (f : Nat) : List LSpec×List Nat:=(spt23.get f).getD ([],[])
theorem yWl : zZi Try.prog cfg 23 zYe:=fnD spf23 (l:=[(41,yX6)]) zKv zWx (.cons xQx .nil) (fun d=>by kernel_rfl)
def zXs (d0 : (List ((Int)×((Int)×((List (Int))×(Unit)))))×(List ((Int)×((Int)×((List (Int))×(Unit)))))) : Option (Bool) :=
 (bif (Z.ine (Z.ofN (Z.len d0.1)) (Z.ofN (Z.len d0.2))) then some false
 else Z.loop (fun (s1 : Int) k2 =>
 (bif (Z.ilt s1 (Z.ofN (Z.len d0.1))) then if (Z.Ix s1 (Z.len d0.1)) then Z.bnd (Z.get d0.1 (Z.toN s1) (0,(0,(([] : List (Int)),())))) fun (x5 : (Int)×((Int)×((List (Int))×(Unit)))) =>
 if (Z.Ix s1 (Z.len d0.2)) then Z.bnd (Z.get d0.2 (Z.toN s1) (0,(0,(([] : List (Int)),())))) fun (x8 : (Int)×((Int)×((List (Int))×(Unit)))) =>
 Z.bind (zZn ((x5.1,(x5.2.1,(x5.2.2.1,()))),(x8.1,(x8.2.1,(x8.2.2.1,()))))) fun (x9 : Bool) =>
 (bif (Z.bnot x9) then some false
 else Z.bnd (Z.wrap .i64 (Z.add s1 1)) fun (x10 : Int) =>
 k2 x10)
 else none
 else none
 else some true)) 0)
def zKl : PFn:={ args:=[(.list (.pair (.int .i64) (.pair (.int .i64) (.pair (.list (.int .u8)) .unit)))),(.list (.pair (.int .i64) (.pair (.int .i64) (.pair (.list (.int .u8)) .unit))))],res:=[.bool],fn:=zXs }
def wYt : List LSpec×List Nat:=([{ id:=2200,known:=true,toks:=[],items:=[.slot 3 (.sref 1000003 true (.pair (.int .i64) (.pair (.int .i64) (.pair (.list (.int .u8)) .unit)))), .vec 1000003 (.pair (.int .i64) (.pair (.int .i64) (.pair (.list (.int .u8)) .unit))), .slot 11 (.val (.int .i64))],junk:=[12,13,14,5,15,16,17,18,19,20],tails:=[] }],[1000000005])
def wYq : List LSpec×List Nat:=([],[2000000007,2000000009])
def wYs : List LSpec×List Nat:=([{ id:=2400,known:=true,toks:=[],items:=[.slot 5 (.val (.int .i64))],junk:=[11,12,13,14,17,18,19,20,21,22,23,24,25,26,4,15,16],tails:=[] }],[])
def wYr : List LSpec×List Nat:=([],[1000000005])
def spt24 : Tab (List LSpec×List Nat):=(.node .leaf none (.node (.node (.node (.node (.node .leaf (some wYq) .leaf) none .leaf) none (.node .leaf (some wYs) .leaf)) none .leaf) none (.node .leaf none (.node (.node .leaf (some wYt) .leaf) none (.node .leaf (some wYr) .leaf)))))
def spf24 (f : Nat) : List LSpec×List Nat:=(spt24.get f).getD ([],[])
theorem zJ2 : zZi Try.prog cfg 24 zKl:=fnD spf24 (l:=[(23,zYe)]) zKv zWx (.cons yWl .nil) (fun d=>by kernel_rfl)
def zJv (d0 : Unit) : Option (Bool) :=
 Z.bind (zKm ()) fun (x1 : (Int)×((Int)×((Int)×((Int)×(Unit))))) =>
 Z.bind (zXz (5,1)) fun (x2 : (Int)×((Int)×((List (Int))×(Unit)))) =>
 Z.bind (zKd ((x1.1,(x1.2.1,(x1.2.2.1,(x1.2.2.2.1,())))),(([] : List ((Int)×((Int)×((List (Int))×(Unit))))),(x2.1,(x2.2.1,(x2.2.2.1,())))))) fun (x3 : (List ((Int)×((Int)×((List (Int))×(Unit)))))×(Int)) =>
 Z.bind (zKm ()) fun (x4 : (Int)×((Int)×((Int)×((Int)×(Unit))))) =>
 Z.bind (zXz (2,1)) fun (x5 : (Int)×((Int)×((List (Int))×(Unit)))) =>
 Z.bind (zKd ((x4.1,(x4.2.1,(x4.2.2.1,(x4.2.2.2.1,())))),(x3.1,(x5.1,(x5.2.1,(x5.2.2.1,())))))) fun (x6 : (List ((Int)×((Int)×((List (Int))×(Unit)))))×(Int)) =>
 Z.bind (zKm ()) fun (x7 : (Int)×((Int)×((Int)×((Int)×(Unit))))) =>
 Z.bind (zXz (5,9)) fun (x8 : (Int)×((Int)×((List (Int))×(Unit)))) =>
 Z.bind (zKd ((x7.1,(x7.2.1,(x7.2.2.1,(x7.2.2.2.1,())))),(x6.1,(x8.1,(x8.2.1,(x8.2.2.1,())))))) fun (x9 : (List ((Int)×((Int)×((List (Int))×(Unit)))))×(Int)) =>
 (bif (Z.ieq x3.2 0) then (bif (Z.zQj true (Z.ieq x6.2 0) false) then Z.bind (yWs ()) fun (x10 : List ((Int)×((Int)×((List (Int))×(Unit))))) =>
 Z.bind (zXs (x6.1,x10)) fun (x11 : Bool) =>
 (bif (Z.zQj true x11 false) then (bif (Z.zQj true (Z.ieq x9.2 0) false) then Z.bind (zXz (2,1)) fun (x12 : (Int)×((Int)×((List (Int))×(Unit)))) =>
 Z.bind (zXz (5,9)) fun (x13 : (Int)×((Int)×((List (Int))×(Unit)))) =>
 if (Z.Le (Z.addN 0 2) (Z.len ((x12.1,(x12.2.1,(x12.2.2.1,())))::((x13.1,(x13.2.1,(x13.2.2.1,())))::([] : List ((Int)×((Int)×((List (Int))×(Unit))))))))) then Z.bind (zXs (x9.1,(Z.seg ((x12.1,(x12.2.1,(x12.2.2.1,())))::((x13.1,(x13.2.1,(x13.2.2.1,())))::([] : List ((Int)×((Int)×((List (Int))×(Unit))))))) 0 2))) fun (x16 : Bool) =>
 some (Z.zQj true x16 false)
 else none
 else some false)
 else some false)
 else some false)
 else some false)
def yWq : PFn:={ args:=[],res:=[.bool],fn:=zJv }
def vQf : List LSpec×List Nat:=([{ id:=2200,known:=true,toks:=[],items:=[.slot 3 (.sref 1000003 true (.pair (.int .i64) (.pair (.int .i64) (.pair (.list (.int .u8)) .unit)))), .vec 1000003 (.pair (.int .i64) (.pair (.int .i64) (.pair (.list (.int .u8)) .unit))), .slot 11 (.val (.int .i64))],junk:=[12,13,14,5,15,16,17,18,19,20],tails:=[] }],[1000000005])
def vQd : List LSpec×List Nat:=([],[2000000007,2000000009])
def vQe : List LSpec×List Nat:=([],[1000000005])
def spt12 : Tab (List LSpec×List Nat):=(.node .leaf none (.node (.node (.node (.node (.node .leaf (some vQd) .leaf) none .leaf) none .leaf) none .leaf) none (.node .leaf none (.node (.node .leaf (some vQf) .leaf) none (.node .leaf (some vQe) .leaf)))))
def spf12 (f : Nat) : List LSpec×List Nat:=(spt12.get f).getD ([],[])
theorem yJz : zZi Try.prog cfg 12 yWq:=fnD spf12 (l:=[(8,yWp),(11,yQ1),(18,yQ0),(9,yKn),(24,zKl)]) zKv zWx (.cons yJy (.cons yX3 (.cons yX2 (.cons xXl (.cons zJ2 .nil))))) (fun d=>by kernel_rfl)
def zJp (d0 : (List ((Int)×((Int)×((List (Int))×(Unit)))))×(Int)) : Option (Bool) :=
 Z.loop (fun (s1 : (Int)×(Int)) k2 =>
 (bif (Z.ilt s1.2 (Z.ofN (Z.len d0.1))) then (bif (Z.zQj true (Z.ilt s1.2 200) false) then if (Z.Ix s1.2 (Z.len d0.1)) then Z.bnd (Z.get d0.1 (Z.toN s1.2) (0,(0,(([] : List (Int)),())))) fun (x5 : (Int)×((Int)×((List (Int))×(Unit)))) =>
 Z.bnd (Z.wrap .i64 (Z.add s1.1 (Z.imax false (Z.ofN (Z.len x5.2.2.1)) 1000))) fun (x6 : Int) =>
 Z.bnd (Z.wrap .i64 (Z.add s1.2 1)) fun (x7 : Int) =>
 k2 (x6,x7)
 else none
 else (bif (Z.igt (Z.ofN (Z.len d0.1)) d0.2) then some true
 else some (Z.zQj false true (Z.igt s1.1 5000))))
 else (bif (Z.igt (Z.ofN (Z.len d0.1)) d0.2) then some true
 else some (Z.zQj false true (Z.igt s1.1 5000))))) (0,0)
def yWo : PFn:={ args:=[(.list (.pair (.int .i64) (.pair (.int .i64) (.pair (.list (.int .u8)) .unit)))),(.int .i64)],res:=[.bool],fn:=zJp }
def wY7 : List LSpec×List Nat:=([{ id:=2200,known:=true,toks:=[],items:=[.slot 3 (.sref 1000003 true (.pair (.int .i64) (.pair (.int .i64) (.pair (.list (.int .u8)) .unit)))), .vec 1000003 (.pair (.int .i64) (.pair (.int .i64) (.pair (.list (.int .u8)) .unit))), .slot 11 (.val (.int .i64))],junk:=[12,13,14,5,15,16,17,18,19,20],tails:=[] }],[1000000005])
def wY5 : List LSpec×List Nat:=([],[2000000007,2000000009])
def wY8 : List LSpec×List Nat:=([{ id:=1400,known:=true,toks:=[],items:=[.slot 5 (.val (.int .i64)), .slot 6 (.val (.int .i64))],junk:=[7,8,9,10,11,12,13,14,17,18,19,20,21,22,23,24,25,15,16],tails:=[] }],[])
def wY6 : List LSpec×List Nat:=([],[1000000005])
def spt14 : Tab (List LSpec×List Nat):=(.node .leaf none (.node (.node (.node (.node (.node .leaf (some wY5) .leaf) none .leaf) none .leaf) none .leaf) none (.node .leaf none (.node (.node .leaf (some wY7) .leaf) (some wY8) (.node .leaf (some wY6) .leaf)))))
def spf14 (f : Nat) : List LSpec×List Nat:=(spt14.get f).getD ([],[])
theorem yJx : zZi Try.prog cfg 14 yWo:=fnD spf14 (l:=[]) zKv zWx .nil (fun d=>by kernel_rfl)
def zZl (d0 : ((Int)×((Int)×((Int)×((Int)×(Unit)))))×((List ((Int)×((Int)×((List (Int))×(Unit)))))×(Int))) : Option (((Int)×((Int)×((List (Int))×(Unit))))×(Bool)) :=
 Z.bind (zW5 ((d0.1.1,(d0.1.2.1,(d0.1.2.2.1,(d0.1.2.2.2.1,())))),d0.2.1)) fun (x1 : Int) =>
 (bif (Z.ine x1 0) then some ((0,(0,(([] : List (Int)),()))),false)
 else Z.loop (fun (s2 : (Int)×(Int)) k3 =>
 (bif (Z.ilt s2.1 s2.2) then Z.bnd (Z.wrap .i64 (Z.sub s2.2 s2.1)) fun (x4 : Int) =>
 if (Z.IsZ 2) then none
 else Z.bnd (Z.wrap .i64 (Z.tdiv x4 2)) fun (x7 : Int) =>
 Z.bnd (Z.wrap .i64 (Z.add s2.1 x7)) fun (x8 : Int) =>
 if (Z.Ix x8 (Z.len d0.2.1)) then Z.bnd (Z.get d0.2.1 (Z.toN x8) (0,(0,(([] : List (Int)),())))) fun (x11 : (Int)×((Int)×((List (Int))×(Unit)))) =>
 Z.bind (zXm (x11.1,(x11.2.1,(x11.2.2.1,())))) fun (x12 : Int) =>
 (bif (Z.ilt x12 d0.2.2) then Z.bnd (Z.wrap .i64 (Z.add x8 1)) fun (x13 : Int) =>
 k3 (x13,s2.2)
 else k3 (s2.1,x8))
 else none
 else (bif (Z.ilt s2.1 (Z.ofN (Z.len d0.2.1))) then if (Z.Ix s2.1 (Z.len d0.2.1)) then Z.bnd (Z.get d0.2.1 (Z.toN s2.1) (0,(0,(([] : List (Int)),())))) fun (x16 : (Int)×((Int)×((List (Int))×(Unit)))) =>
 Z.bind (zXm (x16.1,(x16.2.1,(x16.2.2.1,())))) fun (x17 : Int) =>
 (bif (Z.bnot (Z.zQj true (Z.ieq x17 d0.2.2) false)) then some ((0,(0,(([] : List (Int)),()))),false)
 else if (Z.Ix s2.1 (Z.len d0.2.1)) then Z.bnd (Z.get d0.2.1 (Z.toN s2.1) (0,(0,(([] : List (Int)),())))) fun (x20 : (Int)×((Int)×((List (Int))×(Unit)))) =>
 Z.bind (zXn (x20.1,(x20.2.1,(x20.2.2.1,())))) fun (x21 : (Int)×((Int)×((List (Int))×(Unit)))) =>
 some ((x21.1,(x21.2.1,(x21.2.2.1,()))),true)
 else none)
 else none
 else some ((0,(0,(([] : List (Int)),()))),false)))) (0,(Z.ofN (Z.len d0.2.1))))
def yX4 : PFn:={ args:=[(.pair (.int .i64) (.pair (.int .i64) (.pair (.int .i64) (.pair (.int .i64) .unit)))),(.list (.pair (.int .i64) (.pair (.int .i64) (.pair (.list (.int .u8)) .unit)))),(.int .i64)],res:=[(.pair (.int .i64) (.pair (.int .i64) (.pair (.list (.int .u8)) .unit))), .bool],fn:=zZl }
def wY4 : List LSpec×List Nat:=([{ id:=2200,known:=true,toks:=[],items:=[.slot 3 (.sref 1000003 true (.pair (.int .i64) (.pair (.int .i64) (.pair (.list (.int .u8)) .unit)))), .vec 1000003 (.pair (.int .i64) (.pair (.int .i64) (.pair (.list (.int .u8)) .unit))), .slot 11 (.val (.int .i64))],junk:=[12,13,14,5,15,16,17,18,19,20],tails:=[] }],[1000000005])
def wY3 : List LSpec×List Nat:=([{ id:=2900,known:=true,toks:=[],items:=[.slot 6 (.val (.int .i64)), .slot 7 (.val (.int .i64))],junk:=[12,13,14,15,16,17,18,19,20,8,21,22,23,24,25,26,27,28,29,30,31,32,33],tails:=[] }],[])
def wY1 : List LSpec×List Nat:=([],[2000000007,2000000009])
def wY2 : List LSpec×List Nat:=([],[1000000005])
def spt16 : Tab (List LSpec×List Nat):=(.node (.node .leaf none (.node .leaf none (.node .leaf none (.node .leaf (some wY3) .leaf)))) none (.node (.node (.node (.node (.node .leaf (some wY1) .leaf) none .leaf) none .leaf) none .leaf) none (.node .leaf none (.node (.node .leaf (some wY4) .leaf) none (.node .leaf (some wY2) .leaf)))))
def spf16 (f : Nat) : List LSpec×List Nat:=(spt16.get f).getD ([],[])
theorem xQv : zZi Try.prog cfg 16 yX4:=fnD spf16 (l:=[(13,zZd),(46,zZw),(33,zJr)]) zKv zWx (.cons zZv (.cons zKk (.cons zYb .nil))) (fun d=>by kernel_rfl)
def zY3 (d0 : ((Int)×((Int)×((Int)×((Int)×(Unit)))))×((List ((Int)×((Int)×((List (Int))×(Unit)))))×(Int))) : Option ((List ((Int)×((Int)×((List (Int))×(Unit)))))×(Int)) :=
 Z.bind (zW5 ((d0.1.1,(d0.1.2.1,(d0.1.2.2.1,(d0.1.2.2.2.1,())))),d0.2.1)) fun (x1 : Int) =>
 (bif (Z.ine x1 0) then some (([] : List ((Int)×((Int)×((List (Int))×(Unit))))),x1)
 else Z.loop (fun (s2 : (Int)×(Int)) k3 =>
 (bif (Z.ilt s2.1 s2.2) then Z.bnd (Z.wrap .i64 (Z.sub s2.2 s2.1)) fun (x4 : Int) =>
 if (Z.IsZ 2) then none
 else Z.bnd (Z.wrap .i64 (Z.tdiv x4 2)) fun (x7 : Int) =>
 Z.bnd (Z.wrap .i64 (Z.add s2.1 x7)) fun (x8 : Int) =>
 if (Z.Ix x8 (Z.len d0.2.1)) then Z.bnd (Z.get d0.2.1 (Z.toN x8) (0,(0,(([] : List (Int)),())))) fun (x11 : (Int)×((Int)×((List (Int))×(Unit)))) =>
 Z.bind (zXm (x11.1,(x11.2.1,(x11.2.2.1,())))) fun (x12 : Int) =>
 (bif (Z.ilt x12 d0.2.2) then Z.bnd (Z.wrap .i64 (Z.add x8 1)) fun (x13 : Int) =>
 k3 (x13,s2.2)
 else k3 (s2.1,x8))
 else none
 else (bif (Z.ilt s2.1 (Z.ofN (Z.len d0.2.1))) then if (Z.Ix s2.1 (Z.len d0.2.1)) then Z.bnd (Z.get d0.2.1 (Z.toN s2.1) (0,(0,(([] : List (Int)),())))) fun (x16 : (Int)×((Int)×((List (Int))×(Unit)))) =>
 Z.bind (zXm (x16.1,(x16.2.1,(x16.2.2.1,())))) fun (x17 : Int) =>
 (bif (Z.bnot (Z.zQj true (Z.ieq x17 d0.2.2) false)) then some (([] : List ((Int)×((Int)×((List (Int))×(Unit))))),6)
 else if (Z.MkOk 0 (Z.ofN (Z.len d0.2.1)) 40) then Z.loop (fun (s20 : ((Nat)×((Nat)×(Nat)))×((List ((Int)×((Int)×((List (Int))×(Unit)))))×(Int))) k21 =>
 (bif (Z.ilt s20.2.2 (Z.ofN (Z.len d0.2.1))) then if (Z.Ix s20.2.2 (Z.len d0.2.1)) then Z.bnd (Z.get d0.2.1 (Z.toN s20.2.2) (0,(0,(([] : List (Int)),())))) fun (x24 : (Int)×((Int)×((List (Int))×(Unit)))) =>
 Z.bind (zXn (x24.1,(x24.2.1,(x24.2.2.1,())))) fun (x25 : (Int)×((Int)×((List (Int))×(Unit)))) =>
 if (Z.Le (Z.addN 0 1) (Z.len ((x25.1,(x25.2.1,(x25.2.2.1,())))::([] : List ((Int)×((Int)×((List (Int))×(Unit)))))))) then if (Z.Le (Z.addN s20.1.1 s20.1.2.1) (Z.len s20.2.1)) then if (Z.Big (Z.len (Z.seg s20.2.1 s20.1.1 s20.1.2.1)) (Z.len (Z.seg ((x25.1,(x25.2.1,(x25.2.2.1,())))::([] : List ((Int)×((Int)×((List (Int))×(Unit)))))) 0 1)) 40) then none
 else if (Z.Le (Z.addN s20.1.2.1 (Z.len (Z.seg ((x25.1,(x25.2.1,(x25.2.2.1,())))::([] : List ((Int)×((Int)×((List (Int))×(Unit)))))) 0 1))) s20.1.2.2) then if (Z.Le (Z.addN s20.1.1 (Z.addN s20.1.2.1 (Z.len (Z.seg ((x25.1,(x25.2.1,(x25.2.2.1,())))::([] : List ((Int)×((Int)×((List (Int))×(Unit)))))) 0 1)))) (Z.len s20.2.1)) then Z.bnd (Z.put s20.2.1 (Z.addN s20.1.1 s20.1.2.1) (Z.seg ((x25.1,(x25.2.1,(x25.2.2.1,())))::([] : List ((Int)×((Int)×((List (Int))×(Unit)))))) 0 1)) fun (x36 : List ((Int)×((Int)×((List (Int))×(Unit))))) =>
 Z.bnd (Z.wrap .i64 (Z.add s20.2.2 1)) fun (x37 : Int) =>
 k21 ((s20.1.1,((Z.addN s20.1.2.1 (Z.len (Z.seg ((x25.1,(x25.2.1,(x25.2.2.1,())))::([] : List ((Int)×((Int)×((List (Int))×(Unit)))))) 0 1))),s20.1.2.2)),(x36,x37))
 else none
 else none
 else none
 else none
 else none
 else Z.bnd (Z.wrap .i64 (Z.add s2.1 1)) fun (x38 : Int) =>
 if (Z.Bd (Z.ofN s20.1.2.1) s20.1.2.2) then if (Z.Bd x38 (Z.toN (Z.ofN s20.1.2.1))) then if (Z.Bd s2.1 (Z.toN x38)) then if (Z.Lt (Z.toN s2.1) (Z.toN (Z.ofN s20.1.2.1))) then (bif (Z.ieq s2.1 x38) then if (Z.Le (Z.addN s20.1.1 s20.1.2.1) (Z.len s20.2.1)) then some ((Z.seg s20.2.1 s20.1.1 s20.1.2.1),0)
 else none
 else if (Z.Bd s2.1 s20.1.2.2) then if (Z.Lt 0 s20.1.2.2) then if (Z.Bd x38 s20.1.2.1) then if (Z.Lt (Z.toN x38) s20.1.2.2) then if (Z.Le (Z.addN (Z.addN s20.1.1 (Z.toN x38)) (Z.subN s20.1.2.1 (Z.toN x38))) (Z.len s20.2.1)) then if (Z.Le (Z.addN (Z.addN s20.1.1 0) (Z.subN (Z.toN s2.1) 0)) (Z.len s20.2.1)) then if (Z.Big (Z.len (Z.seg s20.2.1 (Z.addN s20.1.1 0) (Z.subN (Z.toN s2.1) 0))) (Z.len (Z.seg s20.2.1 (Z.addN s20.1.1 (Z.toN x38)) (Z.subN s20.1.2.1 (Z.toN x38)))) 40) then none
 else if (Z.Le (Z.addN (Z.subN (Z.toN s2.1) 0) (Z.len (Z.seg s20.2.1 (Z.addN s20.1.1 (Z.toN x38)) (Z.subN s20.1.2.1 (Z.toN x38))))) (Z.subN s20.1.2.2 0)) then if (Z.Le (Z.addN (Z.addN s20.1.1 0) (Z.addN (Z.subN (Z.toN s2.1) 0) (Z.len (Z.seg s20.2.1 (Z.addN s20.1.1 (Z.toN x38)) (Z.subN s20.1.2.1 (Z.toN x38)))))) (Z.len s20.2.1)) then Z.bnd (Z.put s20.2.1 (Z.addN (Z.addN s20.1.1 0) (Z.subN (Z.toN s2.1) 0)) (Z.seg s20.2.1 (Z.addN s20.1.1 (Z.toN x38)) (Z.subN s20.1.2.1 (Z.toN x38)))) fun (x67 : List ((Int)×((Int)×((List (Int))×(Unit))))) =>
 if (Z.Bd (Z.ofN s20.1.2.1) (Z.subN s20.1.2.2 0)) then if (Z.Bd (Z.ofN (Z.addN (Z.subN (Z.toN s2.1) 0) (Z.len (Z.seg s20.2.1 (Z.addN s20.1.1 (Z.toN x38)) (Z.subN s20.1.2.1 (Z.toN x38)))))) (Z.toN (Z.ofN s20.1.2.1))) then if (Z.Lt (Z.toN (Z.ofN (Z.addN (Z.subN (Z.toN s2.1) 0) (Z.len (Z.seg s20.2.1 (Z.addN s20.1.1 (Z.toN x38)) (Z.subN s20.1.2.1 (Z.toN x38))))))) (Z.subN s20.1.2.2 0)) then if (Z.Le (Z.addN (Z.addN (Z.addN s20.1.1 0) (Z.toN (Z.ofN (Z.addN (Z.subN (Z.toN s2.1) 0) (Z.len (Z.seg s20.2.1 (Z.addN s20.1.1 (Z.toN x38)) (Z.subN s20.1.2.1 (Z.toN x38)))))))) (Z.subN (Z.toN (Z.ofN s20.1.2.1)) (Z.toN (Z.ofN (Z.addN (Z.subN (Z.toN s2.1) 0) (Z.len (Z.seg s20.2.1 (Z.addN s20.1.1 (Z.toN x38)) (Z.subN s20.1.2.1 (Z.toN x38))))))))) (Z.len x67)) then Z.bnd (Z.put x67 (Z.addN (Z.addN s20.1.1 0) (Z.toN (Z.ofN (Z.addN (Z.subN (Z.toN s2.1) 0) (Z.len (Z.seg s20.2.1 (Z.addN s20.1.1 (Z.toN x38)) (Z.subN s20.1.2.1 (Z.toN x38)))))))) (Z.rep (α:=(Int)×((Int)×((List (Int))×(Unit)))) (Z.subN (Z.toN (Z.ofN s20.1.2.1)) (Z.toN (Z.ofN (Z.addN (Z.subN (Z.toN s2.1) 0) (Z.len (Z.seg s20.2.1 (Z.addN s20.1.1 (Z.toN x38)) (Z.subN s20.1.2.1 (Z.toN x38)))))))) (0,(0,(([] : List (Int)),()))))) fun (x76 : List ((Int)×((Int)×((List (Int))×(Unit))))) =>
 if (Z.Le (Z.addN (Z.addN s20.1.1 0) (Z.addN (Z.subN (Z.toN s2.1) 0) (Z.len (Z.seg s20.2.1 (Z.addN s20.1.1 (Z.toN x38)) (Z.subN s20.1.2.1 (Z.toN x38)))))) (Z.len x76)) then some ((Z.seg x76 (Z.addN s20.1.1 0) (Z.addN (Z.subN (Z.toN s2.1) 0) (Z.len (Z.seg s20.2.1 (Z.addN s20.1.1 (Z.toN x38)) (Z.subN s20.1.2.1 (Z.toN x38)))))),0)
 else none
 else none
 else none
 else none
 else none
 else none
 else none
 else none
 else none
 else if (Z.Le (Z.addN (Z.addN s20.1.1 0) (Z.subN (Z.toN s2.1) 0)) (Z.len s20.2.1)) then if (Z.Big (Z.len (Z.seg s20.2.1 (Z.addN s20.1.1 0) (Z.subN (Z.toN s2.1) 0))) (Z.len ([] : List ((Int)×((Int)×((List (Int))×(Unit)))))) 40) then none
 else if (Z.Le (Z.addN (Z.subN (Z.toN s2.1) 0) (Z.len ([] : List ((Int)×((Int)×((List (Int))×(Unit))))))) (Z.subN s20.1.2.2 0)) then if (Z.Le (Z.addN (Z.addN s20.1.1 0) (Z.addN (Z.subN (Z.toN s2.1) 0) (Z.len ([] : List ((Int)×((Int)×((List (Int))×(Unit)))))))) (Z.len s20.2.1)) then Z.bnd (Z.put s20.2.1 (Z.addN (Z.addN s20.1.1 0) (Z.subN (Z.toN s2.1) 0)) ([] : List ((Int)×((Int)×((List (Int))×(Unit)))))) fun (x87 : List ((Int)×((Int)×((List (Int))×(Unit))))) =>
 if (Z.Bd (Z.ofN s20.1.2.1) (Z.subN s20.1.2.2 0)) then if (Z.Bd (Z.ofN (Z.addN (Z.subN (Z.toN s2.1) 0) (Z.len ([] : List ((Int)×((Int)×((List (Int))×(Unit)))))))) (Z.toN (Z.ofN s20.1.2.1))) then if (Z.Lt (Z.toN (Z.ofN (Z.addN (Z.subN (Z.toN s2.1) 0) (Z.len ([] : List ((Int)×((Int)×((List (Int))×(Unit))))))))) (Z.subN s20.1.2.2 0)) then if (Z.Le (Z.addN (Z.addN (Z.addN s20.1.1 0) (Z.toN (Z.ofN (Z.addN (Z.subN (Z.toN s2.1) 0) (Z.len ([] : List ((Int)×((Int)×((List (Int))×(Unit)))))))))) (Z.subN (Z.toN (Z.ofN s20.1.2.1)) (Z.toN (Z.ofN (Z.addN (Z.subN (Z.toN s2.1) 0) (Z.len ([] : List ((Int)×((Int)×((List (Int))×(Unit))))))))))) (Z.len x87)) then Z.bnd (Z.put x87 (Z.addN (Z.addN s20.1.1 0) (Z.toN (Z.ofN (Z.addN (Z.subN (Z.toN s2.1) 0) (Z.len ([] : List ((Int)×((Int)×((List (Int))×(Unit)))))))))) (Z.rep (α:=(Int)×((Int)×((List (Int))×(Unit)))) (Z.subN (Z.toN (Z.ofN s20.1.2.1)) (Z.toN (Z.ofN (Z.addN (Z.subN (Z.toN s2.1) 0) (Z.len ([] : List ((Int)×((Int)×((List (Int))×(Unit)))))))))) (0,(0,(([] : List (Int)),()))))) fun (x96 : List ((Int)×((Int)×((List (Int))×(Unit))))) =>
 if (Z.Le (Z.addN (Z.addN s20.1.1 0) (Z.addN (Z.subN (Z.toN s2.1) 0) (Z.len ([] : List ((Int)×((Int)×((List (Int))×(Unit)))))))) (Z.len x96)) then some ((Z.seg x96 (Z.addN s20.1.1 0) (Z.addN (Z.subN (Z.toN s2.1) 0) (Z.len ([] : List ((Int)×((Int)×((List (Int))×(Unit)))))))),0)
 else none
 else none
 else none
 else none
 else none
 else none
 else none
 else none
 else none
 else if (Z.Bd x38 s20.1.2.1) then if (Z.Lt (Z.toN x38) s20.1.2.2) then if (Z.Le (Z.addN (Z.addN s20.1.1 (Z.toN x38)) (Z.subN s20.1.2.1 (Z.toN x38))) (Z.len s20.2.1)) then none
 else none
 else none
 else none
 else none)
 else (bif (Z.ieq s2.1 x38) then if (Z.Le (Z.addN s20.1.1 s20.1.2.1) (Z.len s20.2.1)) then some ((Z.seg s20.2.1 s20.1.1 s20.1.2.1),0)
 else none
 else if (Z.Bd s2.1 s20.1.2.2) then if (Z.Lt 0 s20.1.2.2) then if (Z.Bd x38 s20.1.2.1) then if (Z.Lt (Z.toN x38) s20.1.2.2) then if (Z.Le (Z.addN (Z.addN s20.1.1 (Z.toN x38)) (Z.subN s20.1.2.1 (Z.toN x38))) (Z.len s20.2.1)) then if (Z.Le (Z.addN (Z.addN s20.1.1 0) (Z.subN (Z.toN s2.1) 0)) (Z.len s20.2.1)) then if (Z.Big (Z.len (Z.seg s20.2.1 (Z.addN s20.1.1 0) (Z.subN (Z.toN s2.1) 0))) (Z.len (Z.seg s20.2.1 (Z.addN s20.1.1 (Z.toN x38)) (Z.subN s20.1.2.1 (Z.toN x38)))) 40) then none
 else if (Z.Le (Z.addN (Z.subN (Z.toN s2.1) 0) (Z.len (Z.seg s20.2.1 (Z.addN s20.1.1 (Z.toN x38)) (Z.subN s20.1.2.1 (Z.toN x38))))) (Z.subN s20.1.2.2 0)) then if (Z.Le (Z.addN (Z.addN s20.1.1 0) (Z.addN (Z.subN (Z.toN s2.1) 0) (Z.len (Z.seg s20.2.1 (Z.addN s20.1.1 (Z.toN x38)) (Z.subN s20.1.2.1 (Z.toN x38)))))) (Z.len s20.2.1)) then Z.bnd (Z.put s20.2.1 (Z.addN (Z.addN s20.1.1 0) (Z.subN (Z.toN s2.1) 0)) (Z.seg s20.2.1 (Z.addN s20.1.1 (Z.toN x38)) (Z.subN s20.1.2.1 (Z.toN x38)))) fun (x125 : List ((Int)×((Int)×((List (Int))×(Unit))))) =>
 if (Z.Bd (Z.ofN s20.1.2.1) (Z.subN s20.1.2.2 0)) then if (Z.Bd (Z.ofN (Z.addN (Z.subN (Z.toN s2.1) 0) (Z.len (Z.seg s20.2.1 (Z.addN s20.1.1 (Z.toN x38)) (Z.subN s20.1.2.1 (Z.toN x38)))))) (Z.toN (Z.ofN s20.1.2.1))) then if (Z.Lt (Z.toN (Z.ofN (Z.addN (Z.subN (Z.toN s2.1) 0) (Z.len (Z.seg s20.2.1 (Z.addN s20.1.1 (Z.toN x38)) (Z.subN s20.1.2.1 (Z.toN x38))))))) (Z.subN s20.1.2.2 0)) then if (Z.Le (Z.addN (Z.addN (Z.addN s20.1.1 0) (Z.toN (Z.ofN (Z.addN (Z.subN (Z.toN s2.1) 0) (Z.len (Z.seg s20.2.1 (Z.addN s20.1.1 (Z.toN x38)) (Z.subN s20.1.2.1 (Z.toN x38)))))))) (Z.subN (Z.toN (Z.ofN s20.1.2.1)) (Z.toN (Z.ofN (Z.addN (Z.subN (Z.toN s2.1) 0) (Z.len (Z.seg s20.2.1 (Z.addN s20.1.1 (Z.toN x38)) (Z.subN s20.1.2.1 (Z.toN x38))))))))) (Z.len x125)) then Z.bnd (Z.put x125 (Z.addN (Z.addN s20.1.1 0) (Z.toN (Z.ofN (Z.addN (Z.subN (Z.toN s2.1) 0) (Z.len (Z.seg s20.2.1 (Z.addN s20.1.1 (Z.toN x38)) (Z.subN s20.1.2.1 (Z.toN x38)))))))) (Z.rep (α:=(Int)×((Int)×((List (Int))×(Unit)))) (Z.subN (Z.toN (Z.ofN s20.1.2.1)) (Z.toN (Z.ofN (Z.addN (Z.subN (Z.toN s2.1) 0) (Z.len (Z.seg s20.2.1 (Z.addN s20.1.1 (Z.toN x38)) (Z.subN s20.1.2.1 (Z.toN x38)))))))) (0,(0,(([] : List (Int)),()))))) fun (x134 : List ((Int)×((Int)×((List (Int))×(Unit))))) =>
 if (Z.Le (Z.addN (Z.addN s20.1.1 0) (Z.addN (Z.subN (Z.toN s2.1) 0) (Z.len (Z.seg s20.2.1 (Z.addN s20.1.1 (Z.toN x38)) (Z.subN s20.1.2.1 (Z.toN x38)))))) (Z.len x134)) then some ((Z.seg x134 (Z.addN s20.1.1 0) (Z.addN (Z.subN (Z.toN s2.1) 0) (Z.len (Z.seg s20.2.1 (Z.addN s20.1.1 (Z.toN x38)) (Z.subN s20.1.2.1 (Z.toN x38)))))),0)
 else none
 else none
 else none
 else none
 else none
 else none
 else none
 else none
 else none
 else if (Z.Le (Z.addN (Z.addN s20.1.1 0) (Z.subN (Z.toN s2.1) 0)) (Z.len s20.2.1)) then if (Z.Big (Z.len (Z.seg s20.2.1 (Z.addN s20.1.1 0) (Z.subN (Z.toN s2.1) 0))) (Z.len ([] : List ((Int)×((Int)×((List (Int))×(Unit)))))) 40) then none
 else if (Z.Le (Z.addN (Z.subN (Z.toN s2.1) 0) (Z.len ([] : List ((Int)×((Int)×((List (Int))×(Unit))))))) (Z.subN s20.1.2.2 0)) then if (Z.Le (Z.addN (Z.addN s20.1.1 0) (Z.addN (Z.subN (Z.toN s2.1) 0) (Z.len ([] : List ((Int)×((Int)×((List (Int))×(Unit)))))))) (Z.len s20.2.1)) then Z.bnd (Z.put s20.2.1 (Z.addN (Z.addN s20.1.1 0) (Z.subN (Z.toN s2.1) 0)) ([] : List ((Int)×((Int)×((List (Int))×(Unit)))))) fun (x145 : List ((Int)×((Int)×((List (Int))×(Unit))))) =>
 if (Z.Bd (Z.ofN s20.1.2.1) (Z.subN s20.1.2.2 0)) then if (Z.Bd (Z.ofN (Z.addN (Z.subN (Z.toN s2.1) 0) (Z.len ([] : List ((Int)×((Int)×((List (Int))×(Unit)))))))) (Z.toN (Z.ofN s20.1.2.1))) then if (Z.Lt (Z.toN (Z.ofN (Z.addN (Z.subN (Z.toN s2.1) 0) (Z.len ([] : List ((Int)×((Int)×((List (Int))×(Unit))))))))) (Z.subN s20.1.2.2 0)) then if (Z.Le (Z.addN (Z.addN (Z.addN s20.1.1 0) (Z.toN (Z.ofN (Z.addN (Z.subN (Z.toN s2.1) 0) (Z.len ([] : List ((Int)×((Int)×((List (Int))×(Unit)))))))))) (Z.subN (Z.toN (Z.ofN s20.1.2.1)) (Z.toN (Z.ofN (Z.addN (Z.subN (Z.toN s2.1) 0) (Z.len ([] : List ((Int)×((Int)×((List (Int))×(Unit))))))))))) (Z.len x145)) then Z.bnd (Z.put x145 (Z.addN (Z.addN s20.1.1 0) (Z.toN (Z.ofN (Z.addN (Z.subN (Z.toN s2.1) 0) (Z.len ([] : List ((Int)×((Int)×((List (Int))×(Unit)))))))))) (Z.rep (α:=(Int)×((Int)×((List (Int))×(Unit)))) (Z.subN (Z.toN (Z.ofN s20.1.2.1)) (Z.toN (Z.ofN (Z.addN (Z.subN (Z.toN s2.1) 0) (Z.len ([] : List ((Int)×((Int)×((List (Int))×(Unit)))))))))) (0,(0,(([] : List (Int)),()))))) fun (x154 : List ((Int)×((Int)×((List (Int))×(Unit))))) =>
 if (Z.Le (Z.addN (Z.addN s20.1.1 0) (Z.addN (Z.subN (Z.toN s2.1) 0) (Z.len ([] : List ((Int)×((Int)×((List (Int))×(Unit)))))))) (Z.len x154)) then some ((Z.seg x154 (Z.addN s20.1.1 0) (Z.addN (Z.subN (Z.toN s2.1) 0) (Z.len ([] : List ((Int)×((Int)×((List (Int))×(Unit)))))))),0)
 else none
 else none
 else none
 else none
 else none
 else none
 else none
 else none
 else none
 else if (Z.Bd x38 s20.1.2.1) then if (Z.Lt (Z.toN x38) s20.1.2.2) then if (Z.Le (Z.addN (Z.addN s20.1.1 (Z.toN x38)) (Z.subN s20.1.2.1 (Z.toN x38))) (Z.len s20.2.1)) then none
 else none
 else none
 else none
 else none)
 else none
 else none
 else none)) ((0,((Z.toN 0),(Z.toN (Z.ofN (Z.len d0.2.1))))),((Z.rep (α:=(Int)×((Int)×((List (Int))×(Unit)))) (Z.toN (Z.ofN (Z.len d0.2.1))) (0,(0,(([] : List (Int)),())))),0))
 else none)
 else none
 else some (([] : List ((Int)×((Int)×((List (Int))×(Unit))))),6)))) (0,(Z.ofN (Z.len d0.2.1))))
def yX5 : PFn:={ args:=[(.pair (.int .i64) (.pair (.int .i64) (.pair (.int .i64) (.pair (.int .i64) .unit)))),(.list (.pair (.int .i64) (.pair (.int .i64) (.pair (.list (.int .u8)) .unit)))),(.int .i64)],res:=[(.list (.pair (.int .i64) (.pair (.int .i64) (.pair (.list (.int .u8)) .unit)))),(.int .i64)],fn:=zY3 }
def sp7_22 : List LSpec×List Nat:=([{ id:=2200,known:=true,toks:=[],items:=[.slot 3 (.sref 1000003 true (.pair (.int .i64) (.pair (.int .i64) (.pair (.list (.int .u8)) .unit)))), .vec 1000003 (.pair (.int .i64) (.pair (.int .i64) (.pair (.list (.int .u8)) .unit))), .slot 11 (.val (.int .i64))],junk:=[12,13,14,5,15,16,17,18,19,20],tails:=[] }],[1000000005])
def sp7_29 : List LSpec×List Nat:=([{ id:=2900,known:=true,toks:=[],items:=[.slot 6 (.val (.int .i64)), .slot 7 (.val (.int .i64))],junk:=[12,13,14,15,16,17,18,19,20,8,21,22,23,24,25,26,27,28,29,30,31,32,33],tails:=[] }],[])
def sp7_32 : List LSpec×List Nat:=([],[2000000007,2000000009])
def sp7_30 : List LSpec×List Nat:=([],[1000000005])
def spt7 : Tab (List LSpec×List Nat):=(.node (.node .leaf none (.node .leaf none (.node .leaf none (.node .leaf (some sp7_29) .leaf)))) none (.node (.node (.node (.node (.node .leaf (some sp7_32) .leaf) none .leaf) none .leaf) none .leaf) none (.node .leaf none (.node (.node .leaf (some sp7_22) .leaf) none (.node .leaf (some sp7_30) .leaf)))))
def spf7 (f : Nat) : List LSpec×List Nat:=(spt7.get f).getD ([],[])
theorem xQw : zZi Try.prog cfg 7 yX5:=fnD spf7 (l:=[(13,zZd),(46,zZw),(33,zJr)]) zKv zWx (.cons zZv (.cons zKk (.cons zYb .nil))) (fun d=>by kernel_rfl)
def zZe (d0 : ((Int)×((Int)×((Int)×((Int)×(Unit)))))×((List ((Int)×((Int)×((List (Int))×(Unit)))))×(((Int)×((Int)×((List (Int))×(Unit))))×(Int)))) : Option (Bool) :=
 Z.bind (zJv ()) fun (x1 : Bool) =>
 Z.join (σ:=Bool) (fun k2 =>
 Z.bind (zJp (d0.2.1,40)) fun (x3 : Bool) =>
 (bif x3 then k2 true
 else (bif (Z.zQj false true (Z.igt (Z.ofN (Z.len d0.2.2.1.2.2.1)) 1000)) then k2 true
 else k2 (Z.zQj false true (Z.bnot x1))))) fun (j4 : Bool) =>
 (bif j4 then some x1
 else Z.bind (zKd ((d0.1.1,(d0.1.2.1,(d0.1.2.2.1,(d0.1.2.2.2.1,())))),(d0.2.1,(d0.2.2.1.1,(d0.2.2.1.2.1,(d0.2.2.1.2.2.1,())))))) fun (x5 : (List ((Int)×((Int)×((List (Int))×(Unit)))))×(Int)) =>
 (bif (Z.ine x5.2 0) then Z.join (σ:=Bool) (fun k6 =>
 (bif x1 then k6 (Z.zQj true (Z.ieq (Z.ofN (Z.len x5.1)) 0) false)
 else k6 false)) fun (j7 : Bool) =>
 some j7
 else Z.bind (zZl ((d0.1.1,(d0.1.2.1,(d0.1.2.2.1,(d0.1.2.2.2.1,())))),(x5.1,d0.2.2.1.1))) fun (x8 : ((Int)×((Int)×((List (Int))×(Unit))))×(Bool)) =>
 Z.bind (zZl ((d0.1.1,(d0.1.2.1,(d0.1.2.2.1,(d0.1.2.2.2.1,())))),(d0.2.1,d0.2.2.1.1))) fun (x9 : ((Int)×((Int)×((List (Int))×(Unit))))×(Bool)) =>
 Z.bind (zY3 ((d0.1.1,(d0.1.2.1,(d0.1.2.2.1,(d0.1.2.2.2.1,())))),(x5.1,d0.2.2.1.1))) fun (x10 : (List ((Int)×((Int)×((List (Int))×(Unit)))))×(Int)) =>
 Z.bind (zZl ((d0.1.1,(d0.1.2.1,(d0.1.2.2.1,(d0.1.2.2.2.1,())))),(x5.1,d0.2.2.2))) fun (x11 : ((Int)×((Int)×((List (Int))×(Unit))))×(Bool)) =>
 Z.bind (zZl ((d0.1.1,(d0.1.2.1,(d0.1.2.2.1,(d0.1.2.2.2.1,())))),(d0.2.1,d0.2.2.2))) fun (x12 : ((Int)×((Int)×((List (Int))×(Unit))))×(Bool)) =>
 Z.join (σ:=Bool) (fun k13 =>
 Z.bind (zW5 ((d0.1.1,(d0.1.2.1,(d0.1.2.2.1,(d0.1.2.2.2.1,())))),x5.1)) fun (x14 : Int) =>
 (bif (Z.ine x14 0) then k13 true
 else (bif (Z.zQj false true (Z.bnot x8.2)) then k13 true
 else Z.bind (zZn ((x8.1.1,(x8.1.2.1,(x8.1.2.2.1,()))),(d0.2.2.1.1,(d0.2.2.1.2.1,(d0.2.2.1.2.2.1,()))))) fun (x15 : Bool) =>
 (bif (Z.zQj false true (Z.bnot x15)) then k13 true
 else (bif (Z.zQj false true (Z.ine x10.2 0)) then k13 true
 else (bif (Z.bnot x9.2) then Z.bind (zXs (x10.1,d0.2.1)) fun (x16 : Bool) =>
 k13 (Z.zQj false true (Z.zQj true (Z.bnot x16) false))
 else k13 (Z.zQj false true false))))))) fun (j17 : Bool) =>
 (bif j17 then some false
 else Z.join (σ:=Bool) (fun k18 =>
 (bif x1 then (bif (Z.ieq d0.2.2.2 d0.2.2.1.1) then (bif x9.2 then (bif (Z.zQj true (Z.ieq (Z.ofN (Z.len x5.1)) (Z.ofN (Z.len d0.2.1))) false) then k18 (Z.zQj true true false)
 else (bif (Z.bnot x9.2) then Z.bnd (Z.wrap .i64 (Z.add (Z.ofN (Z.len d0.2.1)) 1)) fun (x19 : Int) =>
 k18 (Z.zQj true (Z.zQj false true (Z.zQj true (Z.ieq (Z.ofN (Z.len x5.1)) x19) false)) false)
 else k18 (Z.zQj true (Z.zQj false true false) false)))
 else (bif (Z.bnot x9.2) then Z.bnd (Z.wrap .i64 (Z.add (Z.ofN (Z.len d0.2.1)) 1)) fun (x20 : Int) =>
 k18 (Z.zQj true (Z.zQj false true (Z.zQj true (Z.ieq (Z.ofN (Z.len x5.1)) x20) false)) false)
 else k18 (Z.zQj true (Z.zQj false true false) false)))
 else (bif (Z.beq x11.2 x12.2) then Z.bind (zZn ((x11.1.1,(x11.1.2.1,(x11.1.2.2.1,()))),(x12.1.1,(x12.1.2.1,(x12.1.2.2.1,()))))) fun (x21 : Bool) =>
 (bif (Z.zQj true (Z.zQj false true (Z.zQj true x21 false)) false) then (bif x9.2 then (bif (Z.zQj true (Z.ieq (Z.ofN (Z.len x5.1)) (Z.ofN (Z.len d0.2.1))) false) then k18 (Z.zQj true true false)
 else (bif (Z.bnot x9.2) then Z.bnd (Z.wrap .i64 (Z.add (Z.ofN (Z.len d0.2.1)) 1)) fun (x22 : Int) =>
 k18 (Z.zQj true (Z.zQj false true (Z.zQj true (Z.ieq (Z.ofN (Z.len x5.1)) x22) false)) false)
 else k18 (Z.zQj true (Z.zQj false true false) false)))
 else (bif (Z.bnot x9.2) then Z.bnd (Z.wrap .i64 (Z.add (Z.ofN (Z.len d0.2.1)) 1)) fun (x23 : Int) =>
 k18 (Z.zQj true (Z.zQj false true (Z.zQj true (Z.ieq (Z.ofN (Z.len x5.1)) x23) false)) false)
 else k18 (Z.zQj true (Z.zQj false true false) false)))
 else k18 false)
 else k18 false))
 else k18 false)) fun (j24 : Bool) =>
 some j24)))
def zXt : PFn:={ args:=[(.pair (.int .i64) (.pair (.int .i64) (.pair (.int .i64) (.pair (.int .i64) .unit)))),(.list (.pair (.int .i64) (.pair (.int .i64) (.pair (.list (.int .u8)) .unit)))),(.pair (.int .i64) (.pair (.int .i64) (.pair (.list (.int .u8)) .unit))),(.int .i64)],res:=[.bool],fn:=zZe }
def sp5_55 : List LSpec×List Nat:=([{ id:=5055000,known:=false,toks:=[],items:=[],junk:=[2],tails:=[] },{ id:=5055001,known:=true,toks:=[],items:=[.slot 8 (.val .bool)],junk:=[3,4,5,6,7],tails:=[] },{ id:=5055002,known:=false,toks:=[],items:=[],junk:=[2],tails:=[] },{ id:=5055003,known:=false,toks:=[],items:=[.slot 2 (.val (.int .i64))],junk:=[],tails:=[] },{ id:=5055004,known:=false,toks:=[],items:=[.slot 2 (.val (.int .i64))],junk:=[],tails:=[] }],[])
def sp5_34 : List LSpec×List Nat:=([{ id:=5034000,known:=false,toks:=[],items:=[],junk:=[2,3],tails:=[] },{ id:=5034001,known:=true,toks:=[],items:=[.slot 24 (.val .bool)],junk:=[7,8,9,10,11,12,13,14,15,16,17,18,19,20,21,22,23],tails:=[] },{ id:=5034002,known:=false,toks:=[],items:=[],junk:=[2,3],tails:=[] },{ id:=5034003,known:=false,toks:=[],items:=[.slot 2 (.val (.int .i64)), .slot 3 (.val (.int .i64))],junk:=[],tails:=[] },{ id:=5034004,known:=false,toks:=[],items:=[.slot 4 (.val (.int .i64)), .slot 5 (.val (.int .i64))],junk:=[26,27,28,25,29,30],tails:=[] },{ id:=5034005,known:=true,toks:=[],items:=[.slot 38 (.val .bool)],junk:=[31,32,33,34,35,36,37],tails:=[] },{ id:=5034006,known:=false,toks:=[],items:=[],junk:=[2,3],tails:=[] },{ id:=5034007,known:=false,toks:=[],items:=[.slot 2 (.val (.int .i64)), .slot 3 (.val (.int .i64))],junk:=[],tails:=[] },{ id:=5034008,known:=false,toks:=[],items:=[.slot 6 (.val (.int .i64))],junk:=[],tails:=[] },{ id:=3400,known:=false,toks:=[],items:=[],junk:=[],tails:=[] },{ id:=5034009,known:=false,toks:=[],items:=[.slot 40 (.val .bool)],junk:=[39],tails:=[] },{ id:=5034010,known:=false,toks:=[],items:=[],junk:=[],tails:=[] },{ id:=5034011,known:=false,toks:=[],items:=[.slot 50 (.val .bool)],junk:=[43,44,45,46,47,48,49],tails:=[] },{ id:=5034012,known:=false,toks:=[],items:=[],junk:=[51,2,3],tails:=[] },{ id:=5034013,known:=false,toks:=[],items:=[.slot 2 (.val (.int .i64)), .slot 3 (.val (.int .i64))],junk:=[51],tails:=[] },{ id:=5034014,known:=false,toks:=[],items:=[.slot 6 (.val (.int .i64))],junk:=[41,42],tails:=[] },{ id:=5034015,known:=false,toks:=[],items:=[.slot 2 (.val (.int .i64)), .slot 3 (.val (.int .i64))],junk:=[],tails:=[] }],[])
def sp5_31 : List LSpec×List Nat:=([{ id:=5031000,known:=false,toks:=[],items:=[],junk:=[4],tails:=[] },{ id:=5031001,known:=false,toks:=[],items:=[.slot 6 (.val (.int .i64))],junk:=[10,11,9,12,13,5],tails:=[] },{ id:=5031002,known:=false,toks:=[],items:=[.slot 15 (.val .bool)],junk:=[14],tails:=[] },{ id:=5031003,known:=false,toks:=[],items:=[],junk:=[16,4],tails:=[] },{ id:=5031004,known:=false,toks:=[],items:=[.slot 4 (.val (.int .i64))],junk:=[16],tails:=[] },{ id:=5031005,known:=false,toks:=[],items:=[.slot 7 (.val (.int .i64))],junk:=[18,19,20,17,21,22,8],tails:=[] },{ id:=5031006,known:=true,toks:=[],items:=[.slot 51 (.val .bool)],junk:=[23,24,25,26,27,28,29,30,31,32,33,34,35,36,37,38,39,40,41,42,43,44,45,46,47,48,49,50],tails:=[] },{ id:=5031007,known:=false,toks:=[],items:=[],junk:=[4],tails:=[] },{ id:=5031008,known:=false,toks:=[],items:=[.slot 4 (.val (.int .i64))],junk:=[],tails:=[] },{ id:=5031009,known:=false,toks:=[],items:=[.slot 4 (.val (.int .i64))],junk:=[],tails:=[] }],[])
def sp5_13 : List LSpec×List Nat:=([{ id:=5013000,known:=false,toks:=[],items:=[],junk:=[4],tails:=[] },{ id:=5013001,known:=false,toks:=[],items:=[.slot 6 (.val (.int .i64))],junk:=[10,11,9,12,13,5],tails:=[] },{ id:=5013002,known:=false,toks:=[],items:=[.slot 15 (.val .bool)],junk:=[14],tails:=[] },{ id:=5013003,known:=false,toks:=[],items:=[],junk:=[16,4],tails:=[] },{ id:=5013004,known:=false,toks:=[],items:=[.slot 4 (.val (.int .i64))],junk:=[16],tails:=[] },{ id:=5013005,known:=false,toks:=[],items:=[.slot 18 (.val (.int .i64)), .slot 19 (.val (.int .i64))],junk:=[],tails:=[] },{ id:=1300,known:=false,toks:=[],items:=[],junk:=[],tails:=[] },{ id:=5013006,known:=false,toks:=[],items:=[],junk:=[],tails:=[] },{ id:=5013007,known:=false,toks:=[],items:=[],junk:=[],tails:=[] },{ id:=5013008,known:=false,toks:=[],items:=[.slot 7 (.val (.int .i64))],junk:=[21,22,23],tails:=[] },{ id:=5013009,known:=true,toks:=[],items:=[.slot 42 (.val .bool)],junk:=[24,25,26,27,28,29,30,31,32,33,34,35,36,37,38,39,40,41],tails:=[] },{ id:=5013010,known:=false,toks:=[],items:=[],junk:=[4],tails:=[] },{ id:=5013011,known:=false,toks:=[],items:=[.slot 4 (.val (.int .i64))],junk:=[],tails:=[] },{ id:=5013012,known:=false,toks:=[],items:=[.slot 19 (.val (.int .i64))],junk:=[43],tails:=[] },{ id:=5013013,known:=false,toks:=[],items:=[.slot 4 (.val (.int .i64))],junk:=[],tails:=[] }],[])
def sp5_22 : List LSpec×List Nat:=([{ id:=2200,known:=true,toks:=[],items:=[.slot 3 (.sref 1000003 true (.pair (.int .i64) (.pair (.int .i64) (.pair (.list (.int .u8)) .unit)))), .vec 1000003 (.pair (.int .i64) (.pair (.int .i64) (.pair (.list (.int .u8)) .unit))), .slot 11 (.val (.int .i64))],junk:=[12,13,14,5,15,16,17,18,19,20],tails:=[] }],[1000000005])
def sp5_29 : List LSpec×List Nat:=([{ id:=5029000,known:=false,toks:=[],items:=[],junk:=[4,5],tails:=[] },{ id:=5029001,known:=false,toks:=[],items:=[.slot 6 (.val (.int .i64)), .slot 7 (.val (.int .i64))],junk:=[9,10,11],tails:=[] },{ id:=2900,known:=false,toks:=[],items:=[],junk:=[],tails:=[] },{ id:=5029002,known:=false,toks:=[],items:=[.slot 14 (.val .bool)],junk:=[12,13],tails:=[] },{ id:=5029003,known:=false,toks:=[],items:=[],junk:=[],tails:=[] },{ id:=5029004,known:=false,toks:=[],items:=[.slot 8 (.val (.int .i64))],junk:=[15,16,17,18,19,20],tails:=[] },{ id:=5029005,known:=false,toks:=[],items:=[.slot 30 (.val .bool)],junk:=[21,22,23,24,25,26,27,28,29],tails:=[] },{ id:=5029006,known:=true,toks:=[],items:=[.slot 6 (.val (.int .i64)), .slot 7 (.val (.int .i64))],junk:=[31,32,33],tails:=[] },{ id:=5029007,known:=false,toks:=[],items:=[.slot 6 (.val (.int .i64))],junk:=[31,32],tails:=[] },{ id:=5029008,known:=false,toks:=[],items:=[.slot 7 (.val (.int .i64))],junk:=[33],tails:=[] },{ id:=5029009,known:=true,toks:=[],items:=[.slot 4 (.val (.int .i64)), .slot 5 (.val .bool)],junk:=[34,35,36,37,38,39,40,41,42,43,44,45,46,47,48,49,50,51],tails:=[] }],[])
def sp5_32 : List LSpec×List Nat:=([],[2000000007,2000000009])
def sp5_23 : List LSpec×List Nat:=([{ id:=5023000,known:=false,toks:=[],items:=[],junk:=[4],tails:=[] },{ id:=5023001,known:=true,toks:=[],items:=[.slot 4 (.val .bool)],junk:=[5,6,7,8,9,10,11,12,13,14,15,16,17,18,19,20,21,22,23],tails:=[] }],[])
def sp5_12 : List LSpec×List Nat:=([{ id:=5012000,known:=false,toks:=[],items:=[],junk:=[0],tails:=[] },{ id:=5012001,known:=false,toks:=[],items:=[.slot 2 (.val (.int .i64))],junk:=[8,9,10,7,11,12],tails:=[] },{ id:=5012002,known:=false,toks:=[],items:=[.slot 4 (.val (.int .i64))],junk:=[14,15,16,17,13,18,19],tails:=[] },{ id:=5012003,known:=false,toks:=[],items:=[.slot 6 (.val (.int .i64))],junk:=[21,22,23,24,20,25,26],tails:=[] },{ id:=5012004,known:=true,toks:=[],items:=[.slot 0 (.val .bool)],junk:=[27,28,29,30,31,32,33,34,35,36,37,38,39,40,41,42,43,44,45,46,47,48],tails:=[] }],[])
def sp5_14 : List LSpec×List Nat:=([{ id:=5014000,known:=false,toks:=[],items:=[],junk:=[4],tails:=[] },{ id:=5014001,known:=false,toks:=[],items:=[.slot 5 (.val (.int .i64))],junk:=[],tails:=[] },{ id:=5014002,known:=false,toks:=[],items:=[.slot 6 (.val (.int .i64))],junk:=[],tails:=[] },{ id:=1400,known:=false,toks:=[],items:=[],junk:=[],tails:=[] },{ id:=5014003,known:=true,toks:=[],items:=[.slot 14 (.val .bool)],junk:=[7,8,9,10,11,12,13],tails:=[] },{ id:=5014004,known:=false,toks:=[],items:=[],junk:=[],tails:=[] },{ id:=5014005,known:=false,toks:=[],items:=[.slot 5 (.val (.int .i64))],junk:=[17,18,19,20,21,22,23,24,25],tails:=[] },{ id:=5014006,known:=false,toks:=[],items:=[.slot 6 (.val (.int .i64))],junk:=[15,16],tails:=[] },{ id:=5014007,known:=true,toks:=[],items:=[.slot 4 (.val .bool)],junk:=[26,27,28,29,30,31,32,33],tails:=[] }],[])
def sp5_30 : List LSpec×List Nat:=([],[1000000005])
def sp5_5 : List LSpec×List Nat:=([{ id:=5005000,known:=false,toks:=[],items:=[],junk:=[8],tails:=[] },{ id:=5005001,known:=false,toks:=[],items:=[.slot 9 (.val .bool)],junk:=[22],tails:=[] },{ id:=5005002,known:=true,toks:=[],items:=[.slot 34 (.val .bool)],junk:=[23,24,25,26,27,28,29,30,31,32,33],tails:=[] },{ id:=5005003,known:=false,toks:=[],items:=[],junk:=[35,8],tails:=[] },{ id:=5005004,known:=false,toks:=[],items:=[.slot 8 (.val .bool)],junk:=[35],tails:=[] },{ id:=5005005,known:=false,toks:=[],items:=[.slot 11 (.val (.int .i64))],junk:=[37,38,39,40,36,41,42],tails:=[] },{ id:=5005006,known:=false,toks:=[],items:=[.slot 44 (.val .bool)],junk:=[43],tails:=[] },{ id:=5005007,known:=false,toks:=[],items:=[],junk:=[45,46,47,48,49,50,8],tails:=[] },{ id:=5005008,known:=true,toks:=[],items:=[.slot 8 (.val .bool)],junk:=[45,46,47,48,49,50],tails:=[] },{ id:=5005009,known:=false,toks:=[],items:=[.slot 13 (.val .bool)],junk:=[52,53,54,55,56,51,57,58],tails:=[] },{ id:=5005010,known:=false,toks:=[],items:=[.slot 15 (.val .bool)],junk:=[60,61,62,63,64,59,65,66,14],tails:=[] },{ id:=5005011,known:=false,toks:=[],items:=[.slot 17 (.val (.int .i64))],junk:=[68,69,70,71,72,67,73,74],tails:=[] },{ id:=5005012,known:=false,toks:=[],items:=[.slot 19 (.val .bool)],junk:=[76,77,78,79,75,80,81],tails:=[] },{ id:=5005013,known:=false,toks:=[],items:=[.slot 21 (.val .bool)],junk:=[83,84,85,86,82,87,88],tails:=[] },{ id:=5005014,known:=true,toks:=[],items:=[.slot 116 (.val .bool)],junk:=[89,90,91,92,93,94,95,96,97,98,99,100,101,102,103,104,105,106,107,108,109,110,111,112,113,114,115],tails:=[] },{ id:=5005015,known:=false,toks:=[],items:=[],junk:=[8],tails:=[] },{ id:=5005016,known:=false,toks:=[],items:=[.slot 8 (.val .bool)],junk:=[],tails:=[] },{ id:=5005017,known:=true,toks:=[],items:=[.slot 8 (.val .bool)],junk:=[117,118,119,120,121,122,123,124,125,126,127,128,129,130,131,132,133,134,135,136,137,138,139,140,141,142,143,144,145,146,147,148,149,150,151,152,153,154,155],tails:=[] }],[])
def spt5 : Tab (List LSpec×List Nat):=(.node (.node (.node (.node (.node (.node .leaf (some sp5_31) .leaf) none .leaf) none (.node .leaf (some sp5_23) (.node .leaf (some sp5_55) .leaf))) none .leaf) none (.node .leaf (some sp5_5) (.node .leaf (some sp5_13) (.node .leaf (some sp5_29) .leaf)))) none (.node (.node (.node (.node (.node .leaf (some sp5_32) .leaf) none .leaf) none .leaf) none (.node .leaf (some sp5_12) .leaf)) none (.node (.node (.node (.node .leaf (some sp5_34) .leaf) none .leaf) none .leaf) none (.node (.node .leaf (some sp5_22) .leaf) (some sp5_14) (.node .leaf (some sp5_30) .leaf)))))
def spf5 (f : Nat) : List LSpec×List Nat:=(spt5.get f).getD ([],[])
theorem yWm : zZi Try.prog cfg 5 zXt:=fnD spf5 (l:=[(12,yWq),(14,yWo),(18,yQ0),(16,yX4),(7,yX5),(13,zZd),(23,zYe),(24,zKl)]) zKv zWx (.cons yJz (.cons yJx (.cons yX2 (.cons xQv (.cons xQw (.cons zZv (.cons yWl (.cons zJ2 .nil)))))))) (fun d=>by kernel_rfl)
end
end Go.Proofs.Ytampmlalpifkoaa
