/- The functions of the program, as functions on plain data. -/
import Derived.Test.YtnbmjkbbppcbcaaCfg
import Derived.Test.YtnbmjkbbppcbcaaM6
import Derived.ProofKit
import Derived.Test.YtnbmjkbbppcbcaaConfS
namespace Go.Proofs.Ytnbmjkbbppcbcaa
open Go.Eng
noncomputable section
set_option linter.unusedVariables false
set_option maxRecDepth 100000
def sp0 (f : Nat) : List LSpec×List Nat:=([],[])
def zK6 (d0 : Unit) : Option ((Int)×((Int)×((Int)×((Int)×((Int)×((Int)×((Int)×((Int)×((Int)×(Unit)))))))))) :=
 some (8,(4,(2,(2,(8,(2,(2,(4,(2,())))))))))
def yX7 : PFn:={ args:=[],res:=[(.pair (.int .i64) (.pair (.int .i64) (.pair (.int .i64) (.pair (.int .i64) (.pair (.int .i64) (.pair (.int .i64) (.pair (.int .i64) (.pair (.int .i64) (.pair (.int .i64) .unit)))))))))],fn:=zK6 }
def uQa : List LSpec×List Nat:=([],[5])
def uQb : List LSpec×List Nat:=([{ id:=2800,known:=true,toks:=[(9000000,(.int .u8)),(9000000,(.mix 900000001 (.int .u8))),(7005000,(.mix 900000001 (.mix 900000002 (.int .u8))))],items:=[.slot 18 (.val (.int .i64)), .cells 1000004 [.val (.mix 2005000 (.mix 12005000 (.mix 22005000 (.int .u8))))], .rows 2005000 (.mix 12005000 (.mix 22005000 (.int .u8))), .rows 22005000 (.int .u8), .rows 12005000 (.mix 22005000 (.int .u8))],junk:=[19,20,21,22,5,6,23,24,25,26,27,28,29,30,31,32,33,34,35],tails:=[] }],[4000000001])
def spt10 : Tab (List LSpec×List Nat):=(.node .leaf none (.node (.node .leaf none (.node (.node (.node (.node .leaf (some uQa) .leaf) none .leaf) none .leaf) none (.node .leaf (some uQb) .leaf))) none .leaf))
def spf10 (f : Nat) : List LSpec×List Nat:=(spt10.get f).getD ([],[])
theorem xWc : zW7 Try.prog cfg 10 yX7:=fnD spf10 (l:=[]) zX2 zWa .nil (fun d=>by kernel_rfl)
def zXg (d0 : (Int)×((Int)×((Int)×(Unit)))) : Option (Bool) :=
 (bif (Z.ile d0.2.1 d0.1) then some (Z.zQz true (Z.ile d0.1 d0.2.2.1) false)
 else some false)
def zZ4 : PFn:={ args:=[(.pair (.int .i64) (.pair (.int .i64) (.pair (.int .i64) .unit)))],res:=[.bool],fn:=zXg }
def vJg : List LSpec×List Nat:=([],[5])
def vJh : List LSpec×List Nat:=([{ id:=2800,known:=true,toks:=[(9000000,(.int .u8)),(9000000,(.mix 900000001 (.int .u8))),(7005000,(.mix 900000001 (.mix 900000002 (.int .u8))))],items:=[.slot 18 (.val (.int .i64)), .cells 1000004 [.val (.mix 2005000 (.mix 12005000 (.mix 22005000 (.int .u8))))], .rows 2005000 (.mix 12005000 (.mix 22005000 (.int .u8))), .rows 22005000 (.int .u8), .rows 12005000 (.mix 22005000 (.int .u8))],junk:=[19,20,21,22,5,6,23,24,25,26,27,28,29,30,31,32,33,34,35],tails:=[] }],[4000000001])
def spt77 : Tab (List LSpec×List Nat):=(.node .leaf none (.node (.node .leaf none (.node (.node (.node (.node .leaf (some vJg) .leaf) none .leaf) none .leaf) none (.node .leaf (some vJh) .leaf))) none .leaf))
def spf77 (f : Nat) : List LSpec×List Nat:=(spt77.get f).getD ([],[])
theorem zYj : zW7 Try.prog cfg 77 zZ4:=fnD spf77 (l:=[]) zX2 zWa .nil (fun d=>by kernel_rfl)
def yQz (d0 : Int) : Option (Int) :=
 (bif (Z.ilt d0 1) then some 2
 else (bif (Z.zQz false true (Z.igt d0 6)) then some 2
 else some 0))
def yXe : PFn:={ args:=[(.int .i64)],res:=[(.int .i64)],fn:=yQz }
def vJk : List LSpec×List Nat:=([],[5])
def vJl : List LSpec×List Nat:=([{ id:=2800,known:=true,toks:=[(9000000,(.int .u8)),(9000000,(.mix 900000001 (.int .u8))),(7005000,(.mix 900000001 (.mix 900000002 (.int .u8))))],items:=[.slot 18 (.val (.int .i64)), .cells 1000004 [.val (.mix 2005000 (.mix 12005000 (.mix 22005000 (.int .u8))))], .rows 2005000 (.mix 12005000 (.mix 22005000 (.int .u8))), .rows 22005000 (.int .u8), .rows 12005000 (.mix 22005000 (.int .u8))],junk:=[19,20,21,22,5,6,23,24,25,26,27,28,29,30,31,32,33,34,35],tails:=[] }],[4000000001])
def spt71 : Tab (List LSpec×List Nat):=(.node .leaf none (.node (.node .leaf none (.node (.node (.node (.node .leaf (some vJk) .leaf) none .leaf) none .leaf) none (.node .leaf (some vJl) .leaf))) none .leaf))
def spf71 (f : Nat) : List LSpec×List Nat:=(spt71.get f).getD ([],[])
theorem yK3 : zW7 Try.prog cfg 71 yXe:=fnD spf71 (l:=[]) zX2 zWa .nil (fun d=>by kernel_rfl)
def yWn (d0 : Int) : Option ((Int)×(Int)) :=
 Z.bind (yQz d0) fun (x1 : Int) =>
 (bif (Z.ine x1 0) then some (0,x1)
 else if (Z.Neg d0) then none
 else Z.bnd (Z.shl .i64 1 d0) fun (x4 : Int) =>
 some (x4,0))
def yK7 : PFn:={ args:=[(.int .i64)],res:=[(.int .i64),(.int .i64)],fn:=yWn }
def vK7 : List LSpec×List Nat:=([],[5])
def vK8 : List LSpec×List Nat:=([{ id:=2800,known:=true,toks:=[(9000000,(.int .u8)),(9000000,(.mix 900000001 (.int .u8))),(7005000,(.mix 900000001 (.mix 900000002 (.int .u8))))],items:=[.slot 18 (.val (.int .i64)), .cells 1000004 [.val (.mix 2005000 (.mix 12005000 (.mix 22005000 (.int .u8))))], .rows 2005000 (.mix 12005000 (.mix 22005000 (.int .u8))), .rows 22005000 (.int .u8), .rows 12005000 (.mix 22005000 (.int .u8))],junk:=[19,20,21,22,5,6,23,24,25,26,27,28,29,30,31,32,33,34,35],tails:=[] }],[4000000001])
def spt82 : Tab (List LSpec×List Nat):=(.node .leaf none (.node (.node .leaf none (.node (.node (.node (.node .leaf (some vK7) .leaf) none .leaf) none .leaf) none (.node .leaf (some vK8) .leaf))) none .leaf))
def spf82 (f : Nat) : List LSpec×List Nat:=(spt82.get f).getD ([],[])
theorem xZm : zW7 Try.prog cfg 82 yK7:=fnD spf82 (l:=[(71,yXe)]) zX2 zWa (.cons yK3 .nil) (fun d=>by kernel_rfl)
def yZw (d0 : Int) : Option (Int) :=
 Z.loop (fun (s1 : Int) k2 =>
 Z.bind (yWn s1) fun (x3 : (Int)×(Int)) =>
 (bif (Z.ine x3.2 0) then some s1
 else (bif (Z.zQz false true (Z.ige x3.1 d0)) then some s1
 else Z.bnd (Z.wrap .i64 (Z.add s1 1)) fun (x4 : Int) =>
 k2 x4))) 1
def yYu : PFn:={ args:=[(.int .i64)],res:=[(.int .i64)],fn:=yZw }
def vK9 : List LSpec×List Nat:=([{ id:=8100,known:=true,toks:=[],items:=[.slot 3 (.val (.int .i64))],junk:=[9,10,8,11,12,4,5,13,14,15,16,17,18,19,20,2,6,7],tails:=[] }],[])
def vJa : List LSpec×List Nat:=([],[5])
def vJb : List LSpec×List Nat:=([{ id:=2800,known:=true,toks:=[(9000000,(.int .u8)),(9000000,(.mix 900000001 (.int .u8))),(7005000,(.mix 900000001 (.mix 900000002 (.int .u8))))],items:=[.slot 18 (.val (.int .i64)), .cells 1000004 [.val (.mix 2005000 (.mix 12005000 (.mix 22005000 (.int .u8))))], .rows 2005000 (.mix 12005000 (.mix 22005000 (.int .u8))), .rows 22005000 (.int .u8), .rows 12005000 (.mix 22005000 (.int .u8))],junk:=[19,20,21,22,5,6,23,24,25,26,27,28,29,30,31,32,33,34,35],tails:=[] }],[4000000001])
def spt81 : Tab (List LSpec×List Nat):=(.node (.node .leaf none (.node (.node (.node .leaf none (.node (.node .leaf (some vK9) .leaf) none .leaf)) none .leaf) none .leaf)) none (.node (.node .leaf none (.node (.node (.node (.node .leaf (some vJa) .leaf) none .leaf) none .leaf) none (.node .leaf (some vJb) .leaf))) none .leaf))
def spf81 (f : Nat) : List LSpec×List Nat:=(spt81.get f).getD ([],[])
theorem xJl : zW7 Try.prog cfg 81 yYu:=fnD spf81 (l:=[(82,yK7)]) zX2 zWa (.cons xZm .nil) (fun d=>by kernel_rfl)
def zZa (d0 : ((Int)×((Int)×((Int)×((Int)×((Int)×((Int)×((Int)×((Int)×((Int)×(Unit))))))))))×((Int)×(Int))) : Option ((Int)×((Int)×((Int)×((Int)×(Unit))))) :=
 Z.bnd (Z.wrap .i64 (Z.add 8 d0.2.2)) fun (x1 : Int) =>
 Z.bnd (Z.wrap .i64 (Z.mul d0.1.2.2.2.1 x1)) fun (x2 : Int) =>
 Z.bnd (Z.wrap .i64 (Z.add x2 64)) fun (x3 : Int) =>
 Z.bind (yZw d0.2.1) fun (x4 : Int) =>
 some (d0.2.1,(d0.2.2,(x4,(x3,()))))
def yQm : PFn:={ args:=[(.pair (.int .i64) (.pair (.int .i64) (.pair (.int .i64) (.pair (.int .i64) (.pair (.int .i64) (.pair (.int .i64) (.pair (.int .i64) (.pair (.int .i64) (.pair (.int .i64) .unit))))))))),(.int .i64),(.int .i64)],res:=[(.pair (.int .i64) (.pair (.int .i64) (.pair (.int .i64) (.pair (.int .i64) .unit))))],fn:=zZa }
def vJe : List LSpec×List Nat:=([],[5])
def vJf : List LSpec×List Nat:=([{ id:=2800,known:=true,toks:=[(9000000,(.int .u8)),(9000000,(.mix 900000001 (.int .u8))),(7005000,(.mix 900000001 (.mix 900000002 (.int .u8))))],items:=[.slot 18 (.val (.int .i64)), .cells 1000004 [.val (.mix 2005000 (.mix 12005000 (.mix 22005000 (.int .u8))))], .rows 2005000 (.mix 12005000 (.mix 22005000 (.int .u8))), .rows 22005000 (.int .u8), .rows 12005000 (.mix 22005000 (.int .u8))],junk:=[19,20,21,22,5,6,23,24,25,26,27,28,29,30,31,32,33,34,35],tails:=[] }],[4000000001])
def spt79 : Tab (List LSpec×List Nat):=(.node .leaf none (.node (.node .leaf none (.node (.node (.node (.node .leaf (some vJe) .leaf) none .leaf) none .leaf) none (.node .leaf (some vJf) .leaf))) none .leaf))
def spf79 (f : Nat) : List LSpec×List Nat:=(spt79.get f).getD ([],[])
theorem yX4 : zW7 Try.prog cfg 79 yQm:=fnD spf79 (l:=[(81,yYu)]) zX2 zWa (.cons xJl .nil) (fun d=>by kernel_rfl)
def zY1 (d0 : ((Int)×((Int)×((Int)×((Int)×((Int)×((Int)×((Int)×((Int)×((Int)×(Unit))))))))))×((Int)×((Int)×((Int)×((Int)×(Unit)))))) : Option (Bool) :=
 some (Z.ile d0.2.1 d0.1.2.2.2.2.2.2.2.2.1)
def zYl : PFn:={ args:=[(.pair (.int .i64) (.pair (.int .i64) (.pair (.int .i64) (.pair (.int .i64) (.pair (.int .i64) (.pair (.int .i64) (.pair (.int .i64) (.pair (.int .i64) (.pair (.int .i64) .unit))))))))),(.pair (.int .i64) (.pair (.int .i64) (.pair (.int .i64) (.pair (.int .i64) .unit))))],res:=[.bool],fn:=zY1 }
def vJc : List LSpec×List Nat:=([],[5])
def vJd : List LSpec×List Nat:=([{ id:=2800,known:=true,toks:=[(9000000,(.int .u8)),(9000000,(.mix 900000001 (.int .u8))),(7005000,(.mix 900000001 (.mix 900000002 (.int .u8))))],items:=[.slot 18 (.val (.int .i64)), .cells 1000004 [.val (.mix 2005000 (.mix 12005000 (.mix 22005000 (.int .u8))))], .rows 2005000 (.mix 12005000 (.mix 22005000 (.int .u8))), .rows 22005000 (.int .u8), .rows 12005000 (.mix 22005000 (.int .u8))],junk:=[19,20,21,22,5,6,23,24,25,26,27,28,29,30,31,32,33,34,35],tails:=[] }],[4000000001])
def spt80 : Tab (List LSpec×List Nat):=(.node .leaf none (.node (.node .leaf none (.node (.node (.node (.node .leaf (some vJc) .leaf) none .leaf) none .leaf) none (.node .leaf (some vJd) .leaf))) none .leaf))
def spf80 (f : Nat) : List LSpec×List Nat:=(spt80.get f).getD ([],[])
theorem yWz : zW7 Try.prog cfg 80 zYl:=fnD spf80 (l:=[]) zX2 zWa .nil (fun d=>by kernel_rfl)
def zJ5 (d0 : (Int)×((Int)×((Int)×((Int)×((Int)×((Int)×((Int)×((Int)×((Int)×(Unit)))))))))) : Option (Int) :=
 Z.bind (yXo (d0.1,(d0.2.1,(d0.2.2.1,(d0.2.2.2.1,(d0.2.2.2.2.1,(d0.2.2.2.2.2.1,(d0.2.2.2.2.2.2.1,(d0.2.2.2.2.2.2.2.1,(d0.2.2.2.2.2.2.2.2.1,())))))))))) fun (x1 : List ((Int)×((Int)×((Int)×(Unit))))) =>
 Z.loop (fun (s2 : Int) k3 =>
 (bif (Z.ilt s2 9) then if (Z.In s2 9) then Z.bnd (Z.get x1 (Z.toN s2) (0,(0,(0,())))) fun (x6 : (Int)×((Int)×((Int)×(Unit)))) =>
 Z.bind (zXg (x6.1,(x6.2.1,(x6.2.2.1,())))) fun (x7 : Bool) =>
 (bif (Z.bnot x7) then some 8
 else Z.bnd (Z.wrap .i64 (Z.add s2 1)) fun (x8 : Int) =>
 k3 x8)
 else none
 else Z.bind (zZa ((d0.1,(d0.2.1,(d0.2.2.1,(d0.2.2.2.1,(d0.2.2.2.2.1,(d0.2.2.2.2.2.1,(d0.2.2.2.2.2.2.1,(d0.2.2.2.2.2.2.2.1,(d0.2.2.2.2.2.2.2.2.1,()))))))))),(d0.1,d0.2.1))) fun (x9 : (Int)×((Int)×((Int)×((Int)×(Unit))))) =>
 Z.loop (fun (s10 : ((Int)×((Int)×((Int)×(Int))))×(Int)) k11 =>
 Z.bnd (Z.wrap .i64 (Z.add s10.2 1)) fun (x12 : Int) =>
 Z.bind (zY1 ((d0.1,(d0.2.1,(d0.2.2.1,(d0.2.2.2.1,(d0.2.2.2.2.1,(d0.2.2.2.2.2.1,(d0.2.2.2.2.2.2.1,(d0.2.2.2.2.2.2.2.1,(d0.2.2.2.2.2.2.2.2.1,()))))))))),(s10.1.1,(s10.1.2.1,(s10.1.2.2.1,(s10.1.2.2.2,())))))) fun (x13 : Bool) =>
 (bif (Z.zQz true (Z.bnot x13) false) then Z.bnd (Z.wrap .i64 (Z.add s10.1.1 d0.2.2.1)) fun (x14 : Int) =>
 Z.bnd (Z.wrap .i64 (Z.sub x14 1)) fun (x15 : Int) =>
 if (Z.IsZ d0.2.2.1) then none
 else Z.bnd (Z.wrap .i64 (Z.tdiv x15 d0.2.2.1)) fun (x18 : Int) =>
 Z.bnd (Z.wrap .i64 (Z.mul 4 d0.2.2.1)) fun (x19 : Int) =>
 Z.bind (zZa ((d0.1,(d0.2.1,(d0.2.2.1,(d0.2.2.2.1,(d0.2.2.2.2.1,(d0.2.2.2.2.2.1,(d0.2.2.2.2.2.2.1,(d0.2.2.2.2.2.2.2.1,(d0.2.2.2.2.2.2.2.2.1,()))))))))),(x18,x19))) fun (x20 : (Int)×((Int)×((Int)×((Int)×(Unit))))) =>
 k11 ((x20.1,(x20.2.1,(x20.2.2.1,x20.2.2.2.1))),x12)
 else (bif (Z.igt x12 4) then some 8
 else some 0))) ((x9.1,(x9.2.1,(x9.2.2.1,x9.2.2.2.1))),0))) 0
def yK9 : PFn:={ args:=[(.pair (.int .i64) (.pair (.int .i64) (.pair (.int .i64) (.pair (.int .i64) (.pair (.int .i64) (.pair (.int .i64) (.pair (.int .i64) (.pair (.int .i64) (.pair (.int .i64) .unit)))))))))],res:=[(.int .i64)],fn:=zJ5 }
def vJm : List LSpec×List Nat:=([{ id:=7800,known:=true,toks:=[],items:=[.cells 1000003 [.val (.int .i64), .val (.int .i64), .val (.int .i64), .val (.int .i64)], .cells 1 [.val (.int .i64)]],junk:=[10,11,12,13,14,15,16,17,18,19,20,21,22,23,24,25,26,27,28,29,30,31,32],tails:=[] }],[])
def vJn : List LSpec×List Nat:=([{ id:=6900,known:=true,toks:=[],items:=[.slot 8 (.val (.int .i64))],junk:=[9,10,4,11,12,13,2,14],tails:=[] }],[])
def vJo : List LSpec×List Nat:=([],[5])
def vJp : List LSpec×List Nat:=([{ id:=2800,known:=true,toks:=[(9000000,(.int .u8)),(9000000,(.mix 900000001 (.int .u8))),(7005000,(.mix 900000001 (.mix 900000002 (.int .u8))))],items:=[.slot 18 (.val (.int .i64)), .cells 1000004 [.val (.mix 2005000 (.mix 12005000 (.mix 22005000 (.int .u8))))], .rows 2005000 (.mix 12005000 (.mix 22005000 (.int .u8))), .rows 22005000 (.int .u8), .rows 12005000 (.mix 22005000 (.int .u8))],junk:=[19,20,21,22,5,6,23,24,25,26,27,28,29,30,31,32,33,34,35],tails:=[] }],[4000000001])
def spt69 : Tab (List LSpec×List Nat):=(.node (.node .leaf none (.node .leaf none (.node (.node (.node (.node .leaf (some vJn) .leaf) none .leaf) none .leaf) none .leaf))) none (.node (.node .leaf none (.node (.node (.node (.node .leaf (some vJo) .leaf) none .leaf) none .leaf) none (.node .leaf (some vJp) .leaf))) none (.node .leaf none (.node .leaf none (.node (.node (.node .leaf (some vJm) .leaf) none .leaf) none .leaf)))))
def spf69 (f : Nat) : List LSpec×List Nat:=(spt69.get f).getD ([],[])
theorem xZo : zW7 Try.prog cfg 69 yK9:=fnD spf69 (l:=[(76,yZa),(77,zZ4),(79,yQm),(80,zYl)]) zX2 zWa (.cons xWf (.cons zYj (.cons yX4 (.cons yWz .nil)))) (fun d=>by kernel_rfl)
def zY2 (d0 : (Int)×((Int)×((Int)×((Int)×((Int)×((Int)×((Int)×((Int)×((Int)×(Unit)))))))))) : Option ((List ((Int)×((Int)×((Int)×((Int)×(Unit))))))×(Int)) :=
 Z.bind (zJ5 (d0.1,(d0.2.1,(d0.2.2.1,(d0.2.2.2.1,(d0.2.2.2.2.1,(d0.2.2.2.2.2.1,(d0.2.2.2.2.2.2.1,(d0.2.2.2.2.2.2.2.1,(d0.2.2.2.2.2.2.2.2.1,())))))))))) fun (x1 : Int) =>
 (bif (Z.ine x1 0) then some (([] : List ((Int)×((Int)×((Int)×((Int)×(Unit)))))),x1)
 else if (Z.MkOk 0 4 32) then Z.bind (zZa ((d0.1,(d0.2.1,(d0.2.2.1,(d0.2.2.2.1,(d0.2.2.2.2.1,(d0.2.2.2.2.2.1,(d0.2.2.2.2.2.2.1,(d0.2.2.2.2.2.2.2.1,(d0.2.2.2.2.2.2.2.2.1,()))))))))),(d0.1,d0.2.1))) fun (x4 : (Int)×((Int)×((Int)×((Int)×(Unit))))) =>
 if (Z.EqN (Z.toN 0) 0) then if (Z.EqN 0 (Z.len ([] : List ((Int)×((Int)×((Int)×((Int)×(Unit)))))))) then Z.loop (fun (s9 : ((Int)×((Int)×((Int)×(Int))))×(List ((Int)×((Int)×((Int)×((Int)×(Unit))))))) k10 =>
 if (Z.Le (Z.addN 0 1) (Z.len ((s9.1.1,(s9.1.2.1,(s9.1.2.2.1,(s9.1.2.2.2,()))))::([] : List ((Int)×((Int)×((Int)×((Int)×(Unit))))))))) then if (Z.Big (Z.len s9.2) (Z.len (Z.seg ((s9.1.1,(s9.1.2.1,(s9.1.2.2.1,(s9.1.2.2.2,()))))::([] : List ((Int)×((Int)×((Int)×((Int)×(Unit))))))) 0 1)) 32) then none
 else if (Z.EqN (Z.len s9.2) (Z.len s9.2)) then Z.bnd (Z.app s9.2 (Z.seg ((s9.1.1,(s9.1.2.1,(s9.1.2.2.1,(s9.1.2.2.2,()))))::([] : List ((Int)×((Int)×((Int)×((Int)×(Unit))))))) 0 1)) fun (x17 : List ((Int)×((Int)×((Int)×((Int)×(Unit)))))) =>
 Z.bind (zY1 ((d0.1,(d0.2.1,(d0.2.2.1,(d0.2.2.2.1,(d0.2.2.2.2.1,(d0.2.2.2.2.2.1,(d0.2.2.2.2.2.2.1,(d0.2.2.2.2.2.2.2.1,(d0.2.2.2.2.2.2.2.2.1,()))))))))),(s9.1.1,(s9.1.2.1,(s9.1.2.2.1,(s9.1.2.2.2,())))))) fun (x18 : Bool) =>
 (bif (Z.zQz true (Z.bnot x18) false) then Z.bnd (Z.wrap .i64 (Z.add s9.1.1 d0.2.2.1)) fun (x19 : Int) =>
 Z.bnd (Z.wrap .i64 (Z.sub x19 1)) fun (x20 : Int) =>
 if (Z.IsZ d0.2.2.1) then none
 else Z.bnd (Z.wrap .i64 (Z.tdiv x20 d0.2.2.1)) fun (x23 : Int) =>
 Z.bnd (Z.wrap .i64 (Z.mul 4 d0.2.2.1)) fun (x24 : Int) =>
 Z.bind (zZa ((d0.1,(d0.2.1,(d0.2.2.1,(d0.2.2.2.1,(d0.2.2.2.2.1,(d0.2.2.2.2.2.1,(d0.2.2.2.2.2.2.1,(d0.2.2.2.2.2.2.2.1,(d0.2.2.2.2.2.2.2.2.1,()))))))))),(x23,x24))) fun (x25 : (Int)×((Int)×((Int)×((Int)×(Unit))))) =>
 if (Z.EqN (Z.len x17) (Z.len x17)) then k10 ((x25.1,(x25.2.1,(x25.2.2.1,x25.2.2.2.1))),x17)
 else none
 else some (x17,0))
 else none
 else none) ((x4.1,(x4.2.1,(x4.2.2.1,x4.2.2.2.1))),([] : List ((Int)×((Int)×((Int)×((Int)×(Unit)))))))
 else none
 else none
 else none)
def yZb : PFn:={ args:=[(.pair (.int .i64) (.pair (.int .i64) (.pair (.int .i64) (.pair (.int .i64) (.pair (.int .i64) (.pair (.int .i64) (.pair (.int .i64) (.pair (.int .i64) (.pair (.int .i64) .unit)))))))))],res:=[(.list (.pair (.int .i64) (.pair (.int .i64) (.pair (.int .i64) (.pair (.int .i64) .unit))))),(.int .i64)],fn:=zY2 }
def vJu : List LSpec×List Nat:=([{ id:=7800,known:=true,toks:=[(2002000,(.pair (.int .i64) (.pair (.int .i64) (.pair (.int .i64) (.pair (.int .i64) .unit)))))],items:=[.cells 1000003 [.val (.int .i64), .val (.int .i64), .val (.int .i64), .val (.int .i64)], .cells 2 [.slt (.pair (.int .i64) (.pair (.int .i64) (.pair (.int .i64) (.pair (.int .i64) .unit)))) (some 2002000) false]],junk:=[10,11,12,13,14,15,16,17,18,19,20,21,22,23,24,25,26,27,28,29,30,31,32],tails:=[(2002000,2002000)] }],[])
def vJv : List LSpec×List Nat:=([],[5])
def vJw : List LSpec×List Nat:=([{ id:=2800,known:=true,toks:=[(9000000,(.int .u8)),(9000000,(.mix 900000001 (.int .u8))),(7005000,(.mix 900000001 (.mix 900000002 (.int .u8))))],items:=[.slot 18 (.val (.int .i64)), .cells 1000004 [.val (.mix 2005000 (.mix 12005000 (.mix 22005000 (.int .u8))))], .rows 2005000 (.mix 12005000 (.mix 22005000 (.int .u8))), .rows 22005000 (.int .u8), .rows 12005000 (.mix 22005000 (.int .u8))],junk:=[19,20,21,22,5,6,23,24,25,26,27,28,29,30,31,32,33,34,35],tails:=[] }],[4000000001])
def spt60 : Tab (List LSpec×List Nat):=(.node .leaf none (.node (.node .leaf none (.node (.node (.node (.node .leaf (some vJv) .leaf) none .leaf) none .leaf) none (.node .leaf (some vJw) .leaf))) none (.node .leaf none (.node .leaf none (.node (.node (.node .leaf (some vJu) .leaf) none .leaf) none .leaf)))))
def spf60 (f : Nat) : List LSpec×List Nat:=(spt60.get f).getD ([],[])
theorem xWg : zW7 Try.prog cfg 60 yZb:=fnD spf60 (l:=[(69,yK9),(79,yQm),(80,zYl)]) zX2 zWa (.cons xZo (.cons yX4 (.cons yWz .nil))) (fun d=>by kernel_rfl)
def zYw (d0 : Int) : Option ((Int)×(Int)) :=
 Z.bind (yQz d0) fun (x1 : Int) =>
 (bif (Z.ine x1 0) then some (0,x1)
 else if (Z.Neg d0) then none
 else Z.bnd (Z.shl .i64 2 d0) fun (x4 : Int) =>
 Z.bnd (Z.wrap .i64 (Z.sub x4 1)) fun (x5 : Int) =>
 some (x5,0))
def yX9 : PFn:={ args:=[(.int .i64)],res:=[(.int .i64),(.int .i64)],fn:=zYw }
def vJs : List LSpec×List Nat:=([],[5])
def vJt : List LSpec×List Nat:=([{ id:=2800,known:=true,toks:=[(9000000,(.int .u8)),(9000000,(.mix 900000001 (.int .u8))),(7005000,(.mix 900000001 (.mix 900000002 (.int .u8))))],items:=[.slot 18 (.val (.int .i64)), .cells 1000004 [.val (.mix 2005000 (.mix 12005000 (.mix 22005000 (.int .u8))))], .rows 2005000 (.mix 12005000 (.mix 22005000 (.int .u8))), .rows 22005000 (.int .u8), .rows 12005000 (.mix 22005000 (.int .u8))],junk:=[19,20,21,22,5,6,23,24,25,26,27,28,29,30,31,32,33,34,35],tails:=[] }],[4000000001])
def spt61 : Tab (List LSpec×List Nat):=(.node .leaf none (.node (.node .leaf none (.node (.node (.node (.node .leaf (some vJs) .leaf) none .leaf) none .leaf) none (.node .leaf (some vJt) .leaf))) none .leaf))
def spf61 (f : Nat) : List LSpec×List Nat:=(spt61.get f).getD ([],[])
theorem xWe : zW7 Try.prog cfg 61 yX9:=fnD spf61 (l:=[(71,yXe)]) zX2 zWa (.cons yK3 .nil) (fun d=>by kernel_rfl)
def zJ2 (d0 : (Int)×((Int)×((Int)×((Int)×((Int)×((Int)×((Int)×((Int)×((Int)×(Unit)))))))))) : Option ((List ((Int)×((Int)×(Unit))))×(Int)) :=
 Z.bind (zY2 (d0.1,(d0.2.1,(d0.2.2.1,(d0.2.2.2.1,(d0.2.2.2.2.1,(d0.2.2.2.2.2.1,(d0.2.2.2.2.2.2.1,(d0.2.2.2.2.2.2.2.1,(d0.2.2.2.2.2.2.2.2.1,())))))))))) fun (x1 : (List ((Int)×((Int)×((Int)×((Int)×(Unit))))))×(Int)) =>
 (bif (Z.ine x1.2 0) then some (([] : List ((Int)×((Int)×(Unit)))),x1.2)
 else if (Z.MkOk (Z.ofN (Z.len x1.1)) (Z.ofN (Z.len x1.1)) 16) then Z.loop (fun (s4 : (Int)×(List ((Int)×((Int)×(Unit))))) k5 =>
 (bif (Z.ilt s4.1 (Z.ofN (Z.len x1.1))) then if (Z.Ix s4.1 (Z.len x1.1)) then Z.bnd (Z.get x1.1 (Z.toN s4.1) (0,(0,(0,(0,()))))) fun (x8 : (Int)×((Int)×((Int)×((Int)×(Unit))))) =>
 Z.bind (zYw x8.2.2.1) fun (x9 : (Int)×(Int)) =>
 (bif (Z.ine x9.2 0) then some (([] : List ((Int)×((Int)×(Unit)))),x9.2)
 else Z.bnd (Z.wrap .i64 (Z.add 8 x8.2.2.2.1)) fun (x10 : Int) =>
 if (Z.In s4.1 (Z.toN (Z.ofN (Z.len x1.1)))) then if (Z.Lt (Z.addN 0 (Z.toN s4.1)) (Z.len s4.2)) then Z.bnd (Z.set s4.2 (Z.addN 0 (Z.toN s4.1)) (x9.1,(x10,()))) fun (x15 : List ((Int)×((Int)×(Unit)))) =>
 Z.bnd (Z.wrap .i64 (Z.add s4.1 1)) fun (x16 : Int) =>
 k5 (x16,x15)
 else none
 else none)
 else none
 else if (Z.Le (Z.addN 0 (Z.toN (Z.ofN (Z.len x1.1)))) (Z.len s4.2)) then some ((Z.seg s4.2 0 (Z.toN (Z.ofN (Z.len x1.1)))),0)
 else none)) (0,(Z.rep (α:=(Int)×((Int)×(Unit))) (Z.toN (Z.ofN (Z.len x1.1))) (0,(0,()))))
 else none)
def yQl : PFn:={ args:=[(.pair (.int .i64) (.pair (.int .i64) (.pair (.int .i64) (.pair (.int .i64) (.pair (.int .i64) (.pair (.int .i64) (.pair (.int .i64) (.pair (.int .i64) (.pair (.int .i64) .unit)))))))))],res:=[(.list (.pair (.int .i64) (.pair (.int .i64) .unit))),(.int .i64)],fn:=zJ2 }
def vYc : List LSpec×List Nat:=([{ id:=3500,known:=true,toks:=[],items:=[.slot 24 (.val (.int .i64)), .vec 1000006 (.pair (.int .i64) (.pair (.int .i64) .unit))],junk:=[25,26,27,28,8,7,30,31,32,29,33,34,9,10,35,36,37,2,3,38,39,40,41,42,43,44,45,46],tails:=[] }],[])
def vYb : List LSpec×List Nat:=([],[5])
def vYd : List LSpec×List Nat:=([{ id:=2800,known:=true,toks:=[(9000000,(.int .u8)),(9000000,(.mix 900000001 (.int .u8))),(7005000,(.mix 900000001 (.mix 900000002 (.int .u8))))],items:=[.slot 18 (.val (.int .i64)), .cells 1000004 [.val (.mix 2005000 (.mix 12005000 (.mix 22005000 (.int .u8))))], .rows 2005000 (.mix 12005000 (.mix 22005000 (.int .u8))), .rows 22005000 (.int .u8), .rows 12005000 (.mix 22005000 (.int .u8))],junk:=[19,20,21,22,5,6,23,24,25,26,27,28,29,30,31,32,33,34,35],tails:=[] }],[4000000001])
def spt35 : Tab (List LSpec×List Nat):=(.node (.node (.node .leaf none (.node (.node (.node .leaf (some vYc) .leaf) none .leaf) none .leaf)) none .leaf) none (.node (.node .leaf none (.node (.node (.node (.node .leaf (some vYb) .leaf) none .leaf) none .leaf) none (.node .leaf (some vYd) .leaf))) none .leaf))
def spf35 (f : Nat) : List LSpec×List Nat:=(spt35.get f).getD ([],[])
theorem yX3 : zW7 Try.prog cfg 35 yQl:=fnD spf35 (l:=[(60,yZb),(61,yX9)]) zX2 zWa (.cons xWg (.cons xWe .nil)) (fun d=>by kernel_rfl)
def yQs (d0 : (Int)×(Int)) : Option ((Int)×(Int)) :=
 Z.bnd (Z.band .u64 d0.1 4294967295) fun (x1 : Int) =>
 if (Z.Neg 32) then none
 else Z.bnd (Z.shr .u64 d0.1 32) fun (x4 : Int) =>
 Z.bnd (Z.band .u64 d0.2 4294967295) fun (x5 : Int) =>
 if (Z.Neg 32) then none
 else Z.bnd (Z.shr .u64 d0.2 32) fun (x8 : Int) =>
 Z.bnd (Z.wrap .u64 (Z.mul x1 x5)) fun (x9 : Int) =>
 Z.bnd (Z.wrap .u64 (Z.mul x4 x5)) fun (x10 : Int) =>
 if (Z.Neg 32) then none
 else Z.bnd (Z.shr .u64 x9 32) fun (x13 : Int) =>
 Z.bnd (Z.wrap .u64 (Z.add x10 x13)) fun (x14 : Int) =>
 Z.bnd (Z.band .u64 x14 4294967295) fun (x15 : Int) =>
 if (Z.Neg 32) then none
 else Z.bnd (Z.shr .u64 x14 32) fun (x18 : Int) =>
 Z.bnd (Z.wrap .u64 (Z.mul x1 x8)) fun (x19 : Int) =>
 Z.bnd (Z.wrap .u64 (Z.add x15 x19)) fun (x20 : Int) =>
 Z.bnd (Z.wrap .u64 (Z.mul x4 x8)) fun (x21 : Int) =>
 Z.bnd (Z.wrap .u64 (Z.add x21 x18)) fun (x22 : Int) =>
 if (Z.Neg 32) then none
 else Z.bnd (Z.shr .u64 x20 32) fun (x25 : Int) =>
 Z.bnd (Z.wrap .u64 (Z.add x22 x25)) fun (x26 : Int) =>
 Z.bnd (Z.wrap .u64 (Z.mul d0.1 d0.2)) fun (x27 : Int) =>
 some (x26,x27)
def zJy : PFn:={ args:=[(.int .u64),(.int .u64)],res:=[(.int .u64),(.int .u64)],fn:=yQs }
def vJi : List LSpec×List Nat:=([],[5])
def vJj : List LSpec×List Nat:=([{ id:=2800,known:=true,toks:=[(9000000,(.int .u8)),(9000000,(.mix 900000001 (.int .u8))),(7005000,(.mix 900000001 (.mix 900000002 (.int .u8))))],items:=[.slot 18 (.val (.int .i64)), .cells 1000004 [.val (.mix 2005000 (.mix 12005000 (.mix 22005000 (.int .u8))))], .rows 2005000 (.mix 12005000 (.mix 22005000 (.int .u8))), .rows 22005000 (.int .u8), .rows 12005000 (.mix 22005000 (.int .u8))],junk:=[19,20,21,22,5,6,23,24,25,26,27,28,29,30,31,32,33,34,35],tails:=[] }],[4000000001])
def spt73 : Tab (List LSpec×List Nat):=(.node .leaf none (.node (.node .leaf none (.node (.node (.node (.node .leaf (some vJi) .leaf) none .leaf) none .leaf) none (.node .leaf (some vJj) .leaf))) none .leaf))
def spf73 (f : Nat) : List LSpec×List Nat:=(spt73.get f).getD ([],[])
theorem yX2 : zW7 Try.prog cfg 73 zJy:=fnD spf73 (l:=[]) zX2 zWa .nil (fun d=>by kernel_rfl)
def zYn (d0 : (Int)×(Int)) : Option ((Int)×(Int)) :=
 Z.bind (yQs (d0.1,d0.2)) fun (x1 : (Int)×(Int)) =>
 some (x1.1,x1.2)
def yQk : PFn:={ args:=[(.int .u64),(.int .u64)],res:=[(.int .u64),(.int .u64)],fn:=zYn }
def vJq : List LSpec×List Nat:=([],[5])
def vJr : List LSpec×List Nat:=([{ id:=2800,known:=true,toks:=[(9000000,(.int .u8)),(9000000,(.mix 900000001 (.int .u8))),(7005000,(.mix 900000001 (.mix 900000002 (.int .u8))))],items:=[.slot 18 (.val (.int .i64)), .cells 1000004 [.val (.mix 2005000 (.mix 12005000 (.mix 22005000 (.int .u8))))], .rows 2005000 (.mix 12005000 (.mix 22005000 (.int .u8))), .rows 22005000 (.int .u8), .rows 12005000 (.mix 22005000 (.int .u8))],junk:=[19,20,21,22,5,6,23,24,25,26,27,28,29,30,31,32,33,34,35],tails:=[] }],[4000000001])
def spt62 : Tab (List LSpec×List Nat):=(.node .leaf none (.node (.node .leaf none (.node (.node (.node (.node .leaf (some vJq) .leaf) none .leaf) none .leaf) none (.node .leaf (some vJr) .leaf))) none .leaf))
def spf62 (f : Nat) : List LSpec×List Nat:=(spt62.get f).getD ([],[])
theorem yJn : zW7 Try.prog cfg 62 yQk:=fnD spf62 (l:=[(73,zJy)]) zX2 zWa (.cons yX2 .nil) (fun d=>by kernel_rfl)
def zW9 (d0 : (List (Int))×(Int)) : Option (List (Int)) :=
 (bif (Z.ilt d0.2 0) then none
 else Z.bnd (Z.wrap .u64 (Z.ofN (Z.len d0.1))) fun (x1 : Int) =>
 Z.bnd (Z.wrap .u64 d0.2) fun (x2 : Int) =>
 Z.bind (zYn (x1,x2)) fun (x3 : (Int)×(Int)) =>
 (bif (Z.igt x3.1 0) then none
 else (bif (Z.zQz false true (Z.igt x3.2 9223372036854775807)) then none
 else Z.bnd (Z.wrap .i64 x3.2) fun (x4 : Int) =>
 if (Z.MkOk x4 x4 8) then if (Z.Le (Z.addN 0 (Z.toN x4)) (Z.len (Z.rep (α:=Int) (Z.toN x4) 0))) then Z.loop (fun (s9 : (Int)×(List (Int))) k10 =>
 (bif (Z.ilt s9.1 (Z.ofN (Z.toN x4))) then if (Z.Bd s9.1 (Z.toN x4)) then if (Z.Lt (Z.toN s9.1) (Z.toN x4)) then if (Z.Bd s9.1 (Z.toN x4)) then if (Z.Lt 0 (Z.toN x4)) then if (Z.Le (Z.addN (Z.addN 0 0) (Z.subN (Z.toN s9.1) 0)) (Z.len s9.2)) then if (Z.Le (Z.addN (Z.addN 0 (Z.toN s9.1)) (Z.subN (Z.toN x4) (Z.toN s9.1))) (Z.len s9.2)) then Z.bnd (Z.wrap .i64 (Z.add s9.1 (Z.ofN (Z.minN (Z.len (Z.seg s9.2 (Z.addN 0 0) (Z.subN (Z.toN s9.1) 0))) (Z.subN (Z.toN x4) (Z.toN s9.1)))))) fun (x23 : Int) =>
 k10 (x23,(Z.put s9.2 (Z.addN 0 (Z.toN s9.1)) (Z.take (Z.minN (Z.len (Z.seg s9.2 (Z.addN 0 0) (Z.subN (Z.toN s9.1) 0))) (Z.subN (Z.toN x4) (Z.toN s9.1))) (Z.seg s9.2 (Z.addN 0 0) (Z.subN (Z.toN s9.1) 0)))))
 else none
 else none
 else if (Z.Le (Z.addN (Z.addN 0 (Z.toN s9.1)) (Z.subN (Z.toN x4) (Z.toN s9.1))) (Z.len s9.2)) then Z.bnd (Z.wrap .i64 (Z.add s9.1 (Z.ofN (Z.minN (Z.len ([] : List (Int))) (Z.subN (Z.toN x4) (Z.toN s9.1)))))) fun (x26 : Int) =>
 k10 (x26,(Z.put s9.2 (Z.addN 0 (Z.toN s9.1)) (Z.take (Z.minN (Z.len ([] : List (Int))) (Z.subN (Z.toN x4) (Z.toN s9.1))) ([] : List (Int)))))
 else none
 else none
 else if (Z.Bd s9.1 (Z.toN x4)) then if (Z.Lt 0 (Z.toN x4)) then if (Z.Le (Z.addN (Z.addN 0 0) (Z.subN (Z.toN s9.1) 0)) (Z.len s9.2)) then none
 else none
 else none
 else none
 else none
 else if (Z.Le (Z.addN 0 (Z.toN x4)) (Z.len s9.2)) then some (Z.seg s9.2 0 (Z.toN x4))
 else none)) ((Z.ofN (Z.minN (Z.len d0.1) (Z.toN x4))),(Z.put (Z.rep (α:=Int) (Z.toN x4) 0) 0 (Z.take (Z.minN (Z.len d0.1) (Z.toN x4)) d0.1)))
 else none
 else none)))
def zZv : PFn:={ args:=[(.list (.int .i64)),(.int .i64)],res:=[(.list (.int .i64))],fn:=zW9 }
def vJ9 : List LSpec×List Nat:=([{ id:=3600,known:=true,toks:=[],items:=[.slot 8 (.val (.int .i64)), .vec 1000007 (.int .i64)],junk:=[34,35,36,37,38,39,40,41,42,43,44,45,46],tails:=[] }],[])
def vJ8 : List LSpec×List Nat:=([],[5])
def vYa : List LSpec×List Nat:=([{ id:=2800,known:=true,toks:=[(9000000,(.int .u8)),(9000000,(.mix 900000001 (.int .u8))),(7005000,(.mix 900000001 (.mix 900000002 (.int .u8))))],items:=[.slot 18 (.val (.int .i64)), .cells 1000004 [.val (.mix 2005000 (.mix 12005000 (.mix 22005000 (.int .u8))))], .rows 2005000 (.mix 12005000 (.mix 22005000 (.int .u8))), .rows 22005000 (.int .u8), .rows 12005000 (.mix 22005000 (.int .u8))],junk:=[19,20,21,22,5,6,23,24,25,26,27,28,29,30,31,32,33,34,35],tails:=[] }],[4000000001])
def spt36 : Tab (List LSpec×List Nat):=(.node .leaf none (.node (.node .leaf none (.node (.node (.node (.node .leaf (some vJ8) .leaf) (some vJ9) .leaf) none .leaf) none (.node .leaf (some vYa) .leaf))) none .leaf))
def spf36 (f : Nat) : List LSpec×List Nat:=(spt36.get f).getD ([],[])
theorem zJw : zW7 Try.prog cfg 36 zZv:=fnD spf36 (l:=[(62,yQk)]) zX2 zWa (.cons yJn .nil) (fun d=>by kernel_rfl)
def yZr (d0 : (List (Int))×(List (Int))) : Option (List (List (Int))) :=
 if (Z.MkOk (Z.ofN (Z.len d0.2)) (Z.ofN (Z.len d0.2)) 24) then Z.loop (fun (s3 : (Int)×((Int)×(List (List (Int))))) k4 =>
 (bif (Z.ilt s3.2.1 (Z.ofN (Z.len d0.2))) then if (Z.Ix s3.2.1 (Z.len d0.2)) then Z.bnd (Z.get d0.2 (Z.toN s3.2.1) 0) fun (x7 : Int) =>
 Z.bnd (Z.wrap .i64 (Z.add s3.1 x7)) fun (x8 : Int) =>
 Z.bnd (Z.wrap .i64 (Z.add s3.1 x7)) fun (x9 : Int) =>
 if (Z.Bd x9 (Z.len d0.1)) then if (Z.Bd x8 (Z.toN x9)) then if (Z.Bd s3.1 (Z.toN x8)) then Z.bnd (Z.slice d0.1 (Z.toN s3.1) (Z.toN x8)) fun (x16 : List (Int)) =>
 if (Z.In s3.2.1 (Z.toN (Z.ofN (Z.len d0.2)))) then if (Z.Lt (Z.addN 0 (Z.toN s3.2.1)) (Z.len s3.2.2)) then Z.bnd (Z.set s3.2.2 (Z.addN 0 (Z.toN s3.2.1)) x16) fun (x21 : List (List (Int))) =>
 Z.bnd (Z.wrap .i64 (Z.add s3.1 x7)) fun (x22 : Int) =>
 Z.bnd (Z.wrap .i64 (Z.add s3.2.1 1)) fun (x23 : Int) =>
 k4 (x22,(x23,x21))
 else none
 else none
 else none
 else none
 else none
 else none
 else if (Z.Le (Z.addN 0 (Z.toN (Z.ofN (Z.len d0.2)))) (Z.len s3.2.2)) then some (Z.seg s3.2.2 0 (Z.toN (Z.ofN (Z.len d0.2))))
 else none)) (0,(0,(Z.rep (α:=List (Int)) (Z.toN (Z.ofN (Z.len d0.2))) ([] : List (Int)))))
 else none
def yYt : PFn:={ args:=[(.list (.int .u8)),(.list (.int .i64))],res:=[(.list (.list (.int .u8)))],fn:=yZr }
def vJ6 : List LSpec×List Nat:=([{ id:=3700,known:=true,toks:=[],items:=[.slot 6 (.val (.int .i64)), .slot 14 (.val (.int .i64)), .vec 1000005 (.list (.int .u8))],junk:=[15,16,17,18,7,8,19,20,21,22,23,24,25,26,27,28,29,30,31,32,33,34],tails:=[] }],[])
def vJ5 : List LSpec×List Nat:=([],[5])
def vJ7 : List LSpec×List Nat:=([{ id:=2800,known:=true,toks:=[(9000000,(.int .u8)),(9000000,(.mix 900000001 (.int .u8))),(7005000,(.mix 900000001 (.mix 900000002 (.int .u8))))],items:=[.slot 18 (.val (.int .i64)), .cells 1000004 [.val (.mix 2005000 (.mix 12005000 (.mix 22005000 (.int .u8))))], .rows 2005000 (.mix 12005000 (.mix 22005000 (.int .u8))), .rows 22005000 (.int .u8), .rows 12005000 (.mix 22005000 (.int .u8))],junk:=[19,20,21,22,5,6,23,24,25,26,27,28,29,30,31,32,33,34,35],tails:=[] }],[4000000001])
def spt37 : Tab (List LSpec×List Nat):=(.node (.node .leaf none (.node .leaf none (.node (.node (.node .leaf (some vJ6) .leaf) none .leaf) none .leaf))) none (.node (.node .leaf none (.node (.node (.node (.node .leaf (some vJ5) .leaf) none .leaf) none .leaf) none (.node .leaf (some vJ7) .leaf))) none .leaf))
def spf37 (f : Nat) : List LSpec×List Nat:=(spt37.get f).getD ([],[])
theorem xJk : zW7 Try.prog cfg 37 yYt:=fnD spf37 (l:=[]) zX2 zWa .nil (fun d=>by kernel_rfl)
def xKp (d0 : (Int)×((Int)×((Int)×((Int)×((Int)×((Int)×((Int)×((Int)×((Int)×(Unit)))))))))) : Option (((List (List (List (Int))))×(Unit))×(Int)) :=
 Z.bind (zJ2 (d0.1,(d0.2.1,(d0.2.2.1,(d0.2.2.2.1,(d0.2.2.2.2.1,(d0.2.2.2.2.2.1,(d0.2.2.2.2.2.2.1,(d0.2.2.2.2.2.2.2.1,(d0.2.2.2.2.2.2.2.2.1,())))))))))) fun (x1 : (List ((Int)×((Int)×(Unit))))×(Int)) =>
 (bif (Z.ine x1.2 0) then some ((([] : List (List (List (Int)))),()),x1.2)
 else if (Z.EqN 0 (Z.len ([] : List (List (List (Int)))))) then Z.loop (fun (s4 : (Int)×(List (List (List (Int))))) k5 =>
 (bif (Z.ilt s4.1 (Z.ofN (Z.len x1.1))) then if (Z.Ix s4.1 (Z.len x1.1)) then Z.bnd (Z.get x1.1 (Z.toN s4.1) (0,(0,()))) fun (x8 : (Int)×((Int)×(Unit))) =>
 if (Z.Le (Z.addN 0 1) (Z.len (x8.2.1::([] : List (Int))))) then Z.bind (zW9 ((Z.seg (x8.2.1::([] : List (Int))) 0 1),x8.1)) fun (x11 : List (Int)) =>
 Z.bnd (Z.wrap .i64 (Z.mul x8.1 x8.2.1)) fun (x12 : Int) =>
 if (Z.MkOk x12 x12 1) then if (Z.Le (Z.addN 0 (Z.toN x12)) (Z.len (Z.rep (α:=Int) (Z.toN x12) 0))) then Z.bind (yZr ((Z.seg (Z.rep (α:=Int) (Z.toN x12) 0) 0 (Z.toN x12)),x11)) fun (x17 : List (List (Int))) =>
 if (Z.Le (Z.addN 0 1) (Z.len (x17::([] : List (List (List (Int))))))) then if (Z.Big (Z.len s4.2) (Z.len (Z.seg (x17::([] : List (List (List (Int))))) 0 1)) 24) then none
 else if (Z.EqN (Z.len s4.2) (Z.len s4.2)) then Z.bnd (Z.app s4.2 (Z.seg (x17::([] : List (List (List (Int))))) 0 1)) fun (x24 : List (List (List (Int)))) =>
 Z.bnd (Z.wrap .i64 (Z.add s4.1 1)) fun (x25 : Int) =>
 if (Z.EqN (Z.len x24) (Z.len x24)) then k5 (x25,x24)
 else none
 else none
 else none
 else none
 else none
 else none
 else none
 else some ((s4.2,()),0))) (0,([] : List (List (List (Int)))))
 else none)
def xJn : PFn:={ args:=[(.pair (.int .i64) (.pair (.int .i64) (.pair (.int .i64) (.pair (.int .i64) (.pair (.int .i64) (.pair (.int .i64) (.pair (.int .i64) (.pair (.int .i64) (.pair (.int .i64) .unit)))))))))],res:=[(.pair (.list (.list (.list (.int .u8)))) .unit),(.int .i64)],fn:=xKp }
def sp9_9 : List LSpec×List Nat:=([{ id:=900,known:=true,toks:=[(2002000,(.list (.list (.int .u8))))],items:=[.slot 21 (.val (.int .i64)), .cells 1000006 [.slt (.list (.list (.int .u8))) (some 2002000) false]],junk:=[22,23,24,8,25,26,27,28,29,30,9,31,32,33,34,35,36,37,38,39,40,41,42,43,44],tails:=[(2002000,2002000)] }],[])
def sp9_68 : List LSpec×List Nat:=([],[5])
def sp9_28 : List LSpec×List Nat:=([{ id:=2800,known:=true,toks:=[(9000000,(.int .u8)),(9000000,(.mix 900000001 (.int .u8))),(7005000,(.mix 900000001 (.mix 900000002 (.int .u8))))],items:=[.slot 18 (.val (.int .i64)), .cells 1000004 [.val (.mix 2005000 (.mix 12005000 (.mix 22005000 (.int .u8))))], .rows 2005000 (.mix 12005000 (.mix 22005000 (.int .u8))), .rows 22005000 (.int .u8), .rows 12005000 (.mix 22005000 (.int .u8))],junk:=[19,20,21,22,5,6,23,24,25,26,27,28,29,30,31,32,33,34,35],tails:=[] }],[4000000001])
def spt9 : Tab (List LSpec×List Nat):=(.node (.node .leaf none (.node (.node .leaf (some sp9_9) .leaf) none .leaf)) none (.node (.node .leaf none (.node (.node (.node (.node .leaf (some sp9_68) .leaf) none .leaf) none .leaf) none (.node .leaf (some sp9_28) .leaf))) none .leaf))
def spf9 (f : Nat) : List LSpec×List Nat:=(spt9.get f).getD ([],[])
theorem wZy : zW7 Try.prog cfg 9 xJn:=fnD spf9 (l:=[(35,yQl),(36,zZv),(37,yYt)]) zX2 zWa (.cons yX3 (.cons zJw (.cons xJk .nil))) (fun d=>by kernel_rfl)
def zK0 (d0 : Int) : Option (List (Int)) :=
 if (Z.MkOk 104 104 1) then Z.loop (fun (s3 : (Int)×(List (Int))) k4 =>
 (bif (Z.ilt s3.1 (Z.ofN (Z.toN 104))) then if (Z.In s3.1 (Z.toN 104)) then if (Z.Lt (Z.addN 0 (Z.toN s3.1)) (Z.len s3.2)) then Z.bnd (Z.set s3.2 (Z.addN 0 (Z.toN s3.1)) d0) fun (x9 : List (Int)) =>
 Z.bnd (Z.wrap .i64 (Z.add s3.1 1)) fun (x10 : Int) =>
 k4 (x10,x9)
 else none
 else none
 else if (Z.Le (Z.addN 0 (Z.toN 104)) (Z.len s3.2)) then some (Z.seg s3.2 0 (Z.toN 104))
 else none)) (0,(Z.rep (α:=Int) (Z.toN 104) 0))
 else none
def yK6 : PFn:={ args:=[(.int .u8)],res:=[(.list (.int .u8))],fn:=zK0 }
def vY3 : List LSpec×List Nat:=([{ id:=1300,known:=true,toks:=[],items:=[.slot 4 (.val (.int .i64)), .vec 1000003 (.int .u8)],junk:=[6,7,8,9,12,13,14,15,10,11],tails:=[] }],[])
def vY1 : List LSpec×List Nat:=([],[5])
def vY2 : List LSpec×List Nat:=([{ id:=2800,known:=true,toks:=[(9000000,(.int .u8)),(9000000,(.mix 900000001 (.int .u8))),(7005000,(.mix 900000001 (.mix 900000002 (.int .u8))))],items:=[.slot 18 (.val (.int .i64)), .cells 1000004 [.val (.mix 2005000 (.mix 12005000 (.mix 22005000 (.int .u8))))], .rows 2005000 (.mix 12005000 (.mix 22005000 (.int .u8))), .rows 22005000 (.int .u8), .rows 12005000 (.mix 22005000 (.int .u8))],junk:=[19,20,21,22,5,6,23,24,25,26,27,28,29,30,31,32,33,34,35],tails:=[] }],[4000000001])
def spt13 : Tab (List LSpec×List Nat):=(.node (.node .leaf none (.node .leaf none (.node .leaf (some vY3) .leaf))) none (.node (.node .leaf none (.node (.node (.node (.node .leaf (some vY1) .leaf) none .leaf) none .leaf) none (.node .leaf (some vY2) .leaf))) none .leaf))
def spf13 (f : Nat) : List LSpec×List Nat:=(spt13.get f).getD ([],[])
theorem xZl : zW7 Try.prog cfg 13 yK6:=fnD spf13 (l:=[]) zX2 zWa .nil (fun d=>by kernel_rfl)
def zJ4 (d0 : ((Int)×((Int)×((Int)×((Int)×((Int)×((Int)×((Int)×((Int)×((Int)×(Unit))))))))))×((List (List (List (Int))))×(Unit))) : Option (Int) :=
 Z.bind (zJ2 (d0.1.1,(d0.1.2.1,(d0.1.2.2.1,(d0.1.2.2.2.1,(d0.1.2.2.2.2.1,(d0.1.2.2.2.2.2.1,(d0.1.2.2.2.2.2.2.1,(d0.1.2.2.2.2.2.2.2.1,(d0.1.2.2.2.2.2.2.2.2.1,())))))))))) fun (x1 : (List ((Int)×((Int)×(Unit))))×(Int)) =>
 (bif (Z.ine x1.2 0) then some x1.2
 else (bif (Z.ine (Z.ofN (Z.len d0.2.1)) (Z.ofN (Z.len x1.1))) then some 8
 else Z.loop (fun (s2 : Int) k3 =>
 (bif (Z.ilt s2 (Z.ofN (Z.len x1.1))) then if (Z.Ix s2 (Z.len x1.1)) then Z.bnd (Z.get x1.1 (Z.toN s2) (0,(0,()))) fun (x6 : (Int)×((Int)×(Unit))) =>
 if (Z.Ix s2 (Z.len d0.2.1)) then Z.bnd (Z.get d0.2.1 (Z.toN s2) ([] : List (List (Int)))) fun (x9 : List (List (Int))) =>
 (bif (Z.ine (Z.ofN (Z.len x9)) x6.1) then some 8
 else Z.bnd (Z.wrap .i64 (Z.add s2 1)) fun (x10 : Int) =>
 k3 x10)
 else none
 else none
 else Z.loop (fun (s11 : Int) k12 =>
 (bif (Z.ilt s11 (Z.ofN (Z.len d0.2.1))) then if (Z.Ix s11 (Z.len d0.2.1)) then Z.bnd (Z.get d0.2.1 (Z.toN s11) ([] : List (List (Int)))) fun (x15 : List (List (Int))) =>
 Z.loop (fun (s16 : Int) k17 =>
 (bif (Z.ilt s16 (Z.ofN (Z.len x15))) then if (Z.Ix s16 (Z.len x15)) then Z.bnd (Z.get x15 (Z.toN s16) ([] : List (Int))) fun (x20 : List (Int)) =>
 if (Z.Ix s11 (Z.len x1.1)) then Z.bnd (Z.get x1.1 (Z.toN s11) (0,(0,()))) fun (x23 : (Int)×((Int)×(Unit))) =>
 (bif (Z.bnot (Z.ieq (Z.ofN (Z.len x20)) x23.2.1)) then some 8
 else Z.bnd (Z.wrap .i64 (Z.add s16 1)) fun (x24 : Int) =>
 k17 x24)
 else none
 else none
 else Z.bnd (Z.wrap .i64 (Z.add s11 1)) fun (x25 : Int) =>
 k12 x25)) 0
 else none
 else some 0)) 0)) 0))
def zYk : PFn:={ args:=[(.pair (.int .i64) (.pair (.int .i64) (.pair (.int .i64) (.pair (.int .i64) (.pair (.int .i64) (.pair (.int .i64) (.pair (.int .i64) (.pair (.int .i64) (.pair (.int .i64) .unit))))))))),(.pair (.list (.list (.list (.int .u8)))) .unit)],res:=[(.int .i64)],fn:=zJ4 }
def vYt : List LSpec×List Nat:=([{ id:=4400,known:=true,toks:=[],items:=[.slot 11 (.val (.int .i64))],junk:=[12,13,14,15,5,6,16,17,18,19,20,21,8,22,23,24,25,26,4,27,28],tails:=[] },{ id:=4401,known:=true,toks:=[],items:=[.slot 18 (.val (.int .i64))],junk:=[19,20,21,8,22,23,24,25,26,4,27],tails:=[] }],[])
def vYv : List LSpec×List Nat:=([{ id:=1600,known:=true,toks:=[],items:=[.slot 25 (.val (.int .i64))],junk:=[26,27,28,29,8,7,30,31,32,33,34,35,36,37,38,4,39],tails:=[] }],[])
def vYs : List LSpec×List Nat:=([],[5])
def vYu : List LSpec×List Nat:=([{ id:=2800,known:=true,toks:=[(9000000,(.int .u8)),(9000000,(.mix 900000001 (.int .u8))),(7005000,(.mix 900000001 (.mix 900000002 (.int .u8))))],items:=[.slot 18 (.val (.int .i64)), .cells 1000004 [.val (.mix 2005000 (.mix 12005000 (.mix 22005000 (.int .u8))))], .rows 2005000 (.mix 12005000 (.mix 22005000 (.int .u8))), .rows 22005000 (.int .u8), .rows 12005000 (.mix 22005000 (.int .u8))],junk:=[19,20,21,22,5,6,23,24,25,26,27,28,29,30,31,32,33,34,35],tails:=[] }],[4000000001])
def spt16 : Tab (List LSpec×List Nat):=(.node .leaf none (.node (.node (.node (.node .leaf (some vYv) .leaf) none .leaf) none (.node (.node (.node (.node .leaf (some vYs) .leaf) none .leaf) none .leaf) none (.node (.node .leaf (some vYt) .leaf) (some vYu) .leaf))) none .leaf))
def spf16 (f : Nat) : List LSpec×List Nat:=(spt16.get f).getD ([],[])
theorem yQi : zW7 Try.prog cfg 16 zYk:=fnD spf16 (l:=[(35,yQl)]) zX2 zWa (.cons yX3 .nil) (fun d=>by kernel_rfl)
def zZq (d0 : ((List (List (List (Int))))×(Unit))×((Int)×(List (Int)))) : Option (Bool) :=
 (bif (Z.ilt d0.2.1 0) then some false
 else (bif (Z.zQz false true (Z.ige d0.2.1 (Z.ofN (Z.len d0.1.1)))) then some false
 else Z.loop (fun (s1 : Int) k2 =>
 (bif (Z.ilt s1 (Z.ofN 1)) then if (Z.In s1 1) then if (Z.Lt (Z.addN 0 (Z.toN s1)) (Z.len (d0.2.2::([] : List (List (Int)))))) then Z.bnd (Z.get (d0.2.2::([] : List (List (Int)))) (Z.addN 0 (Z.toN s1)) ([] : List (Int))) fun (x7 : List (Int)) =>
 Z.loop (fun (s8 : Int) k9 =>
 (bif (Z.ilt s8 (Z.ofN (Z.len x7))) then if (Z.Ix s8 (Z.len x7)) then Z.bnd (Z.get x7 (Z.toN s8) 0) fun (x12 : Int) =>
 (bif (Z.ige x12 1) then if (Z.Ix d0.2.1 (Z.len d0.1.1)) then Z.bnd (Z.get d0.1.1 (Z.toN d0.2.1) ([] : List (List (Int)))) fun (x15 : List (List (Int))) =>
 (bif (Z.bnot (Z.zQz true (Z.ile x12 (Z.ofN (Z.len x15))) false)) then some false
 else Z.bnd (Z.wrap .i64 (Z.add s8 1)) fun (x16 : Int) =>
 k9 x16)
 else none
 else some false)
 else none
 else Z.bnd (Z.wrap .i64 (Z.add s1 1)) fun (x17 : Int) =>
 k2 x17)) 0
 else none
 else none
 else some true)) 0))
def zJi : PFn:={ args:=[(.pair (.list (.list (.list (.int .u8)))) .unit),(.int .i64),(.list (.int .i64))],res:=[.bool],fn:=zZq }
def vJ3 : List LSpec×List Nat:=([{ id:=6300,known:=true,toks:=[],items:=[.slot 11 (.val (.int .i64))],junk:=[12,13,14,15,5,6,16,17,18,19,20,21,8,22,23,24,25,26,4,27,28],tails:=[] },{ id:=6301,known:=true,toks:=[],items:=[.slot 18 (.val (.int .i64))],junk:=[19,20,21,8,22,23,24,25,26,4,27],tails:=[] }],[])
def vJ2 : List LSpec×List Nat:=([],[5])
def vJ4 : List LSpec×List Nat:=([{ id:=2800,known:=true,toks:=[(9000000,(.int .u8)),(9000000,(.mix 900000001 (.int .u8))),(7005000,(.mix 900000001 (.mix 900000002 (.int .u8))))],items:=[.slot 18 (.val (.int .i64)), .cells 1000004 [.val (.mix 2005000 (.mix 12005000 (.mix 22005000 (.int .u8))))], .rows 2005000 (.mix 12005000 (.mix 22005000 (.int .u8))), .rows 22005000 (.int .u8), .rows 12005000 (.mix 22005000 (.int .u8))],junk:=[19,20,21,22,5,6,23,24,25,26,27,28,29,30,31,32,33,34,35],tails:=[] }],[4000000001])
def spt38 : Tab (List LSpec×List Nat):=(.node (.node (.node (.node (.node (.node (.node .leaf (some vJ3) .leaf) none .leaf) none .leaf) none .leaf) none .leaf) none .leaf) none (.node (.node .leaf none (.node (.node (.node (.node .leaf (some vJ2) .leaf) none .leaf) none .leaf) none (.node .leaf (some vJ4) .leaf))) none .leaf))
def spf38 (f : Nat) : List LSpec×List Nat:=(spt38.get f).getD ([],[])
theorem zYi : zW7 Try.prog cfg 38 zJi:=fnD spf38 (l:=[]) zX2 zWa .nil (fun d=>by kernel_rfl)
def zWj (d0 : List (List (Int))) : Option (List (Int)) :=
 Z.loop (fun (s1 : (Int)×(Int)) k2 =>
 (bif (Z.ilt s1.2 (Z.ofN (Z.len d0))) then if (Z.Ix s1.2 (Z.len d0)) then Z.bnd (Z.get d0 (Z.toN s1.2) ([] : List (Int))) fun (x5 : List (Int)) =>
 Z.bnd (Z.wrap .i64 (Z.add s1.1 (Z.ofN (Z.len x5)))) fun (x6 : Int) =>
 (bif (Z.ilt x6 0) then none
 else Z.bnd (Z.wrap .i64 (Z.add s1.2 1)) fun (x7 : Int) =>
 k2 (x6,x7))
 else none
 else (bif (Z.ilt s1.1 0) then none
 else Z.bnd (Z.wrap .i64 (Z.sub 0 0)) fun (x8 : Int) =>
 Z.bnd (Z.wrap .i64 (Z.sub s1.1 x8)) fun (x9 : Int) =>
 (bif (Z.igt x9 0) then if (Z.Bd 0 0) then if (Z.ZOk x9 1) then Z.bnd (Z.rep (α:=Int) (Z.toN x9) 0) fun (x14 : List (Int)) =>
 if (Z.EqN (Z.len x14) 0) then none
 else if (Z.Big (Z.len ([] : List (Int))) (Z.len x14) 1) then none
 else Z.bnd (Z.app ([] : List (Int)) x14) fun (x19 : List (Int)) =>
 if (Z.Bd 0 (Z.len x19)) then if (Z.Lt 0 (Z.len x19)) then if (Z.EqN (Z.subN (Z.toN 0) 0) 0) then if (Z.EqN 0 (Z.len ([] : List (Int)))) then Z.loop (fun (s28 : (List (Int))×(Int)) k29 =>
 (bif (Z.ilt s28.2 (Z.ofN (Z.len d0))) then if (Z.Ix s28.2 (Z.len d0)) then Z.bnd (Z.get d0 (Z.toN s28.2) ([] : List (Int))) fun (x32 : List (Int)) =>
 if (Z.Big (Z.len s28.1) (Z.len x32) 1) then none
 else if (Z.EqN (Z.len s28.1) (Z.len s28.1)) then Z.bnd (Z.app s28.1 x32) fun (x37 : List (Int)) =>
 Z.bnd (Z.wrap .i64 (Z.add s28.2 1)) fun (x38 : Int) =>
 if (Z.EqN (Z.len x37) (Z.len x37)) then k29 (x37,x38)
 else none
 else none
 else none
 else if (Z.EqN (Z.len s28.1) (Z.len s28.1)) then some s28.1
 else none)) (([] : List (Int)),0)
 else none
 else none
 else none
 else none
 else none
 else none
 else if (Z.EqN 0 (Z.len ([] : List (Int)))) then Z.loop (fun (s45 : (List (Int))×(Int)) k46 =>
 (bif (Z.ilt s45.2 (Z.ofN (Z.len d0))) then if (Z.Ix s45.2 (Z.len d0)) then Z.bnd (Z.get d0 (Z.toN s45.2) ([] : List (Int))) fun (x49 : List (Int)) =>
 if (Z.Big (Z.len s45.1) (Z.len x49) 1) then none
 else if (Z.EqN (Z.len s45.1) (Z.len s45.1)) then Z.bnd (Z.app s45.1 x49) fun (x54 : List (Int)) =>
 Z.bnd (Z.wrap .i64 (Z.add s45.2 1)) fun (x55 : Int) =>
 if (Z.EqN (Z.len x54) (Z.len x54)) then k46 (x54,x55)
 else none
 else none
 else none
 else if (Z.EqN (Z.len s45.1) (Z.len s45.1)) then some s45.1
 else none)) (([] : List (Int)),0)
 else none)))) (0,0)
def zZd : PFn:={ args:=[(.list (.list (.int .u8)))],res:=[(.list (.int .u8))],fn:=zWj }
def vJx : List LSpec×List Nat:=([],[5])
def vJy : List LSpec×List Nat:=([{ id:=5300,known:=true,toks:=[],items:=[.slot 3 (.val (.int .i64)), .slot 11 (.val (.int .i64))],junk:=[12,13,14,5,15,16,17,18,19,20,21,22],tails:=[] },{ id:=5301,known:=true,toks:=[(6,(.int .u8))],items:=[.slot 6 (.slt (.int .u8) (some 1000006) false), .slot 27 (.val (.int .i64))],junk:=[28,29,30,8,31,32,33,34],tails:=[(1000006,6)] }],[])
def vJz : List LSpec×List Nat:=([{ id:=2800,known:=true,toks:=[(9000000,(.int .u8)),(9000000,(.mix 900000001 (.int .u8))),(7005000,(.mix 900000001 (.mix 900000002 (.int .u8))))],items:=[.slot 18 (.val (.int .i64)), .cells 1000004 [.val (.mix 2005000 (.mix 12005000 (.mix 22005000 (.int .u8))))], .rows 2005000 (.mix 12005000 (.mix 22005000 (.int .u8))), .rows 22005000 (.int .u8), .rows 12005000 (.mix 22005000 (.int .u8))],junk:=[19,20,21,22,5,6,23,24,25,26,27,28,29,30,31,32,33,34,35],tails:=[] }],[4000000001])
def spt53 : Tab (List LSpec×List Nat):=(.node (.node .leaf none (.node .leaf none (.node (.node .leaf none (.node .leaf (some vJy) .leaf)) none .leaf))) none (.node (.node .leaf none (.node (.node (.node (.node .leaf (some vJx) .leaf) none .leaf) none .leaf) none (.node .leaf (some vJz) .leaf))) none .leaf))
def spf53 (f : Nat) : List LSpec×List Nat:=(spt53.get f).getD ([],[])
def zXc : OFn:={ args:=[(.list (.list (.int .u8)))],ores:=[(.own (.int .u8))],fn:=zWj }
theorem zZc : OwnD Try.prog cfg 53 zXc∧zW7 Try.prog cfg 53 zXc.pfn:=fnO spf53 [] (l:=[]) (lo:=[]) zX2 zWa .nil .nil (fun d=>by kernel_rfl)
theorem zJf : zW7 Try.prog cfg 53 zZd:=zZc.2
def zJ3 (d0 : (List (List (List (Int))))×(Unit)) : Option (((List (List (Int)))×((List (List (MixE (Int))))×(List (List (MixE (MixE (Int)))))))×((MixE (MixE (MixE (Int))))×(Unit))) :=
 if (Z.MkOk (Z.ofN (Z.len d0.1)) (Z.ofN (Z.len d0.1)) 24) then Z.loop (fun (s3 : (Int)×((List (MixE (Int)))×(List (List (Int))))) k4 =>
 (bif (Z.ilt s3.1 (Z.ofN (Z.len d0.1))) then if (Z.Ix s3.1 (Z.len d0.1)) then Z.bnd (Z.get d0.1 (Z.toN s3.1) ([] : List (List (Int)))) fun (x7 : List (List (Int))) =>
 Z.loop (fun (s8 : (Int)×((List (MixE (Int)))×(List (List (Int))))) k9 =>
 (bif (Z.ilt s8.1 (Z.ofN (Z.len x7))) then if (Z.Ix s8.1 (Z.len x7)) then Z.bnd (Z.get x7 (Z.toN s8.1) ([] : List (Int))) fun (x12 : List (Int)) =>
 if (Z.In s3.1 (Z.toN (Z.ofN (Z.len d0.1)))) then if (Z.Lt (Z.addN 0 (Z.toN s3.1)) (Z.len s8.2.1)) then Z.bnd (Z.get s8.2.1 (Z.addN 0 (Z.toN s3.1)) (MixE.nil : MixE (Int))) fun (x17 : MixE (Int)) =>
 if (Z.Le (Z.addN 0 1) (Z.len ((Z.ofN (Z.len x12))::([] : List (Int))))) then if (Z.XGr s8.2.2 x17) then if (Z.EqN (Z.len (Z.seg ((Z.ofN (Z.len x12))::([] : List (Int))) 0 1)) 0) then if (Z.In s3.1 (Z.toN (Z.ofN (Z.len d0.1)))) then if (Z.Lt (Z.addN 0 (Z.toN s3.1)) (Z.len s8.2.1)) then Z.bnd (Z.set s8.2.1 (Z.addN 0 (Z.toN s3.1)) x17) fun (x28 : List (MixE (Int))) =>
 Z.bnd (Z.wrap .i64 (Z.add s8.1 1)) fun (x29 : Int) =>
 k9 (x29,(x28,s8.2.2))
 else none
 else none
 else if (Z.Big (Z.xlen x17) (Z.len (Z.seg ((Z.ofN (Z.len x12))::([] : List (Int))) 0 1)) 8) then none
 else Z.bnd (Z.xapp s8.2.2 x17 (Z.seg ((Z.ofN (Z.len x12))::([] : List (Int))) 0 1)) fun (x32 : List (List (Int))) =>
 Z.bnd (Z.vKu x17 (Z.len (Z.seg ((Z.ofN (Z.len x12))::([] : List (Int))) 0 1))) fun (x33 : MixE (Int)) =>
 if (Z.In s3.1 (Z.toN (Z.ofN (Z.len d0.1)))) then if (Z.Lt (Z.addN 0 (Z.toN s3.1)) (Z.len s8.2.1)) then Z.bnd (Z.set s8.2.1 (Z.addN 0 (Z.toN s3.1)) x33) fun (x38 : List (MixE (Int))) =>
 Z.bnd (Z.wrap .i64 (Z.add s8.1 1)) fun (x39 : Int) =>
 k9 (x39,(x38,x32))
 else none
 else none
 else none
 else none
 else none
 else none
 else none
 else Z.bnd (Z.wrap .i64 (Z.add s3.1 1)) fun (x40 : Int) =>
 k4 (x40,(s8.2.1,s8.2.2)))) (0,(s3.2.1,s3.2.2))
 else none
 else Z.loop (fun (s41 : (Int)×((MixE (MixE (MixE (Int))))×((List (List (MixE (MixE (Int)))))×((List (List (Int)))×(List (List (MixE (Int)))))))) k42 =>
 (bif (Z.ilt s41.1 (Z.ofN (Z.len d0.1))) then if (Z.Ix s41.1 (Z.len d0.1)) then Z.bnd (Z.get d0.1 (Z.toN s41.1) ([] : List (List (Int)))) fun (x45 : List (List (Int))) =>
 if (Z.In s41.1 (Z.toN (Z.ofN (Z.len d0.1)))) then if (Z.Lt (Z.addN 0 (Z.toN s41.1)) (Z.len s3.2.1)) then Z.bnd (Z.get s3.2.1 (Z.addN 0 (Z.toN s41.1)) (MixE.nil : MixE (Int))) fun (x50 : MixE (Int)) =>
 Z.bind (zWj x45) fun (x51 : List (Int)) =>
 Z.bnd (Z.app s41.2.2.2.1 (x51::([] : List (List (Int))))) fun (x52 : List (List (Int))) =>
 if (Z.MkOk (Z.ofN (Z.xlen x50)) (Z.ofN (Z.xlen x50)) 24) then Z.bind (Z.mapO (fun (e55 : List (Int)) =>
 some (Z.yW8 e55)) (Z.rep (α:=List (Int)) (Z.toN (Z.ofN (Z.xlen x50))) ([] : List (Int)))) fun (x56 : List (MixE (Int))) =>
 Z.loop (fun (s57 : (List (MixE (Int)))×((Int)×(Int))) k58 =>
 (bif (Z.ilt s57.2.2 (Z.ofN (Z.xlen x50))) then if (Z.Ix s57.2.2 (Z.xlen x50)) then if (Z.XPt s3.2.2 x50 (Z.toN s57.2.2)) then if (Z.XPt s3.2.2 x50 (Z.toN s57.2.2)) then Z.bnd (Z.xat s3.2.2 x50 (Z.toN s57.2.2) 0) fun (x65 : Int) =>
 Z.bnd (Z.wrap .i64 (Z.add s57.2.1 x65)) fun (x66 : Int) =>
 Z.bnd (Z.wrap .i64 (Z.add s57.2.1 x65)) fun (x67 : Int) =>
 if (Z.XCut x52 (Z.xrow (Z.len s41.2.2.2.1) x51)) then if (Z.Bd x67 (Z.xlen (Z.xrow (Z.len s41.2.2.2.1) x51))) then if (Z.Bd x66 (Z.toN x67)) then if (Z.Bd s57.2.1 (Z.toN x66)) then Z.bnd (Z.xcut (Z.xrow (Z.len s41.2.2.2.1) x51) (Z.toN s57.2.1) (Z.toN x66)) fun (x76 : MixE (Int)) =>
 if (Z.In s57.2.2 (Z.toN (Z.ofN (Z.xlen x50)))) then if (Z.Lt (Z.addN 0 (Z.toN s57.2.2)) (Z.len s57.1)) then Z.bnd (Z.set s57.1 (Z.addN 0 (Z.toN s57.2.2)) x76) fun (x81 : List (MixE (Int))) =>
 Z.bnd (Z.wrap .i64 (Z.add s57.2.1 x65)) fun (x82 : Int) =>
 Z.bnd (Z.wrap .i64 (Z.add s57.2.2 1)) fun (x83 : Int) =>
 k58 (x81,(x82,x83))
 else none
 else none
 else none
 else none
 else none
 else none
 else none
 else none
 else none
 else if (Z.EqN 0 0) then if (Z.EqN (Z.toN (Z.ofN (Z.xlen x50))) (Z.len s57.1)) then Z.bnd (Z.app s41.2.2.2.2 (s57.1::([] : List (List (MixE (Int)))))) fun (x88 : List (List (MixE (Int)))) =>
 if (Z.XGr s41.2.2.1 s41.2.1) then if (Z.EqN (Z.len ((Z.xnew (α:=MixE (Int)) (Z.len s41.2.2.2.2) (Z.toN (Z.ofN (Z.xlen x50))))::([] : List (MixE (MixE (Int)))))) 0) then Z.bnd (Z.wrap .i64 (Z.add s41.1 1)) fun (x93 : Int) =>
 k42 (x93,(s41.2.1,(s41.2.2.1,(x52,x88))))
 else if (Z.Big (Z.xlen s41.2.1) (Z.len ((Z.xnew (α:=MixE (Int)) (Z.len s41.2.2.2.2) (Z.toN (Z.ofN (Z.xlen x50))))::([] : List (MixE (MixE (Int)))))) 24) then none
 else Z.bnd (Z.xapp s41.2.2.1 s41.2.1 ((Z.xnew (α:=MixE (Int)) (Z.len s41.2.2.2.2) (Z.toN (Z.ofN (Z.xlen x50))))::([] : List (MixE (MixE (Int)))))) fun (x96 : List (List (MixE (MixE (Int))))) =>
 Z.bnd (Z.vKu s41.2.1 (Z.len ((Z.xnew (α:=MixE (Int)) (Z.len s41.2.2.2.2) (Z.toN (Z.ofN (Z.xlen x50))))::([] : List (MixE (MixE (Int))))))) fun (x97 : MixE (MixE (MixE (Int)))) =>
 Z.bnd (Z.wrap .i64 (Z.add s41.1 1)) fun (x98 : Int) =>
 k42 (x98,(x97,(x96,(x52,x88))))
 else none
 else none
 else none)) (x56,(0,0))
 else none
 else none
 else none
 else none
 else some ((s41.2.2.2.1,(s41.2.2.2.2,s41.2.2.1)),(s41.2.1,())))) (0,((Z.xnew (α:=MixE (MixE (Int))) 0 0),((([] : List (MixE (MixE (Int))))::([] : List (List (MixE (MixE (Int)))))),(([] : List (List (Int))),([] : List (List (MixE (Int)))))))))) (0,((Z.xYv (α:=Int) (Z.toN (Z.ofN (Z.len d0.1)))),(Z.rep (α:=List (Int)) (Z.toN (Z.ofN (Z.len d0.1))) ([] : List (Int)))))
 else none
def xY7 : List LSpec×List Nat:=([{ id:=3700,known:=true,toks:=[(5500005,(.mix 1000000 (.int .u8)))],items:=[.vec 1000005 (.mix 1000000 (.int .u8)), .slot 6 (.val (.int .i64)), .slot 14 (.val (.int .i64))],junk:=[15,16,17,18,7,8,19,20,21,22,23,24,25,26,27,28,29,30,31,32,33,34],tails:=[] }],[888888])
def xY6 : List LSpec×List Nat:=([{ id:=4400,known:=true,toks:=[],items:=[.slot 11 (.val (.int .i64)), .vec 2004000 (.mix 3 (.int .i64)), .rows 3 (.int .i64)],junk:=[12,13,14,15,5,6,16,17,18,19,20,21,8,22,23,24,25,26,4,27,28],tails:=[] },{ id:=4401,known:=true,toks:=[],items:=[.slot 18 (.val (.int .i64)), .vec 2004000 (.mix 3 (.int .i64)), .rows 3 (.int .i64)],junk:=[19,20,21,8,22,23,24,25,26,4,27],tails:=[] }],[])
def xY5 : List LSpec×List Nat:=([],[5])
def xY8 : List LSpec×List Nat:=([{ id:=2800,known:=true,toks:=[(9000000,(.int .u8)),(9000000,(.mix 900000001 (.int .u8))),(7005000,(.mix 900000001 (.mix 900000002 (.int .u8))))],items:=[.slot 18 (.val (.int .i64)), .cells 1000004 [.val (.mix 2005000 (.mix 12005000 (.mix 22005000 (.int .u8))))], .rows 2005000 (.mix 12005000 (.mix 22005000 (.int .u8))), .rows 22005000 (.int .u8), .rows 12005000 (.mix 22005000 (.int .u8))],junk:=[19,20,21,22,5,6,23,24,25,26,27,28,29,30,31,32,33,34,35],tails:=[] }],[4000000001])
def wJw : Tab (List LSpec×List Nat):=(.node (.node .leaf none (.node .leaf none (.node (.node (.node .leaf (some xY7) .leaf) none .leaf) none .leaf))) none (.node (.node .leaf none (.node (.node (.node (.node .leaf (some xY5) .leaf) none .leaf) none .leaf) none (.node (.node .leaf (some xY6) .leaf) (some xY8) .leaf))) none .leaf))
def wJx (f : Nat) : List LSpec×List Nat:=(wJw.get f).getD ([],[])
def yQg : RFn:={ args:=[(.pair (.list (.list (.list (.int .u8)))) .unit)],objs:=[(.int .u8),(.mix 0 (.int .u8)),(.mix 1 (.mix 0 (.int .u8)))],res:=[(.pair (.mix 2 (.mix 1 (.mix 0 (.int .u8)))) .unit)],fn:=zJ3 }
theorem yXy : OwnR Try.prog cfg 28 yQg:=fnR wJx [] (l:=[(53,zZd)]) (lo:=[(53,zXc)]) (lr:=[]) zX2 zWa (.cons zJf .nil) (.cons zZc.1 .nil) .nil (fun d=>by kernel_rfl)
def zZn (d0 : List (Int)) : Option (List (Int)) :=
 if (Z.Le (Z.addN 0 0) (Z.len ([] : List (Int)))) then if (Z.Big (Z.len (Z.seg ([] : List (Int)) 0 0)) (Z.len d0) 1) then none
 else Z.bnd (Z.app (Z.seg ([] : List (Int)) 0 0) d0) fun (x5 : List (Int)) =>
 some x5
 else none
def zYm : PFn:={ args:=[(.list (.int .u8))],res:=[(.list (.int .u8))],fn:=zZn }
def cx40 : CloneX Try.prog cfg 40 5 (.int .u8) := clx xf40 5 (xf40.body.cOps.getD 0 ⟨none, .move (.tmp 0), 0, "", #[], none⟩) (xf40.body.cOps.getD 1 ⟨none, .move (.tmp 0), 0, "", #[], none⟩) (by kernel_rfl) (by kernel_rfl) (by kernel_rfl) (by kernel_rfl) (by kernel_rfl) (by kernel_rfl) (by kernel_rfl) (by kernel_rfl) (by kernel_rfl)
theorem yW0 : zW7 Try.prog cfg 40 zYm:=cloneD sp0 zX2 zWa cx40 (of_decide_eq_true (by kernel_rfl)) (by kernel_rfl) (by kernel_rfl) (by kernel_rfl) (fun d=>by kernel_rfl) (fun d=>by kernel_rfl) (by kernel_rfl) (fun d r h=>by
  unfold zZn at h
  split at h
  · split at h
    · cases h
    · have h1 : some d = some r := h
      exact (Option.some.inj h1).symm
  · cases h)
def yQ6 (d0 : ((Int)×((Int)×((Int)×((Int)×((Int)×((Int)×((Int)×((Int)×((Int)×(Unit))))))))))×(((List (List (List (Int))))×(Unit))×((Int)×((List (Int))×(List (List (Int))))))) : Option (((List (List (List (Int))))×(Unit))×((List ((Int)×((Int)×((Int)×((List (Int))×(Unit))))))×(Int))) :=
 Z.bind (zJ4 ((d0.1.1,(d0.1.2.1,(d0.1.2.2.1,(d0.1.2.2.2.1,(d0.1.2.2.2.2.1,(d0.1.2.2.2.2.2.1,(d0.1.2.2.2.2.2.2.1,(d0.1.2.2.2.2.2.2.2.1,(d0.1.2.2.2.2.2.2.2.2.1,()))))))))),(d0.2.1.1,()))) fun (x1 : Int) =>
 (bif (Z.ine x1 0) then some ((([] : List (List (List (Int)))),()),(([] : List ((Int)×((Int)×((Int)×((List (Int))×(Unit)))))),x1))
 else Z.bind (zZq ((d0.2.1.1,()),(d0.2.2.1,d0.2.2.2.1))) fun (x2 : Bool) =>
 (bif (Z.bnot x2) then some ((([] : List (List (List (Int)))),()),(([] : List ((Int)×((Int)×((Int)×((List (Int))×(Unit)))))),2))
 else (bif (Z.zQz false true (Z.ine (Z.ofN (Z.len d0.2.2.2.2)) (Z.ofN (Z.len d0.2.2.2.1)))) then some ((([] : List (List (List (Int)))),()),(([] : List ((Int)×((Int)×((Int)×((List (Int))×(Unit)))))),2))
 else Z.loop (fun (s3 : Int) k4 =>
 (bif (Z.ilt s3 (Z.ofN (Z.len d0.2.2.2.1))) then if (Z.Ix s3 (Z.len d0.2.2.2.1)) then Z.bnd (Z.get d0.2.2.2.1 (Z.toN s3) 0) fun (x7 : Int) =>
 if (Z.Ix s3 (Z.len d0.2.2.2.2)) then Z.bnd (Z.get d0.2.2.2.2 (Z.toN s3) ([] : List (Int))) fun (x10 : List (Int)) =>
 if (Z.Ix d0.2.2.1 (Z.len d0.2.1.1)) then Z.bnd (Z.get d0.2.1.1 (Z.toN d0.2.2.1) ([] : List (List (Int)))) fun (x13 : List (List (Int))) =>
 Z.bnd (Z.wrap .i64 (Z.sub x7 1)) fun (x14 : Int) =>
 if (Z.Ix x14 (Z.len x13)) then Z.bnd (Z.get x13 (Z.toN x14) ([] : List (Int))) fun (x17 : List (Int)) =>
 (bif (Z.ine (Z.ofN (Z.len x10)) (Z.ofN (Z.len x17))) then some ((([] : List (List (List (Int)))),()),(([] : List ((Int)×((Int)×((Int)×((List (Int))×(Unit)))))),2))
 else Z.bnd (Z.wrap .i64 (Z.add s3 1)) fun (x18 : Int) =>
 k4 x18)
 else none
 else none
 else none
 else none
 else Z.bind (zJ3 (d0.2.1.1,())) fun (x19 : ((List (List (Int)))×((List (List (MixE (Int))))×(List (List (MixE (MixE (Int)))))))×((MixE (MixE (MixE (Int))))×(Unit))) =>
 if (Z.EqN 0 (Z.len ([] : List ((Int)×((Int)×((Int)×((List (Int))×(Unit)))))))) then Z.loop (fun (s22 : (Int)×((List ((Int)×((Int)×((Int)×((List (Int))×(Unit))))))×(List (List (Int))))) k23 =>
 (bif (Z.ilt s22.1 (Z.ofN (Z.len d0.2.2.2.1))) then if (Z.Ix s22.1 (Z.len d0.2.2.2.1)) then Z.bnd (Z.get d0.2.2.2.1 (Z.toN s22.1) 0) fun (x26 : Int) =>
 if (Z.Ix s22.1 (Z.len d0.2.2.2.2)) then Z.bnd (Z.get d0.2.2.2.2 (Z.toN s22.1) ([] : List (Int))) fun (x29 : List (Int)) =>
 if (Z.Ix d0.2.2.1 (Z.xlen x19.2.1)) then if (Z.XPt x19.1.2.2 x19.2.1 (Z.toN d0.2.2.1)) then if (Z.XPt x19.1.2.2 x19.2.1 (Z.toN d0.2.2.1)) then Z.bnd (Z.xat x19.1.2.2 x19.2.1 (Z.toN d0.2.2.1) (MixE.nil : MixE (MixE (Int)))) fun (x36 : MixE (MixE (Int))) =>
 Z.bnd (Z.wrap .i64 (Z.sub x26 1)) fun (x37 : Int) =>
 if (Z.Ix x37 (Z.xlen x36)) then if (Z.XPt x19.1.2.1 x36 (Z.toN x37)) then if (Z.XPt x19.1.2.1 x36 (Z.toN x37)) then Z.bnd (Z.xat x19.1.2.1 x36 (Z.toN x37) (MixE.nil : MixE (Int))) fun (x44 : MixE (Int)) =>
 if (Z.XW s22.2.2 x44) then Z.bnd (Z.xput s22.2.2 x44 (Z.take (Z.minN (Z.len x29) (Z.xlen x44)) x29)) fun (x47 : List (List (Int))) =>
 Z.bind (zZn x29) fun (x48 : List (Int)) =>
 if (Z.Le (Z.addN 0 1) (Z.len ((2,(d0.2.2.1,(x26,(x48,()))))::([] : List ((Int)×((Int)×((Int)×((List (Int))×(Unit))))))))) then if (Z.Big (Z.len s22.2.1) (Z.len (Z.seg ((2,(d0.2.2.1,(x26,(x48,()))))::([] : List ((Int)×((Int)×((Int)×((List (Int))×(Unit))))))) 0 1)) 48) then none
 else if (Z.EqN (Z.len s22.2.1) (Z.len s22.2.1)) then Z.bnd (Z.app s22.2.1 (Z.seg ((2,(d0.2.2.1,(x26,(x48,()))))::([] : List ((Int)×((Int)×((Int)×((List (Int))×(Unit))))))) 0 1)) fun (x55 : List ((Int)×((Int)×((Int)×((List (Int))×(Unit)))))) =>
 Z.bnd (Z.wrap .i64 (Z.add s22.1 1)) fun (x56 : Int) =>
 if (Z.EqN (Z.len x55) (Z.len x55)) then k23 (x56,(x55,x47))
 else none
 else none
 else none
 else none
 else none
 else none
 else none
 else none
 else none
 else none
 else none
 else none
 else if (Z.XOk x19.1.2.2 x19.2.1) then Z.bind (Z.mapO (fun (e61 : MixE (MixE (Int))) =>
 if (Z.XOk x19.1.2.1 e61) then Z.bind (Z.mapO (fun (e64 : MixE (Int)) =>
 if (Z.XOk s22.2.2 e64) then Z.bnd (Z.xget s22.2.2 e64) fun (x67 : List (Int)) =>
 some x67
 else none) (Z.xget x19.1.2.1 e61)) fun (x68 : List (List (Int))) =>
 some x68
 else none) (Z.xget x19.1.2.2 x19.2.1)) fun (x69 : List (List (List (Int)))) =>
 some ((x69,()),(s22.2.1,0))
 else none)) (0,(([] : List ((Int)×((Int)×((Int)×((List (Int))×(Unit)))))),x19.1.1))
 else none)) 0)))
def yXf : PFn:={ args:=[(.pair (.int .i64) (.pair (.int .i64) (.pair (.int .i64) (.pair (.int .i64) (.pair (.int .i64) (.pair (.int .i64) (.pair (.int .i64) (.pair (.int .i64) (.pair (.int .i64) .unit))))))))),(.pair (.list (.list (.list (.int .u8)))) .unit),(.int .i64),(.list (.int .i64)),(.list (.list (.int .u8)))],res:=[(.pair (.list (.list (.list (.int .u8)))) .unit),(.list (.pair (.int .u8) (.pair (.int .i64) (.pair (.int .i64) (.pair (.list (.int .u8)) .unit))))),(.int .i64)],fn:=yQ6 }
def vY4 : List LSpec×List Nat:=([],[5])
def vY5 : List LSpec×List Nat:=([{ id:=2800,known:=true,toks:=[(9000000,(.int .u8)),(9000000,(.mix 900000001 (.int .u8))),(7005000,(.mix 900000001 (.mix 900000002 (.int .u8))))],items:=[.slot 18 (.val (.int .i64)), .cells 1000004 [.val (.mix 2005000 (.mix 12005000 (.mix 22005000 (.int .u8))))], .rows 2005000 (.mix 12005000 (.mix 22005000 (.int .u8))), .rows 22005000 (.int .u8), .rows 12005000 (.mix 22005000 (.int .u8))],junk:=[19,20,21,22,5,6,23,24,25,26,27,28,29,30,31,32,33,34,35],tails:=[] }],[4000000001])
def vY6 : List LSpec×List Nat:=([{ id:=1200,known:=true,toks:=[],items:=[.slot 41 (.val (.int .i64))],junk:=[42,43,44,45,14,15,46,47,48,49,50,51,52,53,54,55,56,57,58,59,60,61,62,12,63],tails:=[] },{ id:=1201,known:=true,toks:=[(2004000,(.pair (.int .u8) (.pair (.int .i64) (.pair (.int .i64) (.pair (.list (.int .u8)) .unit)))))],items:=[.slot 69 (.val (.int .i64)), .cells 1000011 [.slt (.pair (.int .u8) (.pair (.int .i64) (.pair (.int .i64) (.pair (.list (.int .u8)) .unit)))) (some 2004000) false], .rows 23010000 (.int .u8)],junk:=[70,71,72,73,17,18,74,75,76,77,78,79,80,81],tails:=[(2004000,2004000)] }],[])
def spt12 : Tab (List LSpec×List Nat):=(.node .leaf none (.node (.node .leaf none (.node (.node (.node (.node .leaf (some vY4) .leaf) none .leaf) none .leaf) (some vY6) (.node .leaf (some vY5) .leaf))) none .leaf))
def spf12 (f : Nat) : List LSpec×List Nat:=(spt12.get f).getD ([],[])
theorem yK4 : zW7 Try.prog cfg 12 yXf:=fnDr spf12 [] (l:=[(16,zYk),(38,zJi),(40,zYm)]) (lo:=[]) (lr:=[(28,yQg)]) zX2 zWa (.cons yQi (.cons zYi (.cons yW0 .nil))) .nil (.cons yXy .nil) (fun d=>by kernel_rfl)
def yZt (d0 : ((Int)×((Int)×((Int)×((Int)×((Int)×((Int)×((Int)×((Int)×((Int)×(Unit))))))))))×(((List (List (List (Int))))×(Unit))×((Int)×(List (Int))))) : Option ((List (List (Int)))×((List ((Int)×((Int)×((Int)×((List (Int))×(Unit))))))×(Int))) :=
 Z.bind (zJ4 ((d0.1.1,(d0.1.2.1,(d0.1.2.2.1,(d0.1.2.2.2.1,(d0.1.2.2.2.2.1,(d0.1.2.2.2.2.2.1,(d0.1.2.2.2.2.2.2.1,(d0.1.2.2.2.2.2.2.2.1,(d0.1.2.2.2.2.2.2.2.2.1,()))))))))),(d0.2.1.1,()))) fun (x1 : Int) =>
 (bif (Z.ine x1 0) then some (([] : List (List (Int))),(([] : List ((Int)×((Int)×((Int)×((List (Int))×(Unit)))))),x1))
 else Z.bind (zZq ((d0.2.1.1,()),(d0.2.2.1,d0.2.2.2))) fun (x2 : Bool) =>
 (bif (Z.bnot x2) then some (([] : List (List (Int))),(([] : List ((Int)×((Int)×((Int)×((List (Int))×(Unit)))))),2))
 else if (Z.EqN 0 (Z.len ([] : List ((Int)×((Int)×((Int)×((List (Int))×(Unit)))))))) then if (Z.EqN 0 (Z.len ([] : List (List (Int))))) then Z.loop (fun (s7 : (Int)×((List ((Int)×((Int)×((Int)×((List (Int))×(Unit))))))×(List (List (Int))))) k8 =>
 (bif (Z.ilt s7.1 (Z.ofN (Z.len d0.2.2.2))) then if (Z.Ix s7.1 (Z.len d0.2.2.2)) then Z.bnd (Z.get d0.2.2.2 (Z.toN s7.1) 0) fun (x11 : Int) =>
 if (Z.Ix d0.2.2.1 (Z.len d0.2.1.1)) then Z.bnd (Z.get d0.2.1.1 (Z.toN d0.2.2.1) ([] : List (List (Int)))) fun (x14 : List (List (Int))) =>
 Z.bnd (Z.wrap .i64 (Z.sub x11 1)) fun (x15 : Int) =>
 if (Z.Ix x15 (Z.len x14)) then Z.bnd (Z.get x14 (Z.toN x15) ([] : List (Int))) fun (x18 : List (Int)) =>
 Z.bind (zZn x18) fun (x19 : List (Int)) =>
 if (Z.Le (Z.addN 0 1) (Z.len (x19::([] : List (List (Int)))))) then if (Z.Big (Z.len s7.2.2) (Z.len (Z.seg (x19::([] : List (List (Int)))) 0 1)) 24) then none
 else if (Z.EqN (Z.len s7.2.2) (Z.len s7.2.2)) then Z.bnd (Z.app s7.2.2 (Z.seg (x19::([] : List (List (Int)))) 0 1)) fun (x26 : List (List (Int))) =>
 Z.bind (zZn x18) fun (x27 : List (Int)) =>
 if (Z.Le (Z.addN 0 1) (Z.len ((1,(d0.2.2.1,(x11,(x27,()))))::([] : List ((Int)×((Int)×((Int)×((List (Int))×(Unit))))))))) then if (Z.Big (Z.len s7.2.1) (Z.len (Z.seg ((1,(d0.2.2.1,(x11,(x27,()))))::([] : List ((Int)×((Int)×((Int)×((List (Int))×(Unit))))))) 0 1)) 48) then none
 else if (Z.EqN (Z.len s7.2.1) (Z.len s7.2.1)) then Z.bnd (Z.app s7.2.1 (Z.seg ((1,(d0.2.2.1,(x11,(x27,()))))::([] : List ((Int)×((Int)×((Int)×((List (Int))×(Unit))))))) 0 1)) fun (x34 : List ((Int)×((Int)×((Int)×((List (Int))×(Unit)))))) =>
 Z.bnd (Z.wrap .i64 (Z.add s7.1 1)) fun (x35 : Int) =>
 if (Z.EqN (Z.len x34) (Z.len x34)) then if (Z.EqN (Z.len x26) (Z.len x26)) then k8 (x35,(x34,x26))
 else none
 else none
 else none
 else none
 else none
 else none
 else none
 else none
 else none
 else some (s7.2.2,(s7.2.1,0)))) (0,(([] : List ((Int)×((Int)×((Int)×((List (Int))×(Unit)))))),([] : List (List (Int)))))
 else none
 else none))
def yKb : PFn:={ args:=[(.pair (.int .i64) (.pair (.int .i64) (.pair (.int .i64) (.pair (.int .i64) (.pair (.int .i64) (.pair (.int .i64) (.pair (.int .i64) (.pair (.int .i64) (.pair (.int .i64) .unit))))))))),(.pair (.list (.list (.list (.int .u8)))) .unit),(.int .i64),(.list (.int .i64))],res:=[(.list (.list (.int .u8))),(.list (.pair (.int .u8) (.pair (.int .i64) (.pair (.int .i64) (.pair (.list (.int .u8)) .unit))))),(.int .i64)],fn:=yZt }
def vY7 : List LSpec×List Nat:=([],[5])
def vY8 : List LSpec×List Nat:=([{ id:=2800,known:=true,toks:=[(9000000,(.int .u8)),(9000000,(.mix 900000001 (.int .u8))),(7005000,(.mix 900000001 (.mix 900000002 (.int .u8))))],items:=[.slot 18 (.val (.int .i64)), .cells 1000004 [.val (.mix 2005000 (.mix 12005000 (.mix 22005000 (.int .u8))))], .rows 2005000 (.mix 12005000 (.mix 22005000 (.int .u8))), .rows 22005000 (.int .u8), .rows 12005000 (.mix 22005000 (.int .u8))],junk:=[19,20,21,22,5,6,23,24,25,26,27,28,29,30,31,32,33,34,35],tails:=[] }],[4000000001])
def vY9 : List LSpec×List Nat:=([{ id:=1100,known:=true,toks:=[(2004000,(.pair (.int .u8) (.pair (.int .i64) (.pair (.int .i64) (.pair (.list (.int .u8)) .unit))))),(2003000,(.list (.int .u8)))],items:=[.slot 29 (.val (.int .i64)), .cells 1000009 [.slt (.pair (.int .u8) (.pair (.int .i64) (.pair (.int .i64) (.pair (.list (.int .u8)) .unit)))) (some 2004000) false], .cells 1000008 [.slt (.list (.int .u8)) (some 2003000) false]],junk:=[30,31,32,14,33,34,35,36,37,38,39,40,41,42,43,44,45],tails:=[(2004000,2004000),(2003000,2003000)] }],[])
def spt11 : Tab (List LSpec×List Nat):=(.node (.node (.node .leaf none (.node .leaf (some vY9) .leaf)) none .leaf) none (.node (.node .leaf none (.node (.node (.node (.node .leaf (some vY7) .leaf) none .leaf) none .leaf) none (.node .leaf (some vY8) .leaf))) none .leaf))
def spf11 (f : Nat) : List LSpec×List Nat:=(spt11.get f).getD ([],[])
theorem yYs : zW7 Try.prog cfg 11 yKb:=fnD spf11 (l:=[(16,zYk),(38,zJi),(40,zYm)]) zX2 zWa (.cons yQi (.cons zYi (.cons yW0 .nil))) (fun d=>by kernel_rfl)
def zKz (d0 : (List (Int))×(List (Int))) : Option (Bool) :=
 Z.bnd (Z.str d0.1) fun (x1 : List (UInt8)) =>
 Z.bnd (Z.str d0.2) fun (x2 : List (UInt8)) =>
 some (Z.seq x1 x2)
def yQj : PFn:={ args:=[(.list (.int .u8)),(.list (.int .u8))],res:=[.bool],fn:=zKz }
def vYe : List LSpec×List Nat:=([],[5])
def vYf : List LSpec×List Nat:=([{ id:=2800,known:=true,toks:=[(9000000,(.int .u8)),(9000000,(.mix 900000001 (.int .u8))),(7005000,(.mix 900000001 (.mix 900000002 (.int .u8))))],items:=[.slot 18 (.val (.int .i64)), .cells 1000004 [.val (.mix 2005000 (.mix 12005000 (.mix 22005000 (.int .u8))))], .rows 2005000 (.mix 12005000 (.mix 22005000 (.int .u8))), .rows 22005000 (.int .u8), .rows 12005000 (.mix 22005000 (.int .u8))],junk:=[19,20,21,22,5,6,23,24,25,26,27,28,29,30,31,32,33,34,35],tails:=[] }],[4000000001])
def spt34 : Tab (List LSpec×List Nat):=(.node .leaf none (.node (.node .leaf none (.node (.node (.node (.node .leaf (some vYe) .leaf) none .leaf) none .leaf) none (.node .leaf (some vYf) .leaf))) none .leaf))
def spf34 (f : Nat) : List LSpec×List Nat:=(spt34.get f).getD ([],[])
theorem yX1 : zW7 Try.prog cfg 34 yQj:=fnD spf34 (l:=[]) zX2 zWa .nil (fun d=>by kernel_rfl)
def zZt (d0 : (List (List (Int)))×(List (List (Int)))) : Option (Bool) :=
 (bif (Z.ine (Z.ofN (Z.len d0.1)) (Z.ofN (Z.len d0.2))) then some false
 else Z.loop (fun (s1 : Int) k2 =>
 (bif (Z.ilt s1 (Z.ofN (Z.len d0.1))) then if (Z.Ix s1 (Z.len d0.1)) then Z.bnd (Z.get d0.1 (Z.toN s1) ([] : List (Int))) fun (x5 : List (Int)) =>
 if (Z.Ix s1 (Z.len d0.2)) then Z.bnd (Z.get d0.2 (Z.toN s1) ([] : List (Int))) fun (x8 : List (Int)) =>
 Z.bind (zKz (x5,x8)) fun (x9 : Bool) =>
 (bif (Z.bnot x9) then some false
 else Z.bnd (Z.wrap .i64 (Z.add s1 1)) fun (x10 : Int) =>
 k2 x10)
 else none
 else none
 else some true)) 0)
def zK5 : PFn:={ args:=[(.list (.list (.int .u8))),(.list (.list (.int .u8)))],res:=[.bool],fn:=zZt }
def vYj : List LSpec×List Nat:=([],[5])
def vYk : List LSpec×List Nat:=([{ id:=2800,known:=true,toks:=[(9000000,(.int .u8)),(9000000,(.mix 900000001 (.int .u8))),(7005000,(.mix 900000001 (.mix 900000002 (.int .u8))))],items:=[.slot 18 (.val (.int .i64)), .cells 1000004 [.val (.mix 2005000 (.mix 12005000 (.mix 22005000 (.int .u8))))], .rows 2005000 (.mix 12005000 (.mix 22005000 (.int .u8))), .rows 22005000 (.int .u8), .rows 12005000 (.mix 22005000 (.int .u8))],junk:=[19,20,21,22,5,6,23,24,25,26,27,28,29,30,31,32,33,34,35],tails:=[] }],[4000000001])
def vYl : List LSpec×List Nat:=([{ id:=2300,known:=true,toks:=[],items:=[.slot 5 (.val (.int .i64))],junk:=[11,12,13,14,17,18,19,20,21,22,23,24,25,26,4,15,16],tails:=[] }],[])
def spt23 : Tab (List LSpec×List Nat):=(.node (.node (.node (.node .leaf none (.node .leaf (some vYl) .leaf)) none .leaf) none .leaf) none (.node (.node .leaf none (.node (.node (.node (.node .leaf (some vYj) .leaf) none .leaf) none .leaf) none (.node .leaf (some vYk) .leaf))) none .leaf))
def spf23 (f : Nat) : List LSpec×List Nat:=(spt23.get f).getD ([],[])
theorem zY9 : zW7 Try.prog cfg 23 zK5:=fnD spf23 (l:=[(34,yQj)]) zX2 zWa (.cons yX1 .nil) (fun d=>by kernel_rfl)
def zYs (d0 : Unit) : Option (Bool) :=
 Z.bind (zK6 ()) fun (x1 : (Int)×((Int)×((Int)×((Int)×((Int)×((Int)×((Int)×((Int)×((Int)×(Unit)))))))))) =>
 Z.bind (xKp (x1.1,(x1.2.1,(x1.2.2.1,(x1.2.2.2.1,(x1.2.2.2.2.1,(x1.2.2.2.2.2.1,(x1.2.2.2.2.2.2.1,(x1.2.2.2.2.2.2.2.1,(x1.2.2.2.2.2.2.2.2.1,())))))))))) fun (x2 : ((List (List (List (Int))))×(Unit))×(Int)) =>
 Z.bind (zK6 ()) fun (x3 : (Int)×((Int)×((Int)×((Int)×((Int)×((Int)×((Int)×((Int)×((Int)×(Unit)))))))))) =>
 Z.bind (zK0 3) fun (x4 : List (Int)) =>
 Z.bind (zK0 1) fun (x5 : List (Int)) =>
 if (Z.Le (Z.addN 0 2) (Z.len (3::(1::([] : List (Int)))))) then if (Z.Le (Z.addN 0 2) (Z.len (x4::(x5::([] : List (List (Int))))))) then Z.bind (yQ6 ((x3.1,(x3.2.1,(x3.2.2.1,(x3.2.2.2.1,(x3.2.2.2.2.1,(x3.2.2.2.2.2.1,(x3.2.2.2.2.2.2.1,(x3.2.2.2.2.2.2.2.1,(x3.2.2.2.2.2.2.2.2.1,()))))))))),((x2.1.1,()),(2,((Z.seg (3::(1::([] : List (Int)))) 0 2),(Z.seg (x4::(x5::([] : List (List (Int))))) 0 2)))))) fun (x10 : ((List (List (List (Int))))×(Unit))×((List ((Int)×((Int)×((Int)×((List (Int))×(Unit))))))×(Int))) =>
 Z.bind (zK6 ()) fun (x11 : (Int)×((Int)×((Int)×((Int)×((Int)×((Int)×((Int)×((Int)×((Int)×(Unit)))))))))) =>
 if (Z.Le (Z.addN 0 2) (Z.len (1::(2::([] : List (Int)))))) then Z.bind (yZt ((x11.1,(x11.2.1,(x11.2.2.1,(x11.2.2.2.1,(x11.2.2.2.2.1,(x11.2.2.2.2.2.1,(x11.2.2.2.2.2.2.1,(x11.2.2.2.2.2.2.2.1,(x11.2.2.2.2.2.2.2.2.1,()))))))))),((x10.1.1,()),(2,(Z.seg (1::(2::([] : List (Int)))) 0 2))))) fun (x14 : (List (List (Int)))×((List ((Int)×((Int)×((Int)×((List (Int))×(Unit))))))×(Int))) =>
 (bif (Z.ieq x2.2 0) then (bif (Z.zQz true (Z.ieq (Z.ofN (Z.len x2.1.1)) 3) false) then if (Z.Ix 0 (Z.len x2.1.1)) then Z.bnd (Z.get x2.1.1 (Z.toN 0) ([] : List (List (Int)))) fun (x17 : List (List (Int))) =>
 (bif (Z.zQz true (Z.ieq (Z.ofN (Z.len x17)) 15) false) then if (Z.Ix 0 (Z.len x2.1.1)) then Z.bnd (Z.get x2.1.1 (Z.toN 0) ([] : List (List (Int)))) fun (x20 : List (List (Int))) =>
 if (Z.Ix 0 (Z.len x20)) then Z.bnd (Z.get x20 (Z.toN 0) ([] : List (Int))) fun (x23 : List (Int)) =>
 (bif (Z.zQz true (Z.ieq (Z.ofN (Z.len x23)) 96) false) then (bif (Z.zQz true (Z.ieq x10.2.2 0) false) then (bif (Z.zQz true (Z.ieq (Z.ofN (Z.len x10.2.1)) 2) false) then (bif (Z.zQz true (Z.ieq x14.2.2 0) false) then (bif (Z.zQz true (Z.ieq (Z.ofN (Z.len x14.2.1)) 2) false) then if (Z.MkOk 104 104 1) then Z.bind (zK0 1) fun (x26 : List (Int)) =>
 if (Z.Le (Z.addN 0 (Z.toN 104)) (Z.len (Z.rep (α:=Int) (Z.toN 104) 0))) then Z.bind (zZt (x14.1,(x26::((Z.seg (Z.rep (α:=Int) (Z.toN 104) 0) 0 (Z.toN 104))::([] : List (List (Int))))))) fun (x29 : Bool) =>
 some (Z.zQz true x29 false)
 else none
 else none
 else some false)
 else some false)
 else some false)
 else some false)
 else some false)
 else none
 else none
 else some false)
 else none
 else some false)
 else some false)
 else none
 else none
 else none
def yX8 : PFn:={ args:=[],res:=[.bool],fn:=zYs }
def vYw : List LSpec×List Nat:=([],[5])
def vYx : List LSpec×List Nat:=([{ id:=2800,known:=true,toks:=[(9000000,(.int .u8)),(9000000,(.mix 900000001 (.int .u8))),(7005000,(.mix 900000001 (.mix 900000002 (.int .u8))))],items:=[.slot 18 (.val (.int .i64)), .cells 1000004 [.val (.mix 2005000 (.mix 12005000 (.mix 22005000 (.int .u8))))], .rows 2005000 (.mix 12005000 (.mix 22005000 (.int .u8))), .rows 22005000 (.int .u8), .rows 12005000 (.mix 22005000 (.int .u8))],junk:=[19,20,21,22,5,6,23,24,25,26,27,28,29,30,31,32,33,34,35],tails:=[] }],[4000000001])
def spt15 : Tab (List LSpec×List Nat):=(.node .leaf none (.node (.node .leaf none (.node (.node (.node (.node .leaf (some vYw) .leaf) none .leaf) none .leaf) none (.node .leaf (some vYx) .leaf))) none .leaf))
def spf15 (f : Nat) : List LSpec×List Nat:=(spt15.get f).getD ([],[])
theorem xWd : zW7 Try.prog cfg 15 yX8:=fnD spf15 (l:=[(10,yX7),(9,xJn),(13,yK6),(12,yXf),(11,yKb),(23,zK5)]) zX2 zWa (.cons xWc (.cons wZy (.cons xZl (.cons yK4 (.cons yYs (.cons zY9 .nil)))))) (fun d=>by kernel_rfl)
def zYe (d0 : (List (List (List (Int))))×(Unit)) : Option (Bool) :=
 Z.loop (fun (s1 : (Int)×(Int)) k2 =>
 (bif (Z.ilt s1.2 (Z.ofN (Z.len d0.1))) then (bif (Z.zQz true (Z.ilt s1.2 10) false) then Z.loop (fun (s3 : (Int)×(Int)) k4 =>
 if (Z.Ix s1.2 (Z.len d0.1)) then Z.bnd (Z.get d0.1 (Z.toN s1.2) ([] : List (List (Int)))) fun (x7 : List (List (Int))) =>
 (bif (Z.ilt s3.2 (Z.ofN (Z.len x7))) then (bif (Z.zQz true (Z.ilt s3.2 200) false) then if (Z.Ix s1.2 (Z.len d0.1)) then Z.bnd (Z.get d0.1 (Z.toN s1.2) ([] : List (List (Int)))) fun (x10 : List (List (Int))) =>
 if (Z.Ix s3.2 (Z.len x10)) then Z.bnd (Z.get x10 (Z.toN s3.2) ([] : List (Int))) fun (x13 : List (Int)) =>
 Z.bnd (Z.wrap .i64 (Z.add s3.1 (Z.imax false (Z.ofN (Z.len x13)) 100000))) fun (x14 : Int) =>
 Z.bnd (Z.wrap .i64 (Z.add s3.2 1)) fun (x15 : Int) =>
 k4 (x14,x15)
 else none
 else none
 else if (Z.Ix s1.2 (Z.len d0.1)) then Z.bnd (Z.get d0.1 (Z.toN s1.2) ([] : List (List (Int)))) fun (x18 : List (List (Int))) =>
 (bif (Z.igt (Z.ofN (Z.len x18)) 150) then some true
 else Z.bnd (Z.wrap .i64 (Z.add s1.2 1)) fun (x19 : Int) =>
 k2 (s3.1,x19))
 else none)
 else if (Z.Ix s1.2 (Z.len d0.1)) then Z.bnd (Z.get d0.1 (Z.toN s1.2) ([] : List (List (Int)))) fun (x22 : List (List (Int))) =>
 (bif (Z.igt (Z.ofN (Z.len x22)) 150) then some true
 else Z.bnd (Z.wrap .i64 (Z.add s1.2 1)) fun (x23 : Int) =>
 k2 (s3.1,x23))
 else none)
 else none) (s1.1,0)
 else (bif (Z.igt (Z.ofN (Z.len d0.1)) 6) then some true
 else some (Z.zQz false true (Z.igt s1.1 40000))))
 else (bif (Z.igt (Z.ofN (Z.len d0.1)) 6) then some true
 else some (Z.zQz false true (Z.igt s1.1 40000))))) (0,0)
def yX5 : PFn:={ args:=[(.pair (.list (.list (.list (.int .u8)))) .unit)],res:=[.bool],fn:=zYe }
def vYp : List LSpec×List Nat:=([],[5])
def vYq : List LSpec×List Nat:=([{ id:=2800,known:=true,toks:=[(9000000,(.int .u8)),(9000000,(.mix 900000001 (.int .u8))),(7005000,(.mix 900000001 (.mix 900000002 (.int .u8))))],items:=[.slot 18 (.val (.int .i64)), .cells 1000004 [.val (.mix 2005000 (.mix 12005000 (.mix 22005000 (.int .u8))))], .rows 2005000 (.mix 12005000 (.mix 22005000 (.int .u8))), .rows 22005000 (.int .u8), .rows 12005000 (.mix 22005000 (.int .u8))],junk:=[19,20,21,22,5,6,23,24,25,26,27,28,29,30,31,32,33,34,35],tails:=[] }],[4000000001])
def vYr : List LSpec×List Nat:=([{ id:=1700,known:=true,toks:=[],items:=[.slot 3 (.val (.int .i64)), .slot 4 (.val (.int .i64))],junk:=[6,7,8,9,10,11,12,13,14,5,17,18,19,20,21,22,23,24,25,26,27,28,31,32,33,34,35,36,37,38,39,40,41,42,29,30,43,44,45,46,47,48,49,2,15,16],tails:=[] },{ id:=1701,known:=true,toks:=[],items:=[.slot 3 (.val (.int .i64)), .slot 5 (.val (.int .i64))],junk:=[17,18,19,20,21,22,23,24,25,26,27,28,31,32,33,34,35,36,37,38,39,40,41,42,29,30],tails:=[] }],[])
def spt17 : Tab (List LSpec×List Nat):=(.node (.node .leaf none (.node (.node (.node .leaf (some vYr) .leaf) none .leaf) none .leaf)) none (.node (.node .leaf none (.node (.node (.node (.node .leaf (some vYp) .leaf) none .leaf) none .leaf) none (.node .leaf (some vYq) .leaf))) none .leaf))
def spf17 (f : Nat) : List LSpec×List Nat:=(spt17.get f).getD ([],[])
theorem xWa : zW7 Try.prog cfg 17 yX5:=fnD spf17 (l:=[]) zX2 zWa .nil (fun d=>by kernel_rfl)
def zYr (d0 : List (List (Int))) : Option (Bool) :=
 Z.loop (fun (s1 : Int) k2 =>
 (bif (Z.ilt s1 (Z.ofN (Z.len d0))) then (bif (Z.zQz true (Z.ilt s1 20) false) then if (Z.Ix s1 (Z.len d0)) then Z.bnd (Z.get d0 (Z.toN s1) ([] : List (Int))) fun (x5 : List (Int)) =>
 (bif (Z.igt (Z.ofN (Z.len x5)) 1000) then some true
 else Z.bnd (Z.wrap .i64 (Z.add s1 1)) fun (x6 : Int) =>
 k2 x6)
 else none
 else some (Z.igt (Z.ofN (Z.len d0)) 20))
 else some (Z.igt (Z.ofN (Z.len d0)) 20))) 0
def yX6 : PFn:={ args:=[(.list (.list (.int .u8)))],res:=[.bool],fn:=zYr }
def vYm : List LSpec×List Nat:=([],[5])
def vYn : List LSpec×List Nat:=([{ id:=2800,known:=true,toks:=[(9000000,(.int .u8)),(9000000,(.mix 900000001 (.int .u8))),(7005000,(.mix 900000001 (.mix 900000002 (.int .u8))))],items:=[.slot 18 (.val (.int .i64)), .cells 1000004 [.val (.mix 2005000 (.mix 12005000 (.mix 22005000 (.int .u8))))], .rows 2005000 (.mix 12005000 (.mix 22005000 (.int .u8))), .rows 22005000 (.int .u8), .rows 12005000 (.mix 22005000 (.int .u8))],junk:=[19,20,21,22,5,6,23,24,25,26,27,28,29,30,31,32,33,34,35],tails:=[] }],[4000000001])
def vYo : List LSpec×List Nat:=([{ id:=1800,known:=true,toks:=[],items:=[.slot 3 (.val (.int .i64))],junk:=[4,5,6,7,8,9,10,11,14,15,16,17,18,19,2,12,13],tails:=[] }],[])
def spt18 : Tab (List LSpec×List Nat):=(.node .leaf none (.node (.node .leaf none (.node (.node (.node (.node .leaf (some vYm) .leaf) none .leaf) none .leaf) none (.node .leaf (some vYn) .leaf))) none (.node (.node (.node .leaf (some vYo) .leaf) none .leaf) none .leaf)))
def spf18 (f : Nat) : List LSpec×List Nat:=(spt18.get f).getD ([],[])
theorem xWb : zW7 Try.prog cfg 18 yX6:=fnD spf18 (l:=[]) zX2 zWa .nil (fun d=>by kernel_rfl)
def yJ5 (d0 : ((List (List (List (Int))))×(Unit))×((Int)×((Int)×((Int)×((List (Int))×(Unit)))))) : Option (Bool) :=
 (bif (Z.ine d0.2.1 1) then (bif (Z.zQz true (Z.ine d0.2.1 2) false) then some false
 else if (Z.Le (Z.addN 0 1) (Z.len (d0.2.2.2.1::([] : List (Int))))) then Z.bind (zZq ((d0.1.1,()),(d0.2.2.1,(Z.seg (d0.2.2.2.1::([] : List (Int))) 0 1)))) fun (x3 : Bool) =>
 (bif (Z.zQz false true (Z.bnot x3)) then some false
 else if (Z.Ix d0.2.2.1 (Z.len d0.1.1)) then Z.bnd (Z.get d0.1.1 (Z.toN d0.2.2.1) ([] : List (List (Int)))) fun (x6 : List (List (Int))) =>
 Z.bnd (Z.wrap .i64 (Z.sub d0.2.2.2.1 1)) fun (x7 : Int) =>
 if (Z.Ix x7 (Z.len x6)) then Z.bnd (Z.get x6 (Z.toN x7) ([] : List (Int))) fun (x10 : List (Int)) =>
 some (Z.ieq (Z.ofN (Z.len d0.2.2.2.2.1)) (Z.ofN (Z.len x10)))
 else none
 else none)
 else none)
 else if (Z.Le (Z.addN 0 1) (Z.len (d0.2.2.2.1::([] : List (Int))))) then Z.bind (zZq ((d0.1.1,()),(d0.2.2.1,(Z.seg (d0.2.2.2.1::([] : List (Int))) 0 1)))) fun (x13 : Bool) =>
 (bif (Z.zQz false true (Z.bnot x13)) then some false
 else if (Z.Ix d0.2.2.1 (Z.len d0.1.1)) then Z.bnd (Z.get d0.1.1 (Z.toN d0.2.2.1) ([] : List (List (Int)))) fun (x16 : List (List (Int))) =>
 Z.bnd (Z.wrap .i64 (Z.sub d0.2.2.2.1 1)) fun (x17 : Int) =>
 if (Z.Ix x17 (Z.len x16)) then Z.bnd (Z.get x16 (Z.toN x17) ([] : List (Int))) fun (x20 : List (Int)) =>
 some (Z.ieq (Z.ofN (Z.len d0.2.2.2.2.1)) (Z.ofN (Z.len x20)))
 else none
 else none)
 else none)
def xW8 : PFn:={ args:=[(.pair (.list (.list (.list (.int .u8)))) .unit),(.pair (.int .u8) (.pair (.int .i64) (.pair (.int .i64) (.pair (.list (.int .u8)) .unit))))],res:=[.bool],fn:=yJ5 }
def vJ0 : List LSpec×List Nat:=([],[5])
def vJ1 : List LSpec×List Nat:=([{ id:=2800,known:=true,toks:=[(9000000,(.int .u8)),(9000000,(.mix 900000001 (.int .u8))),(7005000,(.mix 900000001 (.mix 900000002 (.int .u8))))],items:=[.slot 18 (.val (.int .i64)), .cells 1000004 [.val (.mix 2005000 (.mix 12005000 (.mix 22005000 (.int .u8))))], .rows 2005000 (.mix 12005000 (.mix 22005000 (.int .u8))), .rows 22005000 (.int .u8), .rows 12005000 (.mix 22005000 (.int .u8))],junk:=[19,20,21,22,5,6,23,24,25,26,27,28,29,30,31,32,33,34,35],tails:=[] }],[4000000001])
def spt43 : Tab (List LSpec×List Nat):=(.node .leaf none (.node (.node .leaf none (.node (.node (.node (.node .leaf (some vJ0) .leaf) none .leaf) none .leaf) none (.node .leaf (some vJ1) .leaf))) none .leaf))
def spf43 (f : Nat) : List LSpec×List Nat:=(spt43.get f).getD ([],[])
theorem wQc : zW7 Try.prog cfg 43 xW8:=fnD spf43 (l:=[(38,zJi)]) zX2 zWa (.cons zYi .nil) (fun d=>by kernel_rfl)
def yWq (d0 : ((Int)×((Int)×((Int)×((Int)×((Int)×((Int)×((Int)×((Int)×((Int)×(Unit))))))))))×(((List (List (List (Int))))×(Unit))×(List ((Int)×((Int)×((Int)×((List (Int))×(Unit)))))))) : Option (((List (List (List (Int))))×(Unit))×(Int)) :=
 Z.bind (zJ4 ((d0.1.1,(d0.1.2.1,(d0.1.2.2.1,(d0.1.2.2.2.1,(d0.1.2.2.2.2.1,(d0.1.2.2.2.2.2.1,(d0.1.2.2.2.2.2.2.1,(d0.1.2.2.2.2.2.2.2.1,(d0.1.2.2.2.2.2.2.2.2.1,()))))))))),(d0.2.1.1,()))) fun (x1 : Int) =>
 (bif (Z.ine x1 0) then some ((([] : List (List (List (Int)))),()),x1)
 else Z.loop (fun (s2 : Int) k3 =>
 (bif (Z.ilt s2 (Z.ofN (Z.len d0.2.2))) then if (Z.Ix s2 (Z.len d0.2.2)) then Z.bnd (Z.get d0.2.2 (Z.toN s2) (0,(0,(0,(([] : List (Int)),()))))) fun (x6 : (Int)×((Int)×((Int)×((List (Int))×(Unit))))) =>
 Z.bind (yJ5 ((d0.2.1.1,()),(x6.1,(x6.2.1,(x6.2.2.1,(x6.2.2.2.1,())))))) fun (x7 : Bool) =>
 (bif (Z.bnot x7) then some ((([] : List (List (List (Int)))),()),2)
 else Z.bnd (Z.wrap .i64 (Z.add s2 1)) fun (x8 : Int) =>
 k3 x8)
 else none
 else Z.bind (zJ3 (d0.2.1.1,())) fun (x9 : ((List (List (Int)))×((List (List (MixE (Int))))×(List (List (MixE (MixE (Int)))))))×((MixE (MixE (MixE (Int))))×(Unit))) =>
 Z.loop (fun (s10 : (Int)×(List (List (Int)))) k11 =>
 (bif (Z.ilt s10.1 (Z.ofN (Z.len d0.2.2))) then if (Z.Ix s10.1 (Z.len d0.2.2)) then Z.bnd (Z.get d0.2.2 (Z.toN s10.1) (0,(0,(0,(([] : List (Int)),()))))) fun (x14 : (Int)×((Int)×((Int)×((List (Int))×(Unit))))) =>
 (bif (Z.ieq x14.1 2) then if (Z.Ix x14.2.1 (Z.xlen x9.2.1)) then if (Z.XPt x9.1.2.2 x9.2.1 (Z.toN x14.2.1)) then if (Z.XPt x9.1.2.2 x9.2.1 (Z.toN x14.2.1)) then Z.bnd (Z.xat x9.1.2.2 x9.2.1 (Z.toN x14.2.1) (MixE.nil : MixE (MixE (Int)))) fun (x21 : MixE (MixE (Int))) =>
 Z.bnd (Z.wrap .i64 (Z.sub x14.2.2.1 1)) fun (x22 : Int) =>
 if (Z.Ix x22 (Z.xlen x21)) then if (Z.XPt x9.1.2.1 x21 (Z.toN x22)) then if (Z.XPt x9.1.2.1 x21 (Z.toN x22)) then Z.bnd (Z.xat x9.1.2.1 x21 (Z.toN x22) (MixE.nil : MixE (Int))) fun (x29 : MixE (Int)) =>
 if (Z.XW s10.2 x29) then Z.bnd (Z.xput s10.2 x29 (Z.take (Z.minN (Z.len x14.2.2.2.1) (Z.xlen x29)) x14.2.2.2.1)) fun (x32 : List (List (Int))) =>
 Z.bnd (Z.wrap .i64 (Z.add s10.1 1)) fun (x33 : Int) =>
 k11 (x33,x32)
 else none
 else none
 else none
 else none
 else none
 else none
 else none
 else Z.bnd (Z.wrap .i64 (Z.add s10.1 1)) fun (x34 : Int) =>
 k11 (x34,s10.2))
 else none
 else if (Z.XOk x9.1.2.2 x9.2.1) then Z.bind (Z.mapO (fun (e37 : MixE (MixE (Int))) =>
 if (Z.XOk x9.1.2.1 e37) then Z.bind (Z.mapO (fun (e40 : MixE (Int)) =>
 if (Z.XOk s10.2 e40) then Z.bnd (Z.xget s10.2 e40) fun (x43 : List (Int)) =>
 some x43
 else none) (Z.xget x9.1.2.1 e37)) fun (x44 : List (List (Int))) =>
 some x44
 else none) (Z.xget x9.1.2.2 x9.2.1)) fun (x45 : List (List (List (Int)))) =>
 some ((x45,()),0)
 else none)) (0,x9.1.1))) 0)
def yK8 : PFn:={ args:=[(.pair (.int .i64) (.pair (.int .i64) (.pair (.int .i64) (.pair (.int .i64) (.pair (.int .i64) (.pair (.int .i64) (.pair (.int .i64) (.pair (.int .i64) (.pair (.int .i64) .unit))))))))),(.pair (.list (.list (.list (.int .u8)))) .unit),(.list (.pair (.int .u8) (.pair (.int .i64) (.pair (.int .i64) (.pair (.list (.int .u8)) .unit)))))],res:=[(.pair (.list (.list (.list (.int .u8)))) .unit),(.int .i64)],fn:=yWq }
def vYy : List LSpec×List Nat:=([],[5])
def vYz : List LSpec×List Nat:=([{ id:=2800,known:=true,toks:=[(9000000,(.int .u8)),(9000000,(.mix 900000001 (.int .u8))),(7005000,(.mix 900000001 (.mix 900000002 (.int .u8))))],items:=[.slot 18 (.val (.int .i64)), .cells 1000004 [.val (.mix 2005000 (.mix 12005000 (.mix 22005000 (.int .u8))))], .rows 2005000 (.mix 12005000 (.mix 22005000 (.int .u8))), .rows 22005000 (.int .u8), .rows 12005000 (.mix 22005000 (.int .u8))],junk:=[19,20,21,22,5,6,23,24,25,26,27,28,29,30,31,32,33,34,35],tails:=[] }],[4000000001])
def vY0 : List LSpec×List Nat:=([{ id:=1400,known:=true,toks:=[],items:=[.slot 23 (.val (.int .i64))],junk:=[24,25,26,10,27,28,29,30,31,7,32],tails:=[] },{ id:=1401,known:=true,toks:=[],items:=[.slot 37 (.val (.int .i64)), .rows 23011000 (.int .u8)],junk:=[38,39,40,13,41,42,43,44,45,46,47,48,49,50,51,52],tails:=[] }],[])
def spt14 : Tab (List LSpec×List Nat):=(.node .leaf none (.node (.node .leaf none (.node (.node (.node (.node .leaf (some vYy) .leaf) none .leaf) none .leaf) none (.node .leaf (some vYz) .leaf))) none (.node .leaf none (.node .leaf (some vY0) .leaf))))
def spf14 (f : Nat) : List LSpec×List Nat:=(spt14.get f).getD ([],[])
theorem xZn : zW7 Try.prog cfg 14 yK8:=fnDr spf14 [] (l:=[(16,zYk),(43,xW8)]) (lo:=[]) (lr:=[(28,yQg)]) zX2 zWa (.cons yQi (.cons wQc .nil)) .nil (.cons yXy .nil) (fun d=>by kernel_rfl)
def yWg (d0 : ((List (List (List (Int))))×(Unit))×((List (List (List (Int))))×(Unit))) : Option (Bool) :=
 (bif (Z.ine (Z.ofN (Z.len d0.1.1)) (Z.ofN (Z.len d0.2.1))) then some false
 else Z.loop (fun (s1 : Int) k2 =>
 (bif (Z.ilt s1 (Z.ofN (Z.len d0.1.1))) then if (Z.Ix s1 (Z.len d0.1.1)) then Z.bnd (Z.get d0.1.1 (Z.toN s1) ([] : List (List (Int)))) fun (x5 : List (List (Int))) =>
 if (Z.Ix s1 (Z.len d0.2.1)) then Z.bnd (Z.get d0.2.1 (Z.toN s1) ([] : List (List (Int)))) fun (x8 : List (List (Int))) =>
 Z.bind (zZt (x5,x8)) fun (x9 : Bool) =>
 (bif (Z.bnot x9) then some false
 else Z.bnd (Z.wrap .i64 (Z.add s1 1)) fun (x10 : Int) =>
 k2 x10)
 else none
 else none
 else some true)) 0)
def yK5 : PFn:={ args:=[(.pair (.list (.list (.list (.int .u8)))) .unit),(.pair (.list (.list (.list (.int .u8)))) .unit)],res:=[.bool],fn:=yWg }
def vYg : List LSpec×List Nat:=([],[5])
def vYh : List LSpec×List Nat:=([{ id:=2800,known:=true,toks:=[(9000000,(.int .u8)),(9000000,(.mix 900000001 (.int .u8))),(7005000,(.mix 900000001 (.mix 900000002 (.int .u8))))],items:=[.slot 18 (.val (.int .i64)), .cells 1000004 [.val (.mix 2005000 (.mix 12005000 (.mix 22005000 (.int .u8))))], .rows 2005000 (.mix 12005000 (.mix 22005000 (.int .u8))), .rows 22005000 (.int .u8), .rows 12005000 (.mix 22005000 (.int .u8))],junk:=[19,20,21,22,5,6,23,24,25,26,27,28,29,30,31,32,33,34,35],tails:=[] }],[4000000001])
def vYi : List LSpec×List Nat:=([{ id:=2500,known:=true,toks:=[],items:=[.slot 5 (.val (.int .i64))],junk:=[13,14,15,16,17,20,21,22,23,24,25,26,27,28,29,30,31,4,18,19],tails:=[] }],[])
def spt25 : Tab (List LSpec×List Nat):=(.node (.node .leaf none (.node (.node .leaf none (.node .leaf (some vYi) .leaf)) none .leaf)) none (.node (.node .leaf none (.node (.node (.node (.node .leaf (some vYg) .leaf) none .leaf) none .leaf) none (.node .leaf (some vYh) .leaf))) none .leaf))
def spf25 (f : Nat) : List LSpec×List Nat:=(spt25.get f).getD ([],[])
theorem xZk : zW7 Try.prog cfg 25 yK5:=fnD spf25 (l:=[(23,zK5)]) zX2 zWa (.cons zY9 .nil) (fun d=>by kernel_rfl)
def zKx (d0 : ((Int)×((Int)×((Int)×((Int)×((Int)×((Int)×((Int)×((Int)×((Int)×(Unit))))))))))×(((List (List (List (Int))))×(Unit))×((Int)×((List (Int))×(List (List (Int))))))) : Option (Bool) :=
 Z.bind (zYs ()) fun (x1 : Bool) =>
 Z.join (σ:=Bool) (fun k2 =>
 Z.bind (zYe (d0.2.1.1,())) fun (x3 : Bool) =>
 (bif x3 then k2 true
 else (bif (Z.zQz false true (Z.igt (Z.ofN (Z.len d0.2.2.2.1)) 20)) then k2 true
 else Z.bind (zYr d0.2.2.2.2) fun (x4 : Bool) =>
 (bif (Z.zQz false true x4) then k2 true
 else k2 (Z.zQz false true (Z.bnot x1)))))) fun (j5 : Bool) =>
 (bif j5 then some x1
 else Z.bind (yQ6 ((d0.1.1,(d0.1.2.1,(d0.1.2.2.1,(d0.1.2.2.2.1,(d0.1.2.2.2.2.1,(d0.1.2.2.2.2.2.1,(d0.1.2.2.2.2.2.2.1,(d0.1.2.2.2.2.2.2.2.1,(d0.1.2.2.2.2.2.2.2.2.1,()))))))))),((d0.2.1.1,()),(d0.2.2.1,(d0.2.2.2.1,d0.2.2.2.2))))) fun (x6 : ((List (List (List (Int))))×(Unit))×((List ((Int)×((Int)×((Int)×((List (Int))×(Unit))))))×(Int))) =>
 Z.bind (yZt ((d0.1.1,(d0.1.2.1,(d0.1.2.2.1,(d0.1.2.2.2.1,(d0.1.2.2.2.2.1,(d0.1.2.2.2.2.2.1,(d0.1.2.2.2.2.2.2.1,(d0.1.2.2.2.2.2.2.2.1,(d0.1.2.2.2.2.2.2.2.2.1,()))))))))),((d0.2.1.1,()),(d0.2.2.1,d0.2.2.2.1)))) fun (x7 : (List (List (Int)))×((List ((Int)×((Int)×((Int)×((List (Int))×(Unit))))))×(Int))) =>
 Z.join (σ:=Bool) (fun k8 =>
 (bif (Z.ine x6.2.2 0) then k8 true
 else k8 (Z.zQz false true (Z.ine x7.2.2 0)))) fun (j9 : Bool) =>
 (bif j9 then Z.join (σ:=Bool) (fun k10 =>
 (bif x1 then (bif (Z.ine x6.2.2 0) then k10 (Z.zQz true true false)
 else k10 (Z.zQz true (Z.zQz false true (Z.ieq x7.2.2 0)) false))
 else k10 false)) fun (j11 : Bool) =>
 some j11
 else if (Z.Le (Z.addN 0 0) (Z.len ([] : List ((Int)×((Int)×((Int)×((List (Int))×(Unit)))))))) then if (Z.Big (Z.len (Z.seg ([] : List ((Int)×((Int)×((Int)×((List (Int))×(Unit)))))) 0 0)) (Z.len x7.2.1) 48) then none
 else Z.bnd (Z.app (Z.seg ([] : List ((Int)×((Int)×((Int)×((List (Int))×(Unit)))))) 0 0) x7.2.1) fun (x16 : List ((Int)×((Int)×((Int)×((List (Int))×(Unit)))))) =>
 if (Z.Big (Z.len x16) (Z.len x6.2.1) 48) then none
 else if (Z.EqN (Z.len x16) (Z.len x16)) then Z.bnd (Z.app x16 x6.2.1) fun (x21 : List ((Int)×((Int)×((Int)×((List (Int))×(Unit)))))) =>
 Z.bind (yWq ((d0.1.1,(d0.1.2.1,(d0.1.2.2.1,(d0.1.2.2.2.1,(d0.1.2.2.2.2.1,(d0.1.2.2.2.2.2.1,(d0.1.2.2.2.2.2.2.1,(d0.1.2.2.2.2.2.2.2.1,(d0.1.2.2.2.2.2.2.2.2.1,()))))))))),((d0.2.1.1,()),x21))) fun (x22 : ((List (List (List (Int))))×(Unit))×(Int)) =>
 Z.join (σ:=Bool) (fun k23 =>
 (bif (Z.ine (Z.ofN (Z.len x7.1)) (Z.ofN (Z.len d0.2.2.2.1))) then k23 true
 else (bif (Z.zQz false true (Z.ine (Z.ofN (Z.len x7.2.1)) (Z.ofN (Z.len d0.2.2.2.1)))) then k23 true
 else k23 (Z.zQz false true (Z.ine (Z.ofN (Z.len x6.2.1)) (Z.ofN (Z.len d0.2.2.2.1))))))) fun (j24 : Bool) =>
 (bif j24 then some false
 else Z.loop (fun (s25 : Int) k26 =>
 (bif (Z.ilt s25 (Z.ofN (Z.len d0.2.2.2.1))) then Z.join (σ:=Bool) (fun k27 =>
 if (Z.Ix s25 (Z.len x7.2.1)) then Z.bnd (Z.get x7.2.1 (Z.toN s25) (0,(0,(0,(([] : List (Int)),()))))) fun (x30 : (Int)×((Int)×((Int)×((List (Int))×(Unit))))) =>
 (bif (Z.ine x30.1 1) then k27 true
 else if (Z.Ix s25 (Z.len x6.2.1)) then Z.bnd (Z.get x6.2.1 (Z.toN s25) (0,(0,(0,(([] : List (Int)),()))))) fun (x33 : (Int)×((Int)×((Int)×((List (Int))×(Unit))))) =>
 (bif (Z.zQz false true (Z.ine x33.1 2)) then k27 true
 else if (Z.Ix s25 (Z.len x7.2.1)) then Z.bnd (Z.get x7.2.1 (Z.toN s25) (0,(0,(0,(([] : List (Int)),()))))) fun (x36 : (Int)×((Int)×((Int)×((List (Int))×(Unit))))) =>
 (bif (Z.zQz false true (Z.ine x36.2.1 d0.2.2.1)) then k27 true
 else if (Z.Ix s25 (Z.len x7.2.1)) then Z.bnd (Z.get x7.2.1 (Z.toN s25) (0,(0,(0,(([] : List (Int)),()))))) fun (x39 : (Int)×((Int)×((Int)×((List (Int))×(Unit))))) =>
 if (Z.Ix s25 (Z.len d0.2.2.2.1)) then Z.bnd (Z.get d0.2.2.2.1 (Z.toN s25) 0) fun (x42 : Int) =>
 (bif (Z.zQz false true (Z.ine x39.2.2.1 x42)) then k27 true
 else if (Z.Ix s25 (Z.len x7.2.1)) then Z.bnd (Z.get x7.2.1 (Z.toN s25) (0,(0,(0,(([] : List (Int)),()))))) fun (x45 : (Int)×((Int)×((Int)×((List (Int))×(Unit))))) =>
 if (Z.Ix s25 (Z.len x7.1)) then Z.bnd (Z.get x7.1 (Z.toN s25) ([] : List (Int))) fun (x48 : List (Int)) =>
 Z.bind (zKz (x45.2.2.2.1,x48)) fun (x49 : Bool) =>
 (bif (Z.zQz false true (Z.bnot x49)) then k27 true
 else if (Z.Ix s25 (Z.len x6.2.1)) then Z.bnd (Z.get x6.2.1 (Z.toN s25) (0,(0,(0,(([] : List (Int)),()))))) fun (x52 : (Int)×((Int)×((Int)×((List (Int))×(Unit))))) =>
 if (Z.Ix s25 (Z.len d0.2.2.2.2)) then Z.bnd (Z.get d0.2.2.2.2 (Z.toN s25) ([] : List (Int))) fun (x55 : List (Int)) =>
 Z.bind (zKz (x52.2.2.2.1,x55)) fun (x56 : Bool) =>
 k27 (Z.zQz false true (Z.bnot x56))
 else none
 else none)
 else none
 else none)
 else none
 else none)
 else none)
 else none)
 else none) fun (j57 : Bool) =>
 (bif j57 then some false
 else Z.bnd (Z.wrap .i64 (Z.add s25 1)) fun (x58 : Int) =>
 k26 x58)
 else Z.join (σ:=Bool) (fun k59 =>
 (bif x1 then (bif (Z.zQz true (Z.ieq x22.2 0) false) then Z.bind (yWg ((x6.1.1,()),(x22.1.1,()))) fun (x60 : Bool) =>
 k59 (Z.zQz true x60 false)
 else k59 false)
 else k59 false)) fun (j61 : Bool) =>
 some j61)) 0)
 else none
 else none))
def zZw : PFn:={ args:=[(.pair (.int .i64) (.pair (.int .i64) (.pair (.int .i64) (.pair (.int .i64) (.pair (.int .i64) (.pair (.int .i64) (.pair (.int .i64) (.pair (.int .i64) (.pair (.int .i64) .unit))))))))),(.pair (.list (.list (.list (.int .u8)))) .unit),(.int .i64),(.list (.int .i64)),(.list (.list (.int .u8)))],res:=[.bool],fn:=zKx }
def sp8_77 : List LSpec×List Nat:=([{ id:=5077000,known:=false,toks:=[],items:=[],junk:=[2],tails:=[] },{ id:=5077001,known:=true,toks:=[],items:=[.slot 2 (.val .bool)],junk:=[3,4,5,6,7,8,9,10,11,12,13,14],tails:=[] }],[])
def sp8_71 : List LSpec×List Nat:=([{ id:=5071000,known:=false,toks:=[],items:=[],junk:=[2],tails:=[] },{ id:=5071001,known:=true,toks:=[],items:=[.slot 8 (.val .bool)],junk:=[3,4,5,6,7],tails:=[] },{ id:=5071002,known:=false,toks:=[],items:=[],junk:=[2],tails:=[] },{ id:=5071003,known:=false,toks:=[],items:=[.slot 2 (.val (.int .i64))],junk:=[],tails:=[] },{ id:=5071004,known:=false,toks:=[],items:=[.slot 2 (.val (.int .i64))],junk:=[],tails:=[] }],[])
def sp8_81 : List LSpec×List Nat:=([{ id:=5081000,known:=false,toks:=[],items:=[],junk:=[2],tails:=[] },{ id:=5081001,known:=false,toks:=[],items:=[.slot 3 (.val (.int .i64))],junk:=[],tails:=[] },{ id:=8100,known:=false,toks:=[],items:=[],junk:=[],tails:=[] },{ id:=5081002,known:=false,toks:=[],items:=[.slot 4 (.val (.int .i64)), .slot 5 (.val (.int .i64))],junk:=[9,10,8,11,12],tails:=[] },{ id:=5081003,known:=true,toks:=[],items:=[.slot 19 (.val .bool)],junk:=[13,14,15,16,17,18],tails:=[] },{ id:=5081004,known:=false,toks:=[],items:=[],junk:=[20,2],tails:=[] },{ id:=5081005,known:=false,toks:=[],items:=[.slot 2 (.val (.int .i64))],junk:=[20],tails:=[] },{ id:=5081006,known:=false,toks:=[],items:=[.slot 3 (.val (.int .i64))],junk:=[6,7],tails:=[] }],[])
def sp8_78 : List LSpec×List Nat:=([{ id:=5078000,known:=false,toks:=[],items:=[],junk:=[4,5,6,7,8,9],tails:=[] },{ id:=7800,known:=false,toks:=[],items:=[],junk:=[],tails:=[] },{ id:=5078001,known:=true,toks:=[],items:=[.slot 18 (.val .bool)],junk:=[10,11,12,13,14,15,16,17],tails:=[] },{ id:=5078002,known:=false,toks:=[],items:=[],junk:=[],tails:=[] },{ id:=5078003,known:=false,toks:=[],items:=[],junk:=[19,20,21,22,23,24,25,26,27,28,29,30,31,32],tails:=[] }],[])
def sp8_36 : List LSpec×List Nat:=([{ id:=5036000,known:=false,toks:=[],items:=[],junk:=[4],tails:=[] },{ id:=5036001,known:=false,toks:=[],items:=[.slot 10 (.val .bool)],junk:=[9],tails:=[] },{ id:=5036002,known:=true,toks:=[],items:=[],junk:=[11],tails:=[] },{ id:=5036003,known:=false,toks:=[],items:=[],junk:=[11],tails:=[] },{ id:=5036004,known:=false,toks:=[],items:=[.slot 5 (.val (.int .u64)), .slot 6 (.val (.int .u64))],junk:=[13,14,15,16,17,18,12,19,20],tails:=[] },{ id:=5036005,known:=true,toks:=[],items:=[.slot 26 (.val .bool)],junk:=[21,22,23,24,25],tails:=[] },{ id:=5036006,known:=true,toks:=[],items:=[],junk:=[27],tails:=[] },{ id:=5036007,known:=false,toks:=[],items:=[],junk:=[27],tails:=[] },{ id:=5036008,known:=false,toks:=[],items:=[],junk:=[28,29,30],tails:=[] },{ id:=5036009,known:=false,toks:=[],items:=[.slot 8 (.val (.int .i64))],junk:=[31,32,33],tails:=[] },{ id:=3600,known:=false,toks:=[],items:=[],junk:=[],tails:=[] },{ id:=5036010,known:=false,toks:=[],items:=[.slot 37 (.val .bool)],junk:=[34,35,36],tails:=[] },{ id:=5036011,known:=false,toks:=[],items:=[],junk:=[],tails:=[] },{ id:=5036012,known:=false,toks:=[],items:=[.slot 8 (.val (.int .i64))],junk:=[38,39,40,41,42,43,44,45,46],tails:=[] },{ id:=5036013,known:=false,toks:=[],items:=[],junk:=[47],tails:=[] }],[])
def sp8_64 : List LSpec×List Nat:=([{ id:=5064000,known:=false,toks:=[],items:=[],junk:=[6],tails:=[] },{ id:=5064001,known:=true,toks:=[],items:=[.slot 6 (.val .bool)],junk:=[7,8,9,10,11,12,13,14,15,16,17,18],tails:=[] }],[])
def sp8_38 : List LSpec×List Nat:=([{ id:=5038000,known:=false,toks:=[],items:=[],junk:=[6],tails:=[] },{ id:=5038001,known:=true,toks:=[],items:=[.slot 15 (.val .bool)],junk:=[7,8,9,10,11,12,13,14],tails:=[] },{ id:=5038002,known:=false,toks:=[],items:=[],junk:=[6],tails:=[] },{ id:=5038003,known:=false,toks:=[],items:=[.slot 6 (.val .bool)],junk:=[],tails:=[] },{ id:=5038004,known:=false,toks:=[],items:=[.slot 6 (.val .bool)],junk:=[16,17,18,19],tails:=[] }],[])
def sp8_68 : List LSpec×List Nat:=([{ id:=5068000,known:=false,toks:=[],items:=[],junk:=[4],tails:=[] },{ id:=5068001,known:=false,toks:=[],items:=[.slot 6 (.val .bool)],junk:=[5],tails:=[] },{ id:=5068002,known:=true,toks:=[],items:=[],junk:=[7],tails:=[] },{ id:=5068003,known:=false,toks:=[],items:=[],junk:=[7],tails:=[] },{ id:=5068004,known:=false,toks:=[],items:=[.slot 1 (.val (.int .i64))],junk:=[8,9,10,11,12,13,14],tails:=[] },{ id:=5068005,known:=false,toks:=[],items:=[.slot 16 (.val .bool)],junk:=[15],tails:=[] },{ id:=5068006,known:=false,toks:=[],items:=[],junk:=[17,18,19,20,21,22,23,24,25],tails:=[] },{ id:=5068007,known:=false,toks:=[],items:=[],junk:=[17,18,19,20,21,22,23,24,25],tails:=[] },{ id:=5068008,known:=false,toks:=[],items:=[],junk:=[26],tails:=[] }],[5])
def sp8_53 : List LSpec×List Nat:=([{ id:=5053000,known:=false,toks:=[],items:=[],junk:=[2],tails:=[] },{ id:=5053001,known:=false,toks:=[],items:=[.slot 3 (.val (.int .i64))],junk:=[],tails:=[] },{ id:=5053002,known:=false,toks:=[],items:=[.slot 10 (.val (.int .i64)), .slot 11 (.val (.int .i64))],junk:=[],tails:=[] },{ id:=5300,known:=false,toks:=[],items:=[],junk:=[],tails:=[] },{ id:=5053003,known:=false,toks:=[],items:=[],junk:=[],tails:=[] },{ id:=5053004,known:=false,toks:=[],items:=[],junk:=[],tails:=[] },{ id:=5053005,known:=false,toks:=[],items:=[],junk:=[13,14],tails:=[] },{ id:=5053006,known:=false,toks:=[],items:=[.slot 3 (.val (.int .i64))],junk:=[15,16,17,18],tails:=[] },{ id:=5053007,known:=false,toks:=[],items:=[.slot 20 (.val .bool)],junk:=[19],tails:=[] },{ id:=5053008,known:=true,toks:=[],items:=[],junk:=[21],tails:=[] },{ id:=5053009,known:=false,toks:=[],items:=[],junk:=[21],tails:=[] },{ id:=5053010,known:=false,toks:=[],items:=[.slot 11 (.val (.int .i64))],junk:=[22],tails:=[] },{ id:=5053011,known:=false,toks:=[],items:=[],junk:=[23,24],tails:=[] },{ id:=5053012,known:=false,toks:=[],items:=[.slot 26 (.val (.int .i64)), .slot 27 (.val (.int .i64))],junk:=[],tails:=[] },{ id:=5301,known:=false,toks:=[],items:=[],junk:=[],tails:=[] },{ id:=5053013,known:=false,toks:=[],items:=[],junk:=[],tails:=[] },{ id:=5053014,known:=false,toks:=[],items:=[],junk:=[],tails:=[] },{ id:=5053015,known:=false,toks:=[],items:=[],junk:=[29,30],tails:=[] },{ id:=5053016,known:=false,toks:=[],items:=[],junk:=[31,32,33],tails:=[] },{ id:=5053017,known:=false,toks:=[],items:=[.slot 27 (.val (.int .i64))],junk:=[34],tails:=[] },{ id:=5053018,known:=false,toks:=[],items:=[],junk:=[35],tails:=[] }],[])
def sp8_28 : List LSpec×List Nat:=([{ id:=2800,known:=true,toks:=[(9000000,(.int .u8)),(9000000,(.mix 900000001 (.int .u8))),(7005000,(.mix 900000001 (.mix 900000002 (.int .u8))))],items:=[.slot 18 (.val (.int .i64)), .cells 1000004 [.val (.mix 2005000 (.mix 12005000 (.mix 22005000 (.int .u8))))], .rows 2005000 (.mix 12005000 (.mix 22005000 (.int .u8))), .rows 22005000 (.int .u8), .rows 12005000 (.mix 22005000 (.int .u8))],junk:=[19,20,21,22,5,6,23,24,25,26,27,28,29,30,31,32,33,34,35],tails:=[] }],[4000000001])
def sp8_12 : List LSpec×List Nat:=([{ id:=5012000,known:=false,toks:=[],items:=[],junk:=[12],tails:=[] },{ id:=5012001,known:=false,toks:=[],items:=[.slot 13 (.val (.int .i64))],junk:=[19,20,21],tails:=[] },{ id:=5012002,known:=false,toks:=[],items:=[.slot 23 (.val .bool)],junk:=[22],tails:=[] },{ id:=5012003,known:=false,toks:=[],items:=[],junk:=[24,25,12],tails:=[] },{ id:=5012004,known:=false,toks:=[],items:=[.slot 12 (.val (.int .i64))],junk:=[24,25],tails:=[] },{ id:=5012005,known:=true,toks:=[],items:=[.slot 37 (.val .bool)],junk:=[26,27,28,29,30,31,32,33,34,35,36],tails:=[] },{ id:=5012006,known:=false,toks:=[],items:=[],junk:=[38,12],tails:=[] },{ id:=5012007,known:=false,toks:=[],items:=[.slot 12 (.val (.int .i64))],junk:=[38],tails:=[] },{ id:=5012008,known:=false,toks:=[],items:=[.slot 40 (.val (.int .i64)), .slot 41 (.val (.int .i64))],junk:=[],tails:=[] },{ id:=1200,known:=false,toks:=[],items:=[],junk:=[],tails:=[] },{ id:=5012009,known:=false,toks:=[],items:=[],junk:=[],tails:=[] },{ id:=5012010,known:=false,toks:=[],items:=[],junk:=[],tails:=[] },{ id:=5012011,known:=false,toks:=[],items:=[.slot 14 (.val (.int .i64)), .slot 15 (.val (.int .i64))],junk:=[43,44,45],tails:=[] },{ id:=5012012,known:=false,toks:=[],items:=[.slot 61 (.val .bool)],junk:=[46,47,48,49,50,51,52,53,54,55,56,57,58,59,60],tails:=[] },{ id:=5012013,known:=false,toks:=[],items:=[],junk:=[62,12],tails:=[] },{ id:=5012014,known:=false,toks:=[],items:=[.slot 12 (.val (.int .i64))],junk:=[62],tails:=[] },{ id:=5012015,known:=false,toks:=[],items:=[.slot 41 (.val (.int .i64))],junk:=[63],tails:=[] },{ id:=5012016,known:=false,toks:=[],items:=[],junk:=[64,65],tails:=[] },{ id:=5012017,known:=false,toks:=[],items:=[],junk:=[66],tails:=[] },{ id:=5012018,known:=false,toks:=[],items:=[.slot 68 (.val (.int .i64)), .slot 69 (.val (.int .i64))],junk:=[],tails:=[] },{ id:=1201,known:=false,toks:=[],items:=[],junk:=[],tails:=[] },{ id:=5012019,known:=false,toks:=[],items:=[],junk:=[],tails:=[] },{ id:=5012020,known:=false,toks:=[],items:=[],junk:=[],tails:=[] },{ id:=5012021,known:=false,toks:=[],items:=[.slot 17 (.val (.int .i64)), .slot 18 (.val (.int .i64))],junk:=[71,72,73],tails:=[] },{ id:=5012022,known:=false,toks:=[],items:=[],junk:=[74,75,76,77,78,79,80],tails:=[] },{ id:=5012023,known:=false,toks:=[],items:=[.slot 69 (.val (.int .i64))],junk:=[81],tails:=[] },{ id:=5012024,known:=false,toks:=[],items:=[.slot 12 (.val (.int .i64))],junk:=[82,83],tails:=[] }],[])
def sp8_15 : List LSpec×List Nat:=([{ id:=5015000,known:=false,toks:=[],items:=[],junk:=[0],tails:=[] },{ id:=5015001,known:=false,toks:=[],items:=[.slot 2 (.val (.int .i64))],junk:=[10,11,9,12,13],tails:=[] },{ id:=5015002,known:=false,toks:=[],items:=[.slot 5 (.val (.int .i64))],junk:=[15,16,17,18,19,20,21,14,22,23,24],tails:=[] },{ id:=5015003,known:=false,toks:=[],items:=[.slot 8 (.val (.int .i64))],junk:=[26,27,28,29,25,30,31,32],tails:=[] },{ id:=5015004,known:=true,toks:=[],items:=[.slot 0 (.val .bool)],junk:=[33,34,35,36,37,38,39,40,41,42,43,44,45,46,47,48,49,50,51,52,53,54,55,56,57,58,59,60,61,62,63,64,65,66,67,68,69,70,71,72,73,74,75,76,77,78,79,80,81,82,83],tails:=[] }],[])
def sp8_17 : List LSpec×List Nat:=([{ id:=5017000,known:=false,toks:=[],items:=[],junk:=[2],tails:=[] },{ id:=5017001,known:=false,toks:=[],items:=[.slot 3 (.val (.int .i64))],junk:=[],tails:=[] },{ id:=5017002,known:=false,toks:=[],items:=[.slot 4 (.val (.int .i64))],junk:=[],tails:=[] },{ id:=1700,known:=false,toks:=[],items:=[],junk:=[],tails:=[] },{ id:=5017003,known:=true,toks:=[],items:=[.slot 14 (.val .bool)],junk:=[6,7,8,9,10,11,12,13],tails:=[] },{ id:=5017004,known:=false,toks:=[],items:=[],junk:=[],tails:=[] },{ id:=5017005,known:=false,toks:=[],items:=[.slot 5 (.val (.int .i64))],junk:=[],tails:=[] },{ id:=1701,known:=false,toks:=[],items:=[],junk:=[],tails:=[] },{ id:=5017006,known:=true,toks:=[],items:=[.slot 28 (.val .bool)],junk:=[17,18,19,20,21,22,23,24,25,26,27],tails:=[] },{ id:=5017007,known:=false,toks:=[],items:=[],junk:=[],tails:=[] },{ id:=5017008,known:=false,toks:=[],items:=[.slot 3 (.val (.int .i64))],junk:=[31,32,33,34,35,36,37,38,39,40,41,42],tails:=[] },{ id:=5017009,known:=false,toks:=[],items:=[.slot 5 (.val (.int .i64))],junk:=[29,30],tails:=[] },{ id:=5017010,known:=false,toks:=[],items:=[.slot 49 (.val .bool)],junk:=[43,44,45,46,47,48],tails:=[] },{ id:=5017011,known:=false,toks:=[],items:=[],junk:=[2],tails:=[] },{ id:=5017012,known:=false,toks:=[],items:=[.slot 2 (.val .bool)],junk:=[],tails:=[] },{ id:=5017013,known:=false,toks:=[],items:=[.slot 4 (.val (.int .i64))],junk:=[15,16],tails:=[] },{ id:=5017014,known:=true,toks:=[],items:=[.slot 2 (.val .bool)],junk:=[50,51,52,53,54,55,56,57],tails:=[] }],[])
def sp8_18 : List LSpec×List Nat:=([{ id:=5018000,known:=false,toks:=[],items:=[],junk:=[2],tails:=[] },{ id:=5018001,known:=false,toks:=[],items:=[.slot 3 (.val (.int .i64))],junk:=[],tails:=[] },{ id:=1800,known:=false,toks:=[],items:=[],junk:=[],tails:=[] },{ id:=5018002,known:=true,toks:=[],items:=[.slot 11 (.val .bool)],junk:=[4,5,6,7,8,9,10],tails:=[] },{ id:=5018003,known:=false,toks:=[],items:=[],junk:=[],tails:=[] },{ id:=5018004,known:=false,toks:=[],items:=[.slot 19 (.val .bool)],junk:=[14,15,16,17,18],tails:=[] },{ id:=5018005,known:=false,toks:=[],items:=[],junk:=[2],tails:=[] },{ id:=5018006,known:=false,toks:=[],items:=[.slot 2 (.val .bool)],junk:=[],tails:=[] },{ id:=5018007,known:=false,toks:=[],items:=[.slot 3 (.val (.int .i64))],junk:=[12,13],tails:=[] },{ id:=5018008,known:=false,toks:=[],items:=[.slot 2 (.val .bool)],junk:=[20,21,22],tails:=[] }],[])
def sp8_43 : List LSpec×List Nat:=([{ id:=5043000,known:=false,toks:=[],items:=[],junk:=[4],tails:=[] },{ id:=5043001,known:=true,toks:=[],items:=[.slot 22 (.val .bool)],junk:=[5,6,7,8,9,10,11,12,13,14,15,16,17,18,19,20,21],tails:=[] },{ id:=5043002,known:=false,toks:=[],items:=[],junk:=[4],tails:=[] },{ id:=5043003,known:=false,toks:=[],items:=[.slot 4 (.val .bool)],junk:=[],tails:=[] },{ id:=5043004,known:=false,toks:=[],items:=[.slot 4 (.val .bool)],junk:=[23,24,25,26,27,28,29,30,31,32,33,34,35,36,37,38],tails:=[] }],[])
def sp8_14 : List LSpec×List Nat:=([{ id:=5014000,known:=false,toks:=[],items:=[],junk:=[7],tails:=[] },{ id:=5014001,known:=false,toks:=[],items:=[.slot 8 (.val (.int .i64))],junk:=[14,15,16],tails:=[] },{ id:=5014002,known:=false,toks:=[],items:=[.slot 18 (.val .bool)],junk:=[17],tails:=[] },{ id:=5014003,known:=false,toks:=[],items:=[],junk:=[19,20,7],tails:=[] },{ id:=5014004,known:=false,toks:=[],items:=[.slot 7 (.val (.int .i64))],junk:=[19,20],tails:=[] },{ id:=5014005,known:=false,toks:=[],items:=[.slot 22 (.val (.int .i64)), .slot 23 (.val (.int .i64))],junk:=[],tails:=[] },{ id:=1400,known:=false,toks:=[],items:=[],junk:=[],tails:=[] },{ id:=5014006,known:=false,toks:=[],items:=[],junk:=[],tails:=[] },{ id:=5014007,known:=false,toks:=[],items:=[],junk:=[],tails:=[] },{ id:=5014008,known:=false,toks:=[],items:=[],junk:=[25,26],tails:=[] },{ id:=5014009,known:=false,toks:=[],items:=[.slot 30 (.val .bool)],junk:=[27,28,29],tails:=[] },{ id:=5014010,known:=false,toks:=[],items:=[],junk:=[31,7],tails:=[] },{ id:=5014011,known:=false,toks:=[],items:=[.slot 7 (.val (.int .i64))],junk:=[31],tails:=[] },{ id:=5014012,known:=false,toks:=[],items:=[.slot 23 (.val (.int .i64))],junk:=[32],tails:=[] },{ id:=5014013,known:=false,toks:=[],items:=[],junk:=[33,34],tails:=[] },{ id:=5014014,known:=false,toks:=[],items:=[.slot 36 (.val (.int .i64)), .slot 37 (.val (.int .i64))],junk:=[],tails:=[] },{ id:=1401,known:=false,toks:=[],items:=[],junk:=[],tails:=[] },{ id:=5014015,known:=false,toks:=[],items:=[],junk:=[],tails:=[] },{ id:=5014016,known:=false,toks:=[],items:=[],junk:=[],tails:=[] },{ id:=5014017,known:=false,toks:=[],items:=[],junk:=[39,40],tails:=[] },{ id:=5014018,known:=false,toks:=[],items:=[.slot 43 (.val .bool)],junk:=[41,42],tails:=[] },{ id:=5014019,known:=true,toks:=[],items:=[],junk:=[44,45,46,47,48,49,50,51],tails:=[] },{ id:=5014020,known:=false,toks:=[],items:=[],junk:=[44,45,46,47,48,49,50,51],tails:=[] },{ id:=5014021,known:=false,toks:=[],items:=[.slot 37 (.val (.int .i64))],junk:=[52],tails:=[] },{ id:=5014022,known:=false,toks:=[],items:=[.slot 7 (.val (.int .i64))],junk:=[53],tails:=[] }],[])
def sp8_8 : List LSpec×List Nat:=([{ id:=5008000,known:=false,toks:=[],items:=[],junk:=[10],tails:=[] },{ id:=5008001,known:=false,toks:=[],items:=[.slot 11 (.val .bool)],junk:=[21],tails:=[] },{ id:=5008002,known:=true,toks:=[],items:=[.slot 36 (.val .bool)],junk:=[22,23,24,25,26,27,28,29,30,31,32,33,34,35],tails:=[] },{ id:=5008003,known:=false,toks:=[],items:=[],junk:=[37,10],tails:=[] },{ id:=5008004,known:=false,toks:=[],items:=[.slot 10 (.val .bool)],junk:=[37],tails:=[] },{ id:=5008005,known:=false,toks:=[],items:=[.slot 14 (.val (.int .i64))],junk:=[39,40,41,42,43,44,38,45,46,47],tails:=[] },{ id:=5008006,known:=false,toks:=[],items:=[.slot 17 (.val (.int .i64))],junk:=[49,50,51,52,53,48,54,55,56],tails:=[] },{ id:=5008007,known:=true,toks:=[],items:=[.slot 62 (.val .bool)],junk:=[57,58,59,60,61],tails:=[] },{ id:=5008008,known:=false,toks:=[],items:=[],junk:=[63,64,65,66,67,68,69,70,71,10],tails:=[] },{ id:=5008009,known:=true,toks:=[],items:=[.slot 10 (.val .bool)],junk:=[63,64,65,66,67,68,69,70,71],tails:=[] },{ id:=5008010,known:=false,toks:=[],items:=[.slot 19 (.val (.int .i64))],junk:=[73,74,75,76,77,78,79,80,72,81,82],tails:=[] },{ id:=5008011,known:=true,toks:=[],items:=[.slot 101 (.val .bool)],junk:=[83,84,85,86,87,88,89,90,91,92,93,94,95,96,97,98,99,100],tails:=[] },{ id:=5008012,known:=false,toks:=[],items:=[],junk:=[10],tails:=[] },{ id:=5008013,known:=false,toks:=[],items:=[.slot 10 (.val .bool)],junk:=[],tails:=[] },{ id:=5008014,known:=false,toks:=[],items:=[.slot 20 (.val (.int .i64))],junk:=[],tails:=[] },{ id:=800,known:=true,toks:=[],items:=[.slot 20 (.val (.int .i64))],junk:=[102,103,104,105,108,109,110,111,112,113,114,115,116,117,118,119,120,121,122,123,124,125,126,127,128,129,130,131,132,133,134,135,136,137,138,139,140,141,142,143,144,145,146,147,148,149,150,151,152,153,154,155,156,157,158,159,160,161,162,163,164,165,166,167,168,10,106,107],tails:=[] },{ id:=5008015,known:=false,toks:=[],items:=[.slot 105 (.val .bool)],junk:=[102,103,104],tails:=[] },{ id:=5008016,known:=false,toks:=[],items:=[],junk:=[],tails:=[] },{ id:=5008017,known:=true,toks:=[],items:=[.slot 168 (.val .bool)],junk:=[108,109,110,111,112,113,114,115,116,117,118,119,120,121,122,123,124,125,126,127,128,129,130,131,132,133,134,135,136,137,138,139,140,141,142,143,144,145,146,147,148,149,150,151,152,153,154,155,156,157,158,159,160,161,162,163,164,165,166,167],tails:=[] },{ id:=5008018,known:=false,toks:=[],items:=[],junk:=[10],tails:=[] },{ id:=5008019,known:=false,toks:=[],items:=[.slot 10 (.val .bool)],junk:=[],tails:=[] },{ id:=5008020,known:=false,toks:=[],items:=[.slot 20 (.val (.int .i64))],junk:=[106,107],tails:=[] },{ id:=5008021,known:=true,toks:=[],items:=[.slot 10 (.val .bool)],junk:=[169,170,171,172,173,174,175,176,177,178],tails:=[] }],[])
def spt8 : Tab (List LSpec×List Nat):=(.node (.node (.node (.node (.node .leaf (some sp8_15) .leaf) none (.node (.node (.node .leaf (some sp8_71) .leaf) none .leaf) none .leaf)) none (.node .leaf none (.node (.node .leaf (some sp8_43) .leaf) none .leaf))) none (.node (.node (.node .leaf (some sp8_17) (.node (.node .leaf (some sp8_81) .leaf) none .leaf)) none .leaf) none (.node (.node .leaf none (.node .leaf (some sp8_53) .leaf)) none (.node (.node (.node .leaf (some sp8_77) .leaf) none .leaf) none .leaf)))) none (.node (.node (.node (.node (.node (.node .leaf (some sp8_64) .leaf) none .leaf) none .leaf) (some sp8_8) .leaf) none (.node (.node (.node (.node .leaf (some sp8_68) .leaf) (some sp8_36) .leaf) none .leaf) (some sp8_12) (.node .leaf (some sp8_28) .leaf))) none (.node (.node (.node .leaf (some sp8_18) .leaf) none .leaf) none (.node (.node (.node .leaf (some sp8_38) .leaf) none .leaf) (some sp8_14) (.node (.node (.node .leaf (some sp8_78) .leaf) none .leaf) none .leaf)))))
def spf8 (f : Nat) : List LSpec×List Nat:=(spt8.get f).getD ([],[])
theorem yJo : zW7 Try.prog cfg 8 zZw:=fnD spf8 (l:=[(15,yX8),(17,yX5),(18,yX6),(12,yXf),(11,yKb),(14,yK8),(34,yQj),(25,yK5)]) zX2 zWa (.cons xWd (.cons xWa (.cons xWb (.cons yK4 (.cons yYs (.cons xZn (.cons yX1 (.cons xZk .nil)))))))) (fun d=>by kernel_rfl)
end
end Go.Proofs.Ytnbmjkbbppcbcaa
