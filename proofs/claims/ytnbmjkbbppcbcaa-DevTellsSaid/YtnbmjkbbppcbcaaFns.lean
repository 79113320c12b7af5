/- The functions of the program, as functions on plain data. -/
import Derived.Test.YtnbmjkbbppcbcaaCfg
import Derived.Test.YtnbmjkbbppcbcaaM6
import Derived.ProofKit
import Derived.Test.YtnbmjkbbppcbcaaConfS
namespace Go.Proofs.Ytnbmjkbbppcbcaa
open Go.Eng
noncomputable section
set_option linter.unusedVariables false
set_option maxRecDepth 100000
def zK4 (d0 : (List (List (List (Int))))×(Unit)) : Option (Bool) :=
 Z.loop (fun (s1 : (Int)×(Int)) k2 =>
 (bif (Z.ilt s1.2 (Z.ofN (Z.len d0.1))) then (bif (Z.zWw true (Z.ilt s1.2 10) false) then Z.loop (fun (s3 : (Int)×(Int)) k4 =>
 if (Z.Ix s1.2 (Z.len d0.1)) then Z.bnd (Z.get d0.1 (Z.toN s1.2) ([] : List (List (Int)))) fun (x7 : List (List (Int))) =>
 (bif (Z.ilt s3.2 (Z.ofN (Z.len x7))) then (bif (Z.zWw true (Z.ilt s3.2 200) false) then if (Z.Ix s1.2 (Z.len d0.1)) then Z.bnd (Z.get d0.1 (Z.toN s1.2) ([] : List (List (Int)))) fun (x10 : List (List (Int))) =>
 if (Z.Ix s3.2 (Z.len x10)) then Z.bnd (Z.get x10 (Z.toN s3.2) ([] : List (Int))) fun (x13 : List (Int)) =>
 Z.bnd (Z.wrap .i64 (Z.add s3.1 (Z.imax false (Z.ofN (Z.len x13)) 100000))) fun (x14 : Int) =>
 Z.bnd (Z.wrap .i64 (Z.add s3.2 1)) fun (x15 : Int) =>
 k4 (x14,x15)
 else none
 else none
 else if (Z.Ix s1.2 (Z.len d0.1)) then Z.bnd (Z.get d0.1 (Z.toN s1.2) ([] : List (List (Int)))) fun (x18 : List (List (Int))) =>
 (bif (Z.igt (Z.ofN (Z.len x18)) 150) then some true
 else Z.bnd (Z.wrap .i64 (Z.add s1.2 1)) fun (x19 : Int) =>
 k2 (s3.1,x19))
 else none)
 else if (Z.Ix s1.2 (Z.len d0.1)) then Z.bnd (Z.get d0.1 (Z.toN s1.2) ([] : List (List (Int)))) fun (x22 : List (List (Int))) =>
 (bif (Z.igt (Z.ofN (Z.len x22)) 150) then some true
 else Z.bnd (Z.wrap .i64 (Z.add s1.2 1)) fun (x23 : Int) =>
 k2 (s3.1,x23))
 else none)
 else none) (s1.1,0)
 else (bif (Z.igt (Z.ofN (Z.len d0.1)) 6) then some true
 else some (Z.zWw false true (Z.igt s1.1 40000))))
 else (bif (Z.igt (Z.ofN (Z.len d0.1)) 6) then some true
 else some (Z.zWw false true (Z.igt s1.1 40000))))) (0,0)
def yX5 : PFn:={ args:=[(.pair (.list (.list (.list (.int .u8)))) .unit)],res:=[.bool],fn:=zK4 }
def vY8 : List LSpec×List Nat:=([{ id:=1700,known:=true,toks:=[],items:=[.slot 3 (.val (.int .i64)), .slot 4 (.val (.int .i64))],junk:=[6,7,8,9,10,11,12,13,14,5,17,18,19,20,21,22,23,24,25,26,27,28,31,32,33,34,35,36,37,38,39,40,41,42,29,30,43,44,45,46,47,48,49,2,15,16],tails:=[] },{ id:=1701,known:=true,toks:=[],items:=[.slot 3 (.val (.int .i64)), .slot 5 (.val (.int .i64))],junk:=[17,18,19,20,21,22,23,24,25,26,27,28,31,32,33,34,35,36,37,38,39,40,41,42,29,30],tails:=[] }],[])
def vY6 : List LSpec×List Nat:=([],[5])
def vY7 : List LSpec×List Nat:=([{ id:=2800,known:=true,toks:=[(9000000,(.int .u8)),(9000000,(.mix 900000001 (.int .u8))),(7005000,(.mix 900000001 (.mix 900000002 (.int .u8))))],items:=[.slot 18 (.val (.int .i64)), .cells 1000004 [.val (.mix 2005000 (.mix 12005000 (.mix 22005000 (.int .u8))))], .rows 2005000 (.mix 12005000 (.mix 22005000 (.int .u8))), .rows 22005000 (.int .u8), .rows 12005000 (.mix 22005000 (.int .u8))],junk:=[19,20,21,22,5,6,23,24,25,26,27,28,29,30,31,32,33,34,35],tails:=[] }],[4000000001])
def spt17 : Tab (List LSpec×List Nat):=(.node (.node .leaf none (.node (.node (.node .leaf (some vY8) .leaf) none .leaf) none .leaf)) none (.node (.node .leaf none (.node (.node (.node (.node .leaf (some vY6) .leaf) none .leaf) none .leaf) none (.node .leaf (some vY7) .leaf))) none .leaf))
def spf17 (f : Nat) : List LSpec×List Nat:=(spt17.get f).getD ([],[])
theorem xQ5 : zWx Try.prog cfg 17 yX5:=fnD spf17 (l:=[]) zXl zQ1 .nil (fun d=>by kernel_rfl)
def zKv (d0 : List (List (Int))) : Option (List (List (Int))) :=
 if (Z.EqN 0 (Z.len ([] : List (List (Int))))) then Z.loop (fun (s3 : (List (List (Int)))×(Int)) k4 =>
 (bif (Z.ilt s3.2 (Z.ofN (Z.len d0))) then if (Z.Ix s3.2 (Z.len d0)) then Z.bnd (Z.get d0 (Z.toN s3.2) ([] : List (Int))) fun (x7 : List (Int)) =>
 if (Z.Le (Z.addN 0 0) (Z.len ([] : List (Int)))) then if (Z.Big (Z.len (Z.seg ([] : List (Int)) 0 0)) (Z.len x7) 1) then none
 else Z.bnd (Z.app (Z.seg ([] : List (Int)) 0 0) x7) fun (x12 : List (Int)) =>
 if (Z.Le (Z.addN 0 1) (Z.len (x12::([] : List (List (Int)))))) then if (Z.Big (Z.len s3.1) (Z.len (Z.seg (x12::([] : List (List (Int)))) 0 1)) 24) then none
 else if (Z.EqN (Z.len s3.1) (Z.len s3.1)) then Z.bnd (Z.app s3.1 (Z.seg (x12::([] : List (List (Int)))) 0 1)) fun (x19 : List (List (Int))) =>
 Z.bnd (Z.wrap .i64 (Z.add s3.2 1)) fun (x20 : Int) =>
 if (Z.EqN (Z.len x19) (Z.len x19)) then k4 (x19,x20)
 else none
 else none
 else none
 else none
 else none
 else some s3.1)) (([] : List (List (Int))),0)
 else none
def yQd : PFn:={ args:=[(.list (.list (.int .u8)))],res:=[(.list (.list (.int .u8)))],fn:=zKv }
def vY2 : List LSpec×List Nat:=([{ id:=2000,known:=true,toks:=[(3,(.list (.int .u8)))],items:=[.slot 3 (.slt (.list (.int .u8)) (some 1000003) false), .slot 4 (.val (.int .i64))],junk:=[5,6,7,8,11,12,13,14,15,16,17,18,19,9,10],tails:=[(1000003,3)] }],[])
def vY0 : List LSpec×List Nat:=([],[5])
def vY1 : List LSpec×List Nat:=([{ id:=2800,known:=true,toks:=[(9000000,(.int .u8)),(9000000,(.mix 900000001 (.int .u8))),(7005000,(.mix 900000001 (.mix 900000002 (.int .u8))))],items:=[.slot 18 (.val (.int .i64)), .cells 1000004 [.val (.mix 2005000 (.mix 12005000 (.mix 22005000 (.int .u8))))], .rows 2005000 (.mix 12005000 (.mix 22005000 (.int .u8))), .rows 22005000 (.int .u8), .rows 12005000 (.mix 22005000 (.int .u8))],junk:=[19,20,21,22,5,6,23,24,25,26,27,28,29,30,31,32,33,34,35],tails:=[] }],[4000000001])
def spt20 : Tab (List LSpec×List Nat):=(.node .leaf none (.node (.node .leaf none (.node (.node (.node (.node .leaf (some vY0) .leaf) none .leaf) (some vY2) .leaf) none (.node .leaf (some vY1) .leaf))) none .leaf))
def spf20 (f : Nat) : List LSpec×List Nat:=(spt20.get f).getD ([],[])
theorem yJk : zWx Try.prog cfg 20 yQd:=fnD spf20 (l:=[]) zXl zQ1 .nil (fun d=>by kernel_rfl)
def yWc (d0 : (List (List (List (Int))))×(Unit)) : Option ((List (List (List (Int))))×(Unit)) :=
 if (Z.EqN 0 (Z.len ([] : List (List (List (Int)))))) then Z.loop (fun (s3 : (Int)×(List (List (List (Int))))) k4 =>
 (bif (Z.ilt s3.1 (Z.ofN (Z.len d0.1))) then if (Z.Ix s3.1 (Z.len d0.1)) then Z.bnd (Z.get d0.1 (Z.toN s3.1) ([] : List (List (Int)))) fun (x7 : List (List (Int))) =>
 Z.bind (zKv x7) fun (x8 : List (List (Int))) =>
 if (Z.Le (Z.addN 0 1) (Z.len (x8::([] : List (List (List (Int))))))) then if (Z.Big (Z.len s3.2) (Z.len (Z.seg (x8::([] : List (List (List (Int))))) 0 1)) 24) then none
 else if (Z.EqN (Z.len s3.2) (Z.len s3.2)) then Z.bnd (Z.app s3.2 (Z.seg (x8::([] : List (List (List (Int))))) 0 1)) fun (x15 : List (List (List (Int)))) =>
 Z.bnd (Z.wrap .i64 (Z.add s3.1 1)) fun (x16 : Int) =>
 if (Z.EqN (Z.len x15) (Z.len x15)) then k4 (x16,x15)
 else none
 else none
 else none
 else none
 else some (s3.2,()))) (0,([] : List (List (List (Int)))))
 else none
def yK0 : PFn:={ args:=[(.pair (.list (.list (.list (.int .u8)))) .unit)],res:=[(.pair (.list (.list (.list (.int .u8)))) .unit)],fn:=yWc }
def vY5 : List LSpec×List Nat:=([{ id:=1900,known:=true,toks:=[(2002000,(.list (.list (.int .u8))))],items:=[.slot 4 (.val (.int .i64)), .cells 1000003 [.slt (.list (.list (.int .u8))) (some 2002000) false]],junk:=[5,6,7,8,9,12,13,14,15,16,17,18,19,20,21,22,10,11],tails:=[(2002000,2002000)] }],[])
def vY3 : List LSpec×List Nat:=([],[5])
def vY4 : List LSpec×List Nat:=([{ id:=2800,known:=true,toks:=[(9000000,(.int .u8)),(9000000,(.mix 900000001 (.int .u8))),(7005000,(.mix 900000001 (.mix 900000002 (.int .u8))))],items:=[.slot 18 (.val (.int .i64)), .cells 1000004 [.val (.mix 2005000 (.mix 12005000 (.mix 22005000 (.int .u8))))], .rows 2005000 (.mix 12005000 (.mix 22005000 (.int .u8))), .rows 22005000 (.int .u8), .rows 12005000 (.mix 22005000 (.int .u8))],junk:=[19,20,21,22,5,6,23,24,25,26,27,28,29,30,31,32,33,34,35],tails:=[] }],[4000000001])
def spt19 : Tab (List LSpec×List Nat):=(.node (.node (.node .leaf none (.node (.node .leaf (some vY5) .leaf) none .leaf)) none .leaf) none (.node (.node .leaf none (.node (.node (.node (.node .leaf (some vY3) .leaf) none .leaf) none .leaf) none (.node .leaf (some vY4) .leaf))) none .leaf))
def spf19 (f : Nat) : List LSpec×List Nat:=(spt19.get f).getD ([],[])
theorem xZd : zWx Try.prog cfg 19 yK0:=fnD spf19 (l:=[(20,yQd)]) zXl zQ1 (.cons yJk .nil) (fun d=>by kernel_rfl)
def zXf (d0 : (Int)×((Int)×((Int)×(Unit)))) : Option (Bool) :=
 (bif (Z.ile d0.2.1 d0.1) then some (Z.zWw true (Z.ile d0.1 d0.2.2.1) false)
 else some false)
def zZ1 : PFn:={ args:=[(.pair (.int .i64) (.pair (.int .i64) (.pair (.int .i64) .unit)))],res:=[.bool],fn:=zXf }
def vK2 : List LSpec×List Nat:=([],[5])
def vK3 : List LSpec×List Nat:=([{ id:=2800,known:=true,toks:=[(9000000,(.int .u8)),(9000000,(.mix 900000001 (.int .u8))),(7005000,(.mix 900000001 (.mix 900000002 (.int .u8))))],items:=[.slot 18 (.val (.int .i64)), .cells 1000004 [.val (.mix 2005000 (.mix 12005000 (.mix 22005000 (.int .u8))))], .rows 2005000 (.mix 12005000 (.mix 22005000 (.int .u8))), .rows 22005000 (.int .u8), .rows 12005000 (.mix 22005000 (.int .u8))],junk:=[19,20,21,22,5,6,23,24,25,26,27,28,29,30,31,32,33,34,35],tails:=[] }],[4000000001])
def spt77 : Tab (List LSpec×List Nat):=(.node .leaf none (.node (.node .leaf none (.node (.node (.node (.node .leaf (some vK2) .leaf) none .leaf) none .leaf) none (.node .leaf (some vK3) .leaf))) none .leaf))
def spf77 (f : Nat) : List LSpec×List Nat:=(spt77.get f).getD ([],[])
theorem zYk : zWx Try.prog cfg 77 zZ1:=fnD spf77 (l:=[]) zXl zQ1 .nil (fun d=>by kernel_rfl)
def yQu (d0 : Int) : Option (Int) :=
 (bif (Z.ilt d0 1) then some 2
 else (bif (Z.zWw false true (Z.igt d0 6)) then some 2
 else some 0))
def yXd : PFn:={ args:=[(.int .i64)],res:=[(.int .i64)],fn:=yQu }
def vJb : List LSpec×List Nat:=([],[5])
def vJc : List LSpec×List Nat:=([{ id:=2800,known:=true,toks:=[(9000000,(.int .u8)),(9000000,(.mix 900000001 (.int .u8))),(7005000,(.mix 900000001 (.mix 900000002 (.int .u8))))],items:=[.slot 18 (.val (.int .i64)), .cells 1000004 [.val (.mix 2005000 (.mix 12005000 (.mix 22005000 (.int .u8))))], .rows 2005000 (.mix 12005000 (.mix 22005000 (.int .u8))), .rows 22005000 (.int .u8), .rows 12005000 (.mix 22005000 (.int .u8))],junk:=[19,20,21,22,5,6,23,24,25,26,27,28,29,30,31,32,33,34,35],tails:=[] }],[4000000001])
def spt71 : Tab (List LSpec×List Nat):=(.node .leaf none (.node (.node .leaf none (.node (.node (.node (.node .leaf (some vJb) .leaf) none .leaf) none .leaf) none (.node .leaf (some vJc) .leaf))) none .leaf))
def spf71 (f : Nat) : List LSpec×List Nat:=(spt71.get f).getD ([],[])
theorem yKz : zWx Try.prog cfg 71 yXd:=fnD spf71 (l:=[]) zXl zQ1 .nil (fun d=>by kernel_rfl)
def yWl (d0 : Int) : Option ((Int)×(Int)) :=
 Z.bind (yQu d0) fun (x1 : Int) =>
 (bif (Z.ine x1 0) then some (0,x1)
 else if (Z.Neg d0) then none
 else Z.bnd (Z.shl .i64 1 d0) fun (x4 : Int) =>
 some (x4,0))
def yK4 : PFn:={ args:=[(.int .i64)],res:=[(.int .i64),(.int .i64)],fn:=yWl }
def vKt : List LSpec×List Nat:=([],[5])
def vKu : List LSpec×List Nat:=([{ id:=2800,known:=true,toks:=[(9000000,(.int .u8)),(9000000,(.mix 900000001 (.int .u8))),(7005000,(.mix 900000001 (.mix 900000002 (.int .u8))))],items:=[.slot 18 (.val (.int .i64)), .cells 1000004 [.val (.mix 2005000 (.mix 12005000 (.mix 22005000 (.int .u8))))], .rows 2005000 (.mix 12005000 (.mix 22005000 (.int .u8))), .rows 22005000 (.int .u8), .rows 12005000 (.mix 22005000 (.int .u8))],junk:=[19,20,21,22,5,6,23,24,25,26,27,28,29,30,31,32,33,34,35],tails:=[] }],[4000000001])
def spt82 : Tab (List LSpec×List Nat):=(.node .leaf none (.node (.node .leaf none (.node (.node (.node (.node .leaf (some vKt) .leaf) none .leaf) none .leaf) none (.node .leaf (some vKu) .leaf))) none .leaf))
def spf82 (f : Nat) : List LSpec×List Nat:=(spt82.get f).getD ([],[])
theorem xZh : zWx Try.prog cfg 82 yK4:=fnD spf82 (l:=[(71,yXd)]) zXl zQ1 (.cons yKz .nil) (fun d=>by kernel_rfl)
def yZr (d0 : Int) : Option (Int) :=
 Z.loop (fun (s1 : Int) k2 =>
 Z.bind (yWl s1) fun (x3 : (Int)×(Int)) =>
 (bif (Z.ine x3.2 0) then some s1
 else (bif (Z.zWw false true (Z.ige x3.1 d0)) then some s1
 else Z.bnd (Z.wrap .i64 (Z.add s1 1)) fun (x4 : Int) =>
 k2 x4))) 1
def yYp : PFn:={ args:=[(.int .i64)],res:=[(.int .i64)],fn:=yZr }
def vKv : List LSpec×List Nat:=([{ id:=8100,known:=true,toks:=[],items:=[.slot 3 (.val (.int .i64))],junk:=[9,10,8,11,12,4,5,13,14,15,16,17,18,19,20,2,6,7],tails:=[] }],[])
def vKw : List LSpec×List Nat:=([],[5])
def vKx : List LSpec×List Nat:=([{ id:=2800,known:=true,toks:=[(9000000,(.int .u8)),(9000000,(.mix 900000001 (.int .u8))),(7005000,(.mix 900000001 (.mix 900000002 (.int .u8))))],items:=[.slot 18 (.val (.int .i64)), .cells 1000004 [.val (.mix 2005000 (.mix 12005000 (.mix 22005000 (.int .u8))))], .rows 2005000 (.mix 12005000 (.mix 22005000 (.int .u8))), .rows 22005000 (.int .u8), .rows 12005000 (.mix 22005000 (.int .u8))],junk:=[19,20,21,22,5,6,23,24,25,26,27,28,29,30,31,32,33,34,35],tails:=[] }],[4000000001])
def spt81 : Tab (List LSpec×List Nat):=(.node (.node .leaf none (.node (.node (.node .leaf none (.node (.node .leaf (some vKv) .leaf) none .leaf)) none .leaf) none .leaf)) none (.node (.node .leaf none (.node (.node (.node (.node .leaf (some vKw) .leaf) none .leaf) none .leaf) none (.node .leaf (some vKx) .leaf))) none .leaf))
def spf81 (f : Nat) : List LSpec×List Nat:=(spt81.get f).getD ([],[])
theorem xJm : zWx Try.prog cfg 81 yYp:=fnD spf81 (l:=[(82,yK4)]) zXl zQ1 (.cons xZh .nil) (fun d=>by kernel_rfl)
def zX9 (d0 : ((Int)×((Int)×((Int)×((Int)×((Int)×((Int)×((Int)×((Int)×((Int)×(Unit))))))))))×((Int)×(Int))) : Option ((Int)×((Int)×((Int)×((Int)×(Unit))))) :=
 Z.bnd (Z.wrap .i64 (Z.add 8 d0.2.2)) fun (x1 : Int) =>
 Z.bnd (Z.wrap .i64 (Z.mul d0.1.2.2.2.1 x1)) fun (x2 : Int) =>
 Z.bnd (Z.wrap .i64 (Z.add x2 64)) fun (x3 : Int) =>
 Z.bind (yZr d0.2.1) fun (x4 : Int) =>
 some (d0.2.1,(d0.2.2,(x4,(x3,()))))
def yQi : PFn:={ args:=[(.pair (.int .i64) (.pair (.int .i64) (.pair (.int .i64) (.pair (.int .i64) (.pair (.int .i64) (.pair (.int .i64) (.pair (.int .i64) (.pair (.int .i64) (.pair (.int .i64) .unit))))))))),(.int .i64),(.int .i64)],res:=[(.pair (.int .i64) (.pair (.int .i64) (.pair (.int .i64) (.pair (.int .i64) .unit))))],fn:=zX9 }
def vK0 : List LSpec×List Nat:=([],[5])
def vK1 : List LSpec×List Nat:=([{ id:=2800,known:=true,toks:=[(9000000,(.int .u8)),(9000000,(.mix 900000001 (.int .u8))),(7005000,(.mix 900000001 (.mix 900000002 (.int .u8))))],items:=[.slot 18 (.val (.int .i64)), .cells 1000004 [.val (.mix 2005000 (.mix 12005000 (.mix 22005000 (.int .u8))))], .rows 2005000 (.mix 12005000 (.mix 22005000 (.int .u8))), .rows 22005000 (.int .u8), .rows 12005000 (.mix 22005000 (.int .u8))],junk:=[19,20,21,22,5,6,23,24,25,26,27,28,29,30,31,32,33,34,35],tails:=[] }],[4000000001])
def spt79 : Tab (List LSpec×List Nat):=(.node .leaf none (.node (.node .leaf none (.node (.node (.node (.node .leaf (some vK0) .leaf) none .leaf) none .leaf) none (.node .leaf (some vK1) .leaf))) none .leaf))
def spf79 (f : Nat) : List LSpec×List Nat:=(spt79.get f).getD ([],[])
theorem yX4 : zWx Try.prog cfg 79 yQi:=fnD spf79 (l:=[(81,yYp)]) zXl zQ1 (.cons xJm .nil) (fun d=>by kernel_rfl)
def zYx (d0 : ((Int)×((Int)×((Int)×((Int)×((Int)×((Int)×((Int)×((Int)×((Int)×(Unit))))))))))×((Int)×((Int)×((Int)×((Int)×(Unit)))))) : Option (Bool) :=
 some (Z.ile d0.2.1 d0.1.2.2.2.2.2.2.2.2.1)
def zYm : PFn:={ args:=[(.pair (.int .i64) (.pair (.int .i64) (.pair (.int .i64) (.pair (.int .i64) (.pair (.int .i64) (.pair (.int .i64) (.pair (.int .i64) (.pair (.int .i64) (.pair (.int .i64) .unit))))))))),(.pair (.int .i64) (.pair (.int .i64) (.pair (.int .i64) (.pair (.int .i64) .unit))))],res:=[.bool],fn:=zYx }
def vKy : List LSpec×List Nat:=([],[5])
def vKz : List LSpec×List Nat:=([{ id:=2800,known:=true,toks:=[(9000000,(.int .u8)),(9000000,(.mix 900000001 (.int .u8))),(7005000,(.mix 900000001 (.mix 900000002 (.int .u8))))],items:=[.slot 18 (.val (.int .i64)), .cells 1000004 [.val (.mix 2005000 (.mix 12005000 (.mix 22005000 (.int .u8))))], .rows 2005000 (.mix 12005000 (.mix 22005000 (.int .u8))), .rows 22005000 (.int .u8), .rows 12005000 (.mix 22005000 (.int .u8))],junk:=[19,20,21,22,5,6,23,24,25,26,27,28,29,30,31,32,33,34,35],tails:=[] }],[4000000001])
def spt80 : Tab (List LSpec×List Nat):=(.node .leaf none (.node (.node .leaf none (.node (.node (.node (.node .leaf (some vKy) .leaf) none .leaf) none .leaf) none (.node .leaf (some vKz) .leaf))) none .leaf))
def spf80 (f : Nat) : List LSpec×List Nat:=(spt80.get f).getD ([],[])
theorem yWz : zWx Try.prog cfg 80 zYm:=fnD spf80 (l:=[]) zXl zQ1 .nil (fun d=>by kernel_rfl)
def zJ8 (d0 : (Int)×((Int)×((Int)×((Int)×((Int)×((Int)×((Int)×((Int)×((Int)×(Unit)))))))))) : Option (Int) :=
 Z.bind (yXn (d0.1,(d0.2.1,(d0.2.2.1,(d0.2.2.2.1,(d0.2.2.2.2.1,(d0.2.2.2.2.2.1,(d0.2.2.2.2.2.2.1,(d0.2.2.2.2.2.2.2.1,(d0.2.2.2.2.2.2.2.2.1,())))))))))) fun (x1 : List ((Int)×((Int)×((Int)×(Unit))))) =>
 Z.loop (fun (s2 : Int) k3 =>
 (bif (Z.ilt s2 9) then if (Z.In s2 9) then Z.bnd (Z.get x1 (Z.toN s2) (0,(0,(0,())))) fun (x6 : (Int)×((Int)×((Int)×(Unit)))) =>
 Z.bind (zXf (x6.1,(x6.2.1,(x6.2.2.1,())))) fun (x7 : Bool) =>
 (bif (Z.bnot x7) then some 8
 else Z.bnd (Z.wrap .i64 (Z.add s2 1)) fun (x8 : Int) =>
 k3 x8)
 else none
 else Z.bind (zX9 ((d0.1,(d0.2.1,(d0.2.2.1,(d0.2.2.2.1,(d0.2.2.2.2.1,(d0.2.2.2.2.2.1,(d0.2.2.2.2.2.2.1,(d0.2.2.2.2.2.2.2.1,(d0.2.2.2.2.2.2.2.2.1,()))))))))),(d0.1,d0.2.1))) fun (x9 : (Int)×((Int)×((Int)×((Int)×(Unit))))) =>
 Z.loop (fun (s10 : ((Int)×((Int)×((Int)×(Int))))×(Int)) k11 =>
 Z.bnd (Z.wrap .i64 (Z.add s10.2 1)) fun (x12 : Int) =>
 Z.bind (zYx ((d0.1,(d0.2.1,(d0.2.2.1,(d0.2.2.2.1,(d0.2.2.2.2.1,(d0.2.2.2.2.2.1,(d0.2.2.2.2.2.2.1,(d0.2.2.2.2.2.2.2.1,(d0.2.2.2.2.2.2.2.2.1,()))))))))),(s10.1.1,(s10.1.2.1,(s10.1.2.2.1,(s10.1.2.2.2,())))))) fun (x13 : Bool) =>
 (bif (Z.zWw true (Z.bnot x13) false) then Z.bnd (Z.wrap .i64 (Z.add s10.1.1 d0.2.2.1)) fun (x14 : Int) =>
 Z.bnd (Z.wrap .i64 (Z.sub x14 1)) fun (x15 : Int) =>
 if (Z.IsZ d0.2.2.1) then none
 else Z.bnd (Z.wrap .i64 (Z.tdiv x15 d0.2.2.1)) fun (x18 : Int) =>
 Z.bnd (Z.wrap .i64 (Z.mul 4 d0.2.2.1)) fun (x19 : Int) =>
 Z.bind (zX9 ((d0.1,(d0.2.1,(d0.2.2.1,(d0.2.2.2.1,(d0.2.2.2.2.1,(d0.2.2.2.2.2.1,(d0.2.2.2.2.2.2.1,(d0.2.2.2.2.2.2.2.1,(d0.2.2.2.2.2.2.2.2.1,()))))))))),(x18,x19))) fun (x20 : (Int)×((Int)×((Int)×((Int)×(Unit))))) =>
 k11 ((x20.1,(x20.2.1,(x20.2.2.1,x20.2.2.2.1))),x12)
 else (bif (Z.igt x12 4) then some 8
 else some 0))) ((x9.1,(x9.2.1,(x9.2.2.1,x9.2.2.2.1))),0))) 0
def yK6 : PFn:={ args:=[(.pair (.int .i64) (.pair (.int .i64) (.pair (.int .i64) (.pair (.int .i64) (.pair (.int .i64) (.pair (.int .i64) (.pair (.int .i64) (.pair (.int .i64) (.pair (.int .i64) .unit)))))))))],res:=[(.int .i64)],fn:=zJ8 }
def vJd : List LSpec×List Nat:=([{ id:=7800,known:=true,toks:=[],items:=[.cells 1000003 [.val (.int .i64), .val (.int .i64), .val (.int .i64), .val (.int .i64)], .cells 1 [.val (.int .i64)]],junk:=[10,11,12,13,14,15,16,17,18,19,20,21,22,23,24,25,26,27,28,29,30,31,32],tails:=[] }],[])
def vJe : List LSpec×List Nat:=([{ id:=6900,known:=true,toks:=[],items:=[.slot 8 (.val (.int .i64))],junk:=[9,10,4,11,12,13,2,14],tails:=[] }],[])
def vJf : List LSpec×List Nat:=([],[5])
def vJg : List LSpec×List Nat:=([{ id:=2800,known:=true,toks:=[(9000000,(.int .u8)),(9000000,(.mix 900000001 (.int .u8))),(7005000,(.mix 900000001 (.mix 900000002 (.int .u8))))],items:=[.slot 18 (.val (.int .i64)), .cells 1000004 [.val (.mix 2005000 (.mix 12005000 (.mix 22005000 (.int .u8))))], .rows 2005000 (.mix 12005000 (.mix 22005000 (.int .u8))), .rows 22005000 (.int .u8), .rows 12005000 (.mix 22005000 (.int .u8))],junk:=[19,20,21,22,5,6,23,24,25,26,27,28,29,30,31,32,33,34,35],tails:=[] }],[4000000001])
def spt69 : Tab (List LSpec×List Nat):=(.node (.node .leaf none (.node .leaf none (.node (.node (.node (.node .leaf (some vJe) .leaf) none .leaf) none .leaf) none .leaf))) none (.node (.node .leaf none (.node (.node (.node (.node .leaf (some vJf) .leaf) none .leaf) none .leaf) none (.node .leaf (some vJg) .leaf))) none (.node .leaf none (.node .leaf none (.node (.node (.node .leaf (some vJd) .leaf) none .leaf) none .leaf)))))
def spf69 (f : Nat) : List LSpec×List Nat:=(spt69.get f).getD ([],[])
theorem xZj : zWx Try.prog cfg 69 yK6:=fnD spf69 (l:=[(76,yX9),(77,zZ1),(79,yQi),(80,zYm)]) zXl zQ1 (.cons xQ9 (.cons zYk (.cons yX4 (.cons yWz .nil)))) (fun d=>by kernel_rfl)
def zYy (d0 : (Int)×((Int)×((Int)×((Int)×((Int)×((Int)×((Int)×((Int)×((Int)×(Unit)))))))))) : Option ((List ((Int)×((Int)×((Int)×((Int)×(Unit))))))×(Int)) :=
 Z.bind (zJ8 (d0.1,(d0.2.1,(d0.2.2.1,(d0.2.2.2.1,(d0.2.2.2.2.1,(d0.2.2.2.2.2.1,(d0.2.2.2.2.2.2.1,(d0.2.2.2.2.2.2.2.1,(d0.2.2.2.2.2.2.2.2.1,())))))))))) fun (x1 : Int) =>
 (bif (Z.ine x1 0) then some (([] : List ((Int)×((Int)×((Int)×((Int)×(Unit)))))),x1)
 else if (Z.MkOk 0 4 32) then Z.bind (zX9 ((d0.1,(d0.2.1,(d0.2.2.1,(d0.2.2.2.1,(d0.2.2.2.2.1,(d0.2.2.2.2.2.1,(d0.2.2.2.2.2.2.1,(d0.2.2.2.2.2.2.2.1,(d0.2.2.2.2.2.2.2.2.1,()))))))))),(d0.1,d0.2.1))) fun (x4 : (Int)×((Int)×((Int)×((Int)×(Unit))))) =>
 if (Z.EqN (Z.toN 0) 0) then if (Z.EqN 0 (Z.len ([] : List ((Int)×((Int)×((Int)×((Int)×(Unit)))))))) then Z.loop (fun (s9 : ((Int)×((Int)×((Int)×(Int))))×(List ((Int)×((Int)×((Int)×((Int)×(Unit))))))) k10 =>
 if (Z.Le (Z.addN 0 1) (Z.len ((s9.1.1,(s9.1.2.1,(s9.1.2.2.1,(s9.1.2.2.2,()))))::([] : List ((Int)×((Int)×((Int)×((Int)×(Unit))))))))) then if (Z.Big (Z.len s9.2) (Z.len (Z.seg ((s9.1.1,(s9.1.2.1,(s9.1.2.2.1,(s9.1.2.2.2,()))))::([] : List ((Int)×((Int)×((Int)×((Int)×(Unit))))))) 0 1)) 32) then none
 else if (Z.EqN (Z.len s9.2) (Z.len s9.2)) then Z.bnd (Z.app s9.2 (Z.seg ((s9.1.1,(s9.1.2.1,(s9.1.2.2.1,(s9.1.2.2.2,()))))::([] : List ((Int)×((Int)×((Int)×((Int)×(Unit))))))) 0 1)) fun (x17 : List ((Int)×((Int)×((Int)×((Int)×(Unit)))))) =>
 Z.bind (zYx ((d0.1,(d0.2.1,(d0.2.2.1,(d0.2.2.2.1,(d0.2.2.2.2.1,(d0.2.2.2.2.2.1,(d0.2.2.2.2.2.2.1,(d0.2.2.2.2.2.2.2.1,(d0.2.2.2.2.2.2.2.2.1,()))))))))),(s9.1.1,(s9.1.2.1,(s9.1.2.2.1,(s9.1.2.2.2,())))))) fun (x18 : Bool) =>
 (bif (Z.zWw true (Z.bnot x18) false) then Z.bnd (Z.wrap .i64 (Z.add s9.1.1 d0.2.2.1)) fun (x19 : Int) =>
 Z.bnd (Z.wrap .i64 (Z.sub x19 1)) fun (x20 : Int) =>
 if (Z.IsZ d0.2.2.1) then none
 else Z.bnd (Z.wrap .i64 (Z.tdiv x20 d0.2.2.1)) fun (x23 : Int) =>
 Z.bnd (Z.wrap .i64 (Z.mul 4 d0.2.2.1)) fun (x24 : Int) =>
 Z.bind (zX9 ((d0.1,(d0.2.1,(d0.2.2.1,(d0.2.2.2.1,(d0.2.2.2.2.1,(d0.2.2.2.2.2.1,(d0.2.2.2.2.2.2.1,(d0.2.2.2.2.2.2.2.1,(d0.2.2.2.2.2.2.2.2.1,()))))))))),(x23,x24))) fun (x25 : (Int)×((Int)×((Int)×((Int)×(Unit))))) =>
 if (Z.EqN (Z.len x17) (Z.len x17)) then k10 ((x25.1,(x25.2.1,(x25.2.2.1,x25.2.2.2.1))),x17)
 else none
 else some (x17,0))
 else none
 else none) ((x4.1,(x4.2.1,(x4.2.2.1,x4.2.2.2.1))),([] : List ((Int)×((Int)×((Int)×((Int)×(Unit)))))))
 else none
 else none
 else none)
def yZa : PFn:={ args:=[(.pair (.int .i64) (.pair (.int .i64) (.pair (.int .i64) (.pair (.int .i64) (.pair (.int .i64) (.pair (.int .i64) (.pair (.int .i64) (.pair (.int .i64) (.pair (.int .i64) .unit)))))))))],res:=[(.list (.pair (.int .i64) (.pair (.int .i64) (.pair (.int .i64) (.pair (.int .i64) .unit))))),(.int .i64)],fn:=zYy }
def vJt : List LSpec×List Nat:=([{ id:=7800,known:=true,toks:=[(2002000,(.pair (.int .i64) (.pair (.int .i64) (.pair (.int .i64) (.pair (.int .i64) .unit)))))],items:=[.cells 1000003 [.val (.int .i64), .val (.int .i64), .val (.int .i64), .val (.int .i64)], .cells 2 [.slt (.pair (.int .i64) (.pair (.int .i64) (.pair (.int .i64) (.pair (.int .i64) .unit)))) (some 2002000) false]],junk:=[10,11,12,13,14,15,16,17,18,19,20,21,22,23,24,25,26,27,28,29,30,31,32],tails:=[(2002000,2002000)] }],[])
def vJu : List LSpec×List Nat:=([],[5])
def vJv : List LSpec×List Nat:=([{ id:=2800,known:=true,toks:=[(9000000,(.int .u8)),(9000000,(.mix 900000001 (.int .u8))),(7005000,(.mix 900000001 (.mix 900000002 (.int .u8))))],items:=[.slot 18 (.val (.int .i64)), .cells 1000004 [.val (.mix 2005000 (.mix 12005000 (.mix 22005000 (.int .u8))))], .rows 2005000 (.mix 12005000 (.mix 22005000 (.int .u8))), .rows 22005000 (.int .u8), .rows 12005000 (.mix 22005000 (.int .u8))],junk:=[19,20,21,22,5,6,23,24,25,26,27,28,29,30,31,32,33,34,35],tails:=[] }],[4000000001])
def spt60 : Tab (List LSpec×List Nat):=(.node .leaf none (.node (.node .leaf none (.node (.node (.node (.node .leaf (some vJu) .leaf) none .leaf) none .leaf) none (.node .leaf (some vJv) .leaf))) none (.node .leaf none (.node .leaf none (.node (.node (.node .leaf (some vJt) .leaf) none .leaf) none .leaf)))))
def spf60 (f : Nat) : List LSpec×List Nat:=(spt60.get f).getD ([],[])
theorem xWa : zWx Try.prog cfg 60 yZa:=fnD spf60 (l:=[(69,yK6),(79,yQi),(80,zYm)]) zXl zQ1 (.cons xZj (.cons yX4 (.cons yWz .nil))) (fun d=>by kernel_rfl)
def zYu (d0 : Int) : Option ((Int)×(Int)) :=
 Z.bind (yQu d0) fun (x1 : Int) =>
 (bif (Z.ine x1 0) then some (0,x1)
 else if (Z.Neg d0) then none
 else Z.bnd (Z.shl .i64 2 d0) fun (x4 : Int) =>
 Z.bnd (Z.wrap .i64 (Z.sub x4 1)) fun (x5 : Int) =>
 some (x5,0))
def yX8 : PFn:={ args:=[(.int .i64)],res:=[(.int .i64),(.int .i64)],fn:=zYu }
def vJr : List LSpec×List Nat:=([],[5])
def vJs : List LSpec×List Nat:=([{ id:=2800,known:=true,toks:=[(9000000,(.int .u8)),(9000000,(.mix 900000001 (.int .u8))),(7005000,(.mix 900000001 (.mix 900000002 (.int .u8))))],items:=[.slot 18 (.val (.int .i64)), .cells 1000004 [.val (.mix 2005000 (.mix 12005000 (.mix 22005000 (.int .u8))))], .rows 2005000 (.mix 12005000 (.mix 22005000 (.int .u8))), .rows 22005000 (.int .u8), .rows 12005000 (.mix 22005000 (.int .u8))],junk:=[19,20,21,22,5,6,23,24,25,26,27,28,29,30,31,32,33,34,35],tails:=[] }],[4000000001])
def spt61 : Tab (List LSpec×List Nat):=(.node .leaf none (.node (.node .leaf none (.node (.node (.node (.node .leaf (some vJr) .leaf) none .leaf) none .leaf) none (.node .leaf (some vJs) .leaf))) none .leaf))
def spf61 (f : Nat) : List LSpec×List Nat:=(spt61.get f).getD ([],[])
theorem xQ8 : zWx Try.prog cfg 61 yX8:=fnD spf61 (l:=[(71,yXd)]) zXl zQ1 (.cons yKz .nil) (fun d=>by kernel_rfl)
def zJ7 (d0 : (Int)×((Int)×((Int)×((Int)×((Int)×((Int)×((Int)×((Int)×((Int)×(Unit)))))))))) : Option ((List ((Int)×((Int)×(Unit))))×(Int)) :=
 Z.bind (zYy (d0.1,(d0.2.1,(d0.2.2.1,(d0.2.2.2.1,(d0.2.2.2.2.1,(d0.2.2.2.2.2.1,(d0.2.2.2.2.2.2.1,(d0.2.2.2.2.2.2.2.1,(d0.2.2.2.2.2.2.2.2.1,())))))))))) fun (x1 : (List ((Int)×((Int)×((Int)×((Int)×(Unit))))))×(Int)) =>
 (bif (Z.ine x1.2 0) then some (([] : List ((Int)×((Int)×(Unit)))),x1.2)
 else if (Z.MkOk (Z.ofN (Z.len x1.1)) (Z.ofN (Z.len x1.1)) 16) then Z.loop (fun (s4 : (Int)×(List ((Int)×((Int)×(Unit))))) k5 =>
 (bif (Z.ilt s4.1 (Z.ofN (Z.len x1.1))) then if (Z.Ix s4.1 (Z.len x1.1)) then Z.bnd (Z.get x1.1 (Z.toN s4.1) (0,(0,(0,(0,()))))) fun (x8 : (Int)×((Int)×((Int)×((Int)×(Unit))))) =>
 Z.bind (zYu x8.2.2.1) fun (x9 : (Int)×(Int)) =>
 (bif (Z.ine x9.2 0) then some (([] : List ((Int)×((Int)×(Unit)))),x9.2)
 else Z.bnd (Z.wrap .i64 (Z.add 8 x8.2.2.2.1)) fun (x10 : Int) =>
 if (Z.In s4.1 (Z.toN (Z.ofN (Z.len x1.1)))) then if (Z.Lt (Z.addN 0 (Z.toN s4.1)) (Z.len s4.2)) then Z.bnd (Z.set s4.2 (Z.addN 0 (Z.toN s4.1)) (x9.1,(x10,()))) fun (x15 : List ((Int)×((Int)×(Unit)))) =>
 Z.bnd (Z.wrap .i64 (Z.add s4.1 1)) fun (x16 : Int) =>
 k5 (x16,x15)
 else none
 else none)
 else none
 else if (Z.Le (Z.addN 0 (Z.toN (Z.ofN (Z.len x1.1)))) (Z.len s4.2)) then some ((Z.seg s4.2 0 (Z.toN (Z.ofN (Z.len x1.1)))),0)
 else none)) (0,(Z.rep (α:=(Int)×((Int)×(Unit))) (Z.toN (Z.ofN (Z.len x1.1))) (0,(0,()))))
 else none)
def yQh : PFn:={ args:=[(.pair (.int .i64) (.pair (.int .i64) (.pair (.int .i64) (.pair (.int .i64) (.pair (.int .i64) (.pair (.int .i64) (.pair (.int .i64) (.pair (.int .i64) (.pair (.int .i64) .unit)))))))))],res:=[(.list (.pair (.int .i64) (.pair (.int .i64) .unit))),(.int .i64)],fn:=zJ7 }
def vYj : List LSpec×List Nat:=([{ id:=3500,known:=true,toks:=[],items:=[.slot 24 (.val (.int .i64)), .vec 1000006 (.pair (.int .i64) (.pair (.int .i64) .unit))],junk:=[25,26,27,28,8,7,30,31,32,29,33,34,9,10,35,36,37,2,3,38,39,40,41,42,43,44,45,46],tails:=[] }],[])
def vYi : List LSpec×List Nat:=([],[5])
def vYk : List LSpec×List Nat:=([{ id:=2800,known:=true,toks:=[(9000000,(.int .u8)),(9000000,(.mix 900000001 (.int .u8))),(7005000,(.mix 900000001 (.mix 900000002 (.int .u8))))],items:=[.slot 18 (.val (.int .i64)), .cells 1000004 [.val (.mix 2005000 (.mix 12005000 (.mix 22005000 (.int .u8))))], .rows 2005000 (.mix 12005000 (.mix 22005000 (.int .u8))), .rows 22005000 (.int .u8), .rows 12005000 (.mix 22005000 (.int .u8))],junk:=[19,20,21,22,5,6,23,24,25,26,27,28,29,30,31,32,33,34,35],tails:=[] }],[4000000001])
def spt35 : Tab (List LSpec×List Nat):=(.node (.node (.node .leaf none (.node (.node (.node .leaf (some vYj) .leaf) none .leaf) none .leaf)) none .leaf) none (.node (.node .leaf none (.node (.node (.node (.node .leaf (some vYi) .leaf) none .leaf) none .leaf) none (.node .leaf (some vYk) .leaf))) none .leaf))
def spf35 (f : Nat) : List LSpec×List Nat:=(spt35.get f).getD ([],[])
theorem yX3 : zWx Try.prog cfg 35 yQh:=fnD spf35 (l:=[(60,yZa),(61,yX8)]) zXl zQ1 (.cons xWa (.cons xQ8 .nil)) (fun d=>by kernel_rfl)
def yQo (d0 : (Int)×(Int)) : Option ((Int)×(Int)) :=
 Z.bnd (Z.band .u64 d0.1 4294967295) fun (x1 : Int) =>
 if (Z.Neg 32) then none
 else Z.bnd (Z.shr .u64 d0.1 32) fun (x4 : Int) =>
 Z.bnd (Z.band .u64 d0.2 4294967295) fun (x5 : Int) =>
 if (Z.Neg 32) then none
 else Z.bnd (Z.shr .u64 d0.2 32) fun (x8 : Int) =>
 Z.bnd (Z.wrap .u64 (Z.mul x1 x5)) fun (x9 : Int) =>
 Z.bnd (Z.wrap .u64 (Z.mul x4 x5)) fun (x10 : Int) =>
 if (Z.Neg 32) then none
 else Z.bnd (Z.shr .u64 x9 32) fun (x13 : Int) =>
 Z.bnd (Z.wrap .u64 (Z.add x10 x13)) fun (x14 : Int) =>
 Z.bnd (Z.band .u64 x14 4294967295) fun (x15 : Int) =>
 if (Z.Neg 32) then none
 else Z.bnd (Z.shr .u64 x14 32) fun (x18 : Int) =>
 Z.bnd (Z.wrap .u64 (Z.mul x1 x8)) fun (x19 : Int) =>
 Z.bnd (Z.wrap .u64 (Z.add x15 x19)) fun (x20 : Int) =>
 Z.bnd (Z.wrap .u64 (Z.mul x4 x8)) fun (x21 : Int) =>
 Z.bnd (Z.wrap .u64 (Z.add x21 x18)) fun (x22 : Int) =>
 if (Z.Neg 32) then none
 else Z.bnd (Z.shr .u64 x20 32) fun (x25 : Int) =>
 Z.bnd (Z.wrap .u64 (Z.add x22 x25)) fun (x26 : Int) =>
 Z.bnd (Z.wrap .u64 (Z.mul d0.1 d0.2)) fun (x27 : Int) =>
 some (x26,x27)
def zJ1 : PFn:={ args:=[(.int .u64),(.int .u64)],res:=[(.int .u64),(.int .u64)],fn:=yQo }
def vK9 : List LSpec×List Nat:=([],[5])
def vJa : List LSpec×List Nat:=([{ id:=2800,known:=true,toks:=[(9000000,(.int .u8)),(9000000,(.mix 900000001 (.int .u8))),(7005000,(.mix 900000001 (.mix 900000002 (.int .u8))))],items:=[.slot 18 (.val (.int .i64)), .cells 1000004 [.val (.mix 2005000 (.mix 12005000 (.mix 22005000 (.int .u8))))], .rows 2005000 (.mix 12005000 (.mix 22005000 (.int .u8))), .rows 22005000 (.int .u8), .rows 12005000 (.mix 22005000 (.int .u8))],junk:=[19,20,21,22,5,6,23,24,25,26,27,28,29,30,31,32,33,34,35],tails:=[] }],[4000000001])
def spt73 : Tab (List LSpec×List Nat):=(.node .leaf none (.node (.node .leaf none (.node (.node (.node (.node .leaf (some vK9) .leaf) none .leaf) none .leaf) none (.node .leaf (some vJa) .leaf))) none .leaf))
def spf73 (f : Nat) : List LSpec×List Nat:=(spt73.get f).getD ([],[])
theorem yX2 : zWx Try.prog cfg 73 zJ1:=fnD spf73 (l:=[]) zXl zQ1 .nil (fun d=>by kernel_rfl)
def zYn (d0 : (Int)×(Int)) : Option ((Int)×(Int)) :=
 Z.bind (yQo (d0.1,d0.2)) fun (x1 : (Int)×(Int)) =>
 some (x1.1,x1.2)
def yQg : PFn:={ args:=[(.int .u64),(.int .u64)],res:=[(.int .u64),(.int .u64)],fn:=zYn }
def vJp : List LSpec×List Nat:=([],[5])
def vJq : List LSpec×List Nat:=([{ id:=2800,known:=true,toks:=[(9000000,(.int .u8)),(9000000,(.mix 900000001 (.int .u8))),(7005000,(.mix 900000001 (.mix 900000002 (.int .u8))))],items:=[.slot 18 (.val (.int .i64)), .cells 1000004 [.val (.mix 2005000 (.mix 12005000 (.mix 22005000 (.int .u8))))], .rows 2005000 (.mix 12005000 (.mix 22005000 (.int .u8))), .rows 22005000 (.int .u8), .rows 12005000 (.mix 22005000 (.int .u8))],junk:=[19,20,21,22,5,6,23,24,25,26,27,28,29,30,31,32,33,34,35],tails:=[] }],[4000000001])
def spt62 : Tab (List LSpec×List Nat):=(.node .leaf none (.node (.node .leaf none (.node (.node (.node (.node .leaf (some vJp) .leaf) none .leaf) none .leaf) none (.node .leaf (some vJq) .leaf))) none .leaf))
def spf62 (f : Nat) : List LSpec×List Nat:=(spt62.get f).getD ([],[])
theorem yJn : zWx Try.prog cfg 62 yQg:=fnD spf62 (l:=[(73,zJ1)]) zXl zQ1 (.cons yX2 .nil) (fun d=>by kernel_rfl)
def zW7 (d0 : (List (Int))×(Int)) : Option (List (Int)) :=
 (bif (Z.ilt d0.2 0) then none
 else Z.bnd (Z.wrap .u64 (Z.ofN (Z.len d0.1))) fun (x1 : Int) =>
 Z.bnd (Z.wrap .u64 d0.2) fun (x2 : Int) =>
 Z.bind (zYn (x1,x2)) fun (x3 : (Int)×(Int)) =>
 (bif (Z.igt x3.1 0) then none
 else (bif (Z.zWw false true (Z.igt x3.2 9223372036854775807)) then none
 else Z.bnd (Z.wrap .i64 x3.2) fun (x4 : Int) =>
 if (Z.MkOk x4 x4 8) then if (Z.Le (Z.addN 0 (Z.toN x4)) (Z.len (Z.rep (α:=Int) (Z.toN x4) 0))) then Z.loop (fun (s9 : (Int)×(List (Int))) k10 =>
 (bif (Z.ilt s9.1 (Z.ofN (Z.toN x4))) then if (Z.Bd s9.1 (Z.toN x4)) then if (Z.Lt (Z.toN s9.1) (Z.toN x4)) then if (Z.Bd s9.1 (Z.toN x4)) then if (Z.Lt 0 (Z.toN x4)) then if (Z.Le (Z.addN (Z.addN 0 0) (Z.subN (Z.toN s9.1) 0)) (Z.len s9.2)) then if (Z.Le (Z.addN (Z.addN 0 (Z.toN s9.1)) (Z.subN (Z.toN x4) (Z.toN s9.1))) (Z.len s9.2)) then Z.bnd (Z.wrap .i64 (Z.add s9.1 (Z.ofN (Z.minN (Z.len (Z.seg s9.2 (Z.addN 0 0) (Z.subN (Z.toN s9.1) 0))) (Z.subN (Z.toN x4) (Z.toN s9.1)))))) fun (x23 : Int) =>
 k10 (x23,(Z.put s9.2 (Z.addN 0 (Z.toN s9.1)) (Z.take (Z.minN (Z.len (Z.seg s9.2 (Z.addN 0 0) (Z.subN (Z.toN s9.1) 0))) (Z.subN (Z.toN x4) (Z.toN s9.1))) (Z.seg s9.2 (Z.addN 0 0) (Z.subN (Z.toN s9.1) 0)))))
 else none
 else none
 else if (Z.Le (Z.addN (Z.addN 0 (Z.toN s9.1)) (Z.subN (Z.toN x4) (Z.toN s9.1))) (Z.len s9.2)) then Z.bnd (Z.wrap .i64 (Z.add s9.1 (Z.ofN (Z.minN (Z.len ([] : List (Int))) (Z.subN (Z.toN x4) (Z.toN s9.1)))))) fun (x26 : Int) =>
 k10 (x26,(Z.put s9.2 (Z.addN 0 (Z.toN s9.1)) (Z.take (Z.minN (Z.len ([] : List (Int))) (Z.subN (Z.toN x4) (Z.toN s9.1))) ([] : List (Int)))))
 else none
 else none
 else if (Z.Bd s9.1 (Z.toN x4)) then if (Z.Lt 0 (Z.toN x4)) then if (Z.Le (Z.addN (Z.addN 0 0) (Z.subN (Z.toN s9.1) 0)) (Z.len s9.2)) then none
 else none
 else none
 else none
 else none
 else if (Z.Le (Z.addN 0 (Z.toN x4)) (Z.len s9.2)) then some (Z.seg s9.2 0 (Z.toN x4))
 else none)) ((Z.ofN (Z.minN (Z.len d0.1) (Z.toN x4))),(Z.put (Z.rep (α:=Int) (Z.toN x4) 0) 0 (Z.take (Z.minN (Z.len d0.1) (Z.toN x4)) d0.1)))
 else none
 else none)))
def zZs : PFn:={ args:=[(.list (.int .i64)),(.int .i64)],res:=[(.list (.int .i64))],fn:=zW7 }
def vYg : List LSpec×List Nat:=([{ id:=3600,known:=true,toks:=[],items:=[.slot 8 (.val (.int .i64)), .vec 1000007 (.int .i64)],junk:=[34,35,36,37,38,39,40,41,42,43,44,45,46],tails:=[] }],[])
def vYf : List LSpec×List Nat:=([],[5])
def vYh : List LSpec×List Nat:=([{ id:=2800,known:=true,toks:=[(9000000,(.int .u8)),(9000000,(.mix 900000001 (.int .u8))),(7005000,(.mix 900000001 (.mix 900000002 (.int .u8))))],items:=[.slot 18 (.val (.int .i64)), .cells 1000004 [.val (.mix 2005000 (.mix 12005000 (.mix 22005000 (.int .u8))))], .rows 2005000 (.mix 12005000 (.mix 22005000 (.int .u8))), .rows 22005000 (.int .u8), .rows 12005000 (.mix 22005000 (.int .u8))],junk:=[19,20,21,22,5,6,23,24,25,26,27,28,29,30,31,32,33,34,35],tails:=[] }],[4000000001])
def spt36 : Tab (List LSpec×List Nat):=(.node .leaf none (.node (.node .leaf none (.node (.node (.node (.node .leaf (some vYf) .leaf) (some vYg) .leaf) none .leaf) none (.node .leaf (some vYh) .leaf))) none .leaf))
def spf36 (f : Nat) : List LSpec×List Nat:=(spt36.get f).getD ([],[])
theorem zJz : zWx Try.prog cfg 36 zZs:=fnD spf36 (l:=[(62,yQg)]) zXl zQ1 (.cons yJn .nil) (fun d=>by kernel_rfl)
def yZn (d0 : (List (Int))×(List (Int))) : Option (List (List (Int))) :=
 if (Z.MkOk (Z.ofN (Z.len d0.2)) (Z.ofN (Z.len d0.2)) 24) then Z.loop (fun (s3 : (Int)×((Int)×(List (List (Int))))) k4 =>
 (bif (Z.ilt s3.2.1 (Z.ofN (Z.len d0.2))) then if (Z.Ix s3.2.1 (Z.len d0.2)) then Z.bnd (Z.get d0.2 (Z.toN s3.2.1) 0) fun (x7 : Int) =>
 Z.bnd (Z.wrap .i64 (Z.add s3.1 x7)) fun (x8 : Int) =>
 Z.bnd (Z.wrap .i64 (Z.add s3.1 x7)) fun (x9 : Int) =>
 if (Z.Bd x9 (Z.len d0.1)) then if (Z.Bd x8 (Z.toN x9)) then if (Z.Bd s3.1 (Z.toN x8)) then Z.bnd (Z.slice d0.1 (Z.toN s3.1) (Z.toN x8)) fun (x16 : List (Int)) =>
 if (Z.In s3.2.1 (Z.toN (Z.ofN (Z.len d0.2)))) then if (Z.Lt (Z.addN 0 (Z.toN s3.2.1)) (Z.len s3.2.2)) then Z.bnd (Z.set s3.2.2 (Z.addN 0 (Z.toN s3.2.1)) x16) fun (x21 : List (List (Int))) =>
 Z.bnd (Z.wrap .i64 (Z.add s3.1 x7)) fun (x22 : Int) =>
 Z.bnd (Z.wrap .i64 (Z.add s3.2.1 1)) fun (x23 : Int) =>
 k4 (x22,(x23,x21))
 else none
 else none
 else none
 else none
 else none
 else none
 else if (Z.Le (Z.addN 0 (Z.toN (Z.ofN (Z.len d0.2)))) (Z.len s3.2.2)) then some (Z.seg s3.2.2 0 (Z.toN (Z.ofN (Z.len d0.2))))
 else none)) (0,(0,(Z.rep (α:=List (Int)) (Z.toN (Z.ofN (Z.len d0.2))) ([] : List (Int)))))
 else none
def yYn : PFn:={ args:=[(.list (.int .u8)),(.list (.int .i64))],res:=[(.list (.list (.int .u8)))],fn:=yZn }
def vYd : List LSpec×List Nat:=([{ id:=3700,known:=true,toks:=[],items:=[.slot 6 (.val (.int .i64)), .slot 14 (.val (.int .i64)), .vec 1000005 (.list (.int .u8))],junk:=[15,16,17,18,7,8,19,20,21,22,23,24,25,26,27,28,29,30,31,32,33,34],tails:=[] }],[])
def vYc : List LSpec×List Nat:=([],[5])
def vYe : List LSpec×List Nat:=([{ id:=2800,known:=true,toks:=[(9000000,(.int .u8)),(9000000,(.mix 900000001 (.int .u8))),(7005000,(.mix 900000001 (.mix 900000002 (.int .u8))))],items:=[.slot 18 (.val (.int .i64)), .cells 1000004 [.val (.mix 2005000 (.mix 12005000 (.mix 22005000 (.int .u8))))], .rows 2005000 (.mix 12005000 (.mix 22005000 (.int .u8))), .rows 22005000 (.int .u8), .rows 12005000 (.mix 22005000 (.int .u8))],junk:=[19,20,21,22,5,6,23,24,25,26,27,28,29,30,31,32,33,34,35],tails:=[] }],[4000000001])
def spt37 : Tab (List LSpec×List Nat):=(.node (.node .leaf none (.node .leaf none (.node (.node (.node .leaf (some vYd) .leaf) none .leaf) none .leaf))) none (.node (.node .leaf none (.node (.node (.node (.node .leaf (some vYc) .leaf) none .leaf) none .leaf) none (.node .leaf (some vYe) .leaf))) none .leaf))
def spf37 (f : Nat) : List LSpec×List Nat:=(spt37.get f).getD ([],[])
theorem xJk : zWx Try.prog cfg 37 yYn:=fnD spf37 (l:=[]) zXl zQ1 .nil (fun d=>by kernel_rfl)
def xKl (d0 : (Int)×((Int)×((Int)×((Int)×((Int)×((Int)×((Int)×((Int)×((Int)×(Unit)))))))))) : Option (((List (List (List (Int))))×(Unit))×(Int)) :=
 Z.bind (zJ7 (d0.1,(d0.2.1,(d0.2.2.1,(d0.2.2.2.1,(d0.2.2.2.2.1,(d0.2.2.2.2.2.1,(d0.2.2.2.2.2.2.1,(d0.2.2.2.2.2.2.2.1,(d0.2.2.2.2.2.2.2.2.1,())))))))))) fun (x1 : (List ((Int)×((Int)×(Unit))))×(Int)) =>
 (bif (Z.ine x1.2 0) then some ((([] : List (List (List (Int)))),()),x1.2)
 else if (Z.EqN 0 (Z.len ([] : List (List (List (Int)))))) then Z.loop (fun (s4 : (Int)×(List (List (List (Int))))) k5 =>
 (bif (Z.ilt s4.1 (Z.ofN (Z.len x1.1))) then if (Z.Ix s4.1 (Z.len x1.1)) then Z.bnd (Z.get x1.1 (Z.toN s4.1) (0,(0,()))) fun (x8 : (Int)×((Int)×(Unit))) =>
 if (Z.Le (Z.addN 0 1) (Z.len (x8.2.1::([] : List (Int))))) then Z.bind (zW7 ((Z.seg (x8.2.1::([] : List (Int))) 0 1),x8.1)) fun (x11 : List (Int)) =>
 Z.bnd (Z.wrap .i64 (Z.mul x8.1 x8.2.1)) fun (x12 : Int) =>
 if (Z.MkOk x12 x12 1) then if (Z.Le (Z.addN 0 (Z.toN x12)) (Z.len (Z.rep (α:=Int) (Z.toN x12) 0))) then Z.bind (yZn ((Z.seg (Z.rep (α:=Int) (Z.toN x12) 0) 0 (Z.toN x12)),x11)) fun (x17 : List (List (Int))) =>
 if (Z.Le (Z.addN 0 1) (Z.len (x17::([] : List (List (List (Int))))))) then if (Z.Big (Z.len s4.2) (Z.len (Z.seg (x17::([] : List (List (List (Int))))) 0 1)) 24) then none
 else if (Z.EqN (Z.len s4.2) (Z.len s4.2)) then Z.bnd (Z.app s4.2 (Z.seg (x17::([] : List (List (List (Int))))) 0 1)) fun (x24 : List (List (List (Int)))) =>
 Z.bnd (Z.wrap .i64 (Z.add s4.1 1)) fun (x25 : Int) =>
 if (Z.EqN (Z.len x24) (Z.len x24)) then k5 (x25,x24)
 else none
 else none
 else none
 else none
 else none
 else none
 else none
 else some ((s4.2,()),0))) (0,([] : List (List (List (Int)))))
 else none)
def xJo : PFn:={ args:=[(.pair (.int .i64) (.pair (.int .i64) (.pair (.int .i64) (.pair (.int .i64) (.pair (.int .i64) (.pair (.int .i64) (.pair (.int .i64) (.pair (.int .i64) (.pair (.int .i64) .unit)))))))))],res:=[(.pair (.list (.list (.list (.int .u8)))) .unit),(.int .i64)],fn:=xKl }
def sp9_9 : List LSpec×List Nat:=([{ id:=900,known:=true,toks:=[(2002000,(.list (.list (.int .u8))))],items:=[.slot 21 (.val (.int .i64)), .cells 1000006 [.slt (.list (.list (.int .u8))) (some 2002000) false]],junk:=[22,23,24,8,25,26,27,28,29,30,9,31,32,33,34,35,36,37,38,39,40,41,42,43,44],tails:=[(2002000,2002000)] }],[])
def sp9_68 : List LSpec×List Nat:=([],[5])
def sp9_28 : List LSpec×List Nat:=([{ id:=2800,known:=true,toks:=[(9000000,(.int .u8)),(9000000,(.mix 900000001 (.int .u8))),(7005000,(.mix 900000001 (.mix 900000002 (.int .u8))))],items:=[.slot 18 (.val (.int .i64)), .cells 1000004 [.val (.mix 2005000 (.mix 12005000 (.mix 22005000 (.int .u8))))], .rows 2005000 (.mix 12005000 (.mix 22005000 (.int .u8))), .rows 22005000 (.int .u8), .rows 12005000 (.mix 22005000 (.int .u8))],junk:=[19,20,21,22,5,6,23,24,25,26,27,28,29,30,31,32,33,34,35],tails:=[] }],[4000000001])
def spt9 : Tab (List LSpec×List Nat):=(.node (.node .leaf none (.node (.node .leaf (some sp9_9) .leaf) none .leaf)) none (.node (.node .leaf none (.node (.node (.node (.node .leaf (some sp9_68) .leaf) none .leaf) none .leaf) none (.node .leaf (some sp9_28) .leaf))) none .leaf))
def spf9 (f : Nat) : List LSpec×List Nat:=(spt9.get f).getD ([],[])
theorem wZy : zWx Try.prog cfg 9 xJo:=fnD spf9 (l:=[(35,yQh),(36,zZs),(37,yYn)]) zXl zQ1 (.cons yX3 (.cons zJz (.cons xJk .nil))) (fun d=>by kernel_rfl)
def zZe (d0 : (Int)×((Int)×(Int))) : Option (Bool) :=
 (bif (Z.ige d0.1 d0.2.1) then some (Z.zWw true (Z.ile d0.1 d0.2.2) false)
 else some false)
def xW2 : PFn:={ args:=[(.int .i64),(.int .i64),(.int .i64)],res:=[.bool],fn:=zZe }
def vK4 : List LSpec×List Nat:=([],[5])
def vK5 : List LSpec×List Nat:=([{ id:=2800,known:=true,toks:=[(9000000,(.int .u8)),(9000000,(.mix 900000001 (.int .u8))),(7005000,(.mix 900000001 (.mix 900000002 (.int .u8))))],items:=[.slot 18 (.val (.int .i64)), .cells 1000004 [.val (.mix 2005000 (.mix 12005000 (.mix 22005000 (.int .u8))))], .rows 2005000 (.mix 12005000 (.mix 22005000 (.int .u8))), .rows 22005000 (.int .u8), .rows 12005000 (.mix 22005000 (.int .u8))],junk:=[19,20,21,22,5,6,23,24,25,26,27,28,29,30,31,32,33,34,35],tails:=[] }],[4000000001])
def spt75 : Tab (List LSpec×List Nat):=(.node .leaf none (.node (.node .leaf none (.node (.node (.node (.node .leaf (some vK4) .leaf) none .leaf) none .leaf) none (.node .leaf (some vK5) .leaf))) none .leaf))
def spf75 (f : Nat) : List LSpec×List Nat:=(spt75.get f).getD ([],[])
theorem wQd : zWx Try.prog cfg 75 xW2:=fnD spf75 (l:=[]) zXl zQ1 .nil (fun d=>by kernel_rfl)
def zKx (d0 : (Int)×((Int)×((Int)×((Int)×((Int)×((Int)×((Int)×((Int)×((Int)×(Unit)))))))))) : Option (Bool) :=
 Z.bind (zZe (d0.1,(1,64))) fun (x1 : Bool) =>
 (bif x1 then Z.bind (zZe (d0.2.1,(1,32))) fun (x2 : Bool) =>
 (bif (Z.zWw true x2 false) then Z.bind (zZe (d0.2.2.1,(2,8))) fun (x3 : Bool) =>
 (bif (Z.zWw true x3 false) then Z.bind (zZe (d0.2.2.2.1,(1,4))) fun (x4 : Bool) =>
 (bif (Z.zWw true x4 false) then Z.bind (zZe (d0.2.2.2.2.1,(1,64))) fun (x5 : Bool) =>
 (bif (Z.zWw true x5 false) then Z.bind (zZe (d0.2.2.2.2.2.1,(1,8))) fun (x6 : Bool) =>
 (bif (Z.zWw true x6 false) then Z.bind (zZe (d0.2.2.2.2.2.2.1,(1,4))) fun (x7 : Bool) =>
 (bif (Z.zWw true x7 false) then Z.bind (zZe (d0.2.2.2.2.2.2.2.1,(1,16))) fun (x8 : Bool) =>
 (bif (Z.zWw true x8 false) then Z.bind (zZe (d0.2.2.2.2.2.2.2.2.1,(1,16))) fun (x9 : Bool) =>
 some (Z.zWw true x9 false)
 else some false)
 else some false)
 else some false)
 else some false)
 else some false)
 else some false)
 else some false)
 else some false)
def yQe : PFn:={ args:=[(.pair (.int .i64) (.pair (.int .i64) (.pair (.int .i64) (.pair (.int .i64) (.pair (.int .i64) (.pair (.int .i64) (.pair (.int .i64) (.pair (.int .i64) (.pair (.int .i64) .unit)))))))))],res:=[.bool],fn:=zKx }
def vJh : List LSpec×List Nat:=([],[5])
def vJi : List LSpec×List Nat:=([{ id:=2800,known:=true,toks:=[(9000000,(.int .u8)),(9000000,(.mix 900000001 (.int .u8))),(7005000,(.mix 900000001 (.mix 900000002 (.int .u8))))],items:=[.slot 18 (.val (.int .i64)), .cells 1000004 [.val (.mix 2005000 (.mix 12005000 (.mix 22005000 (.int .u8))))], .rows 2005000 (.mix 12005000 (.mix 22005000 (.int .u8))), .rows 22005000 (.int .u8), .rows 12005000 (.mix 22005000 (.int .u8))],junk:=[19,20,21,22,5,6,23,24,25,26,27,28,29,30,31,32,33,34,35],tails:=[] }],[4000000001])
def spt67 : Tab (List LSpec×List Nat):=(.node .leaf none (.node (.node .leaf none (.node (.node (.node (.node .leaf (some vJh) .leaf) none .leaf) none .leaf) none (.node .leaf (some vJi) .leaf))) none .leaf))
def spf67 (f : Nat) : List LSpec×List Nat:=(spt67.get f).getD ([],[])
theorem yJl : zWx Try.prog cfg 67 yQe:=fnD spf67 (l:=[(75,xW2)]) zXl zQ1 (.cons wQd .nil) (fun d=>by kernel_rfl)
def zK0 (d0 : Int) : Option (Int) :=
 Z.loop (fun (s1 : (Int)×(Int)) k2 =>
 (bif (Z.ilt s1.2 d0) then Z.bnd (Z.wrap .i64 (Z.mul 2 s1.1)) fun (x3 : Int) =>
 Z.bnd (Z.wrap .i64 (Z.add s1.2 1)) fun (x4 : Int) =>
 k2 (x3,x4)
 else some s1.1)) (1,0)
def zJj : PFn:={ args:=[(.int .i64)],res:=[(.int .i64)],fn:=zK0 }
def vJk : List LSpec×List Nat:=([{ id:=6600,known:=true,toks:=[],items:=[.slot 3 (.val (.int .i64)), .slot 4 (.val (.int .i64))],junk:=[5,6,7,10,11,8,9],tails:=[] }],[])
def vJj : List LSpec×List Nat:=([],[5])
def vJl : List LSpec×List Nat:=([{ id:=2800,known:=true,toks:=[(9000000,(.int .u8)),(9000000,(.mix 900000001 (.int .u8))),(7005000,(.mix 900000001 (.mix 900000002 (.int .u8))))],items:=[.slot 18 (.val (.int .i64)), .cells 1000004 [.val (.mix 2005000 (.mix 12005000 (.mix 22005000 (.int .u8))))], .rows 2005000 (.mix 12005000 (.mix 22005000 (.int .u8))), .rows 22005000 (.int .u8), .rows 12005000 (.mix 22005000 (.int .u8))],junk:=[19,20,21,22,5,6,23,24,25,26,27,28,29,30,31,32,33,34,35],tails:=[] }],[4000000001])
def spt66 : Tab (List LSpec×List Nat):=(.node .leaf none (.node (.node .leaf none (.node (.node (.node (.node .leaf (some vJj) .leaf) none .leaf) none .leaf) none (.node .leaf (some vJl) .leaf))) none (.node (.node (.node (.node (.node .leaf (some vJk) .leaf) none .leaf) none .leaf) none .leaf) none .leaf)))
def spf66 (f : Nat) : List LSpec×List Nat:=(spt66.get f).getD ([],[])
theorem zYj : zWx Try.prog cfg 66 zJj:=fnD spf66 (l:=[]) zXl zQ1 .nil (fun d=>by kernel_rfl)
def yWd (d0 : Int) : Option (Int) :=
 Z.loop (fun (s1 : Int) k2 =>
 Z.bind (zK0 s1) fun (x3 : Int) =>
 (bif (Z.ilt x3 d0) then Z.bnd (Z.wrap .i64 (Z.add s1 1)) fun (x4 : Int) =>
 k2 x4
 else some s1)) 1
def yK2 : PFn:={ args:=[(.int .i64)],res:=[(.int .i64)],fn:=yWd }
def vK6 : List LSpec×List Nat:=([{ id:=7400,known:=true,toks:=[],items:=[.slot 3 (.val (.int .i64))],junk:=[4,5,6,7,8,9],tails:=[] }],[])
def vK7 : List LSpec×List Nat:=([],[5])
def vK8 : List LSpec×List Nat:=([{ id:=2800,known:=true,toks:=[(9000000,(.int .u8)),(9000000,(.mix 900000001 (.int .u8))),(7005000,(.mix 900000001 (.mix 900000002 (.int .u8))))],items:=[.slot 18 (.val (.int .i64)), .cells 1000004 [.val (.mix 2005000 (.mix 12005000 (.mix 22005000 (.int .u8))))], .rows 2005000 (.mix 12005000 (.mix 22005000 (.int .u8))), .rows 22005000 (.int .u8), .rows 12005000 (.mix 22005000 (.int .u8))],junk:=[19,20,21,22,5,6,23,24,25,26,27,28,29,30,31,32,33,34,35],tails:=[] }],[4000000001])
def spt74 : Tab (List LSpec×List Nat):=(.node .leaf none (.node (.node .leaf none (.node (.node (.node (.node .leaf (some vK7) .leaf) none .leaf) none .leaf) none (.node .leaf (some vK8) .leaf))) none (.node (.node .leaf none (.node (.node (.node .leaf (some vK6) .leaf) none .leaf) none .leaf)) none .leaf)))
def spf74 (f : Nat) : List LSpec×List Nat:=(spt74.get f).getD ([],[])
theorem xZf : zWx Try.prog cfg 74 yK2:=fnD spf74 (l:=[(66,zJj)]) zXl zQ1 (.cons zYj .nil) (fun d=>by kernel_rfl)
def zJy (d0 : (Int)×((Int)×((Int)×((Int)×((Int)×((Int)×((Int)×((Int)×((Int)×(Unit)))))))))) : Option (List ((Int)×((Int)×((Int)×((Int)×(Unit)))))) :=
 if (Z.EqN 0 (Z.len ([] : List ((Int)×((Int)×((Int)×((Int)×(Unit)))))))) then Z.loop (fun (s3 : (List ((Int)×((Int)×((Int)×((Int)×(Unit))))))×((Int)×(Int))) k4 =>
 Z.bnd (Z.wrap .i64 (Z.add 8 s3.2.2)) fun (x5 : Int) =>
 Z.bnd (Z.wrap .i64 (Z.mul d0.2.2.2.1 x5)) fun (x6 : Int) =>
 Z.bnd (Z.wrap .i64 (Z.add x6 64)) fun (x7 : Int) =>
 Z.bind (yWd s3.2.1) fun (x8 : Int) =>
 if (Z.Le (Z.addN 0 1) (Z.len ((s3.2.1,(s3.2.2,(x8,(x7,()))))::([] : List ((Int)×((Int)×((Int)×((Int)×(Unit))))))))) then if (Z.Big (Z.len s3.1) (Z.len (Z.seg ((s3.2.1,(s3.2.2,(x8,(x7,()))))::([] : List ((Int)×((Int)×((Int)×((Int)×(Unit))))))) 0 1)) 32) then none
 else if (Z.EqN (Z.len s3.1) (Z.len s3.1)) then Z.bnd (Z.app s3.1 (Z.seg ((s3.2.1,(s3.2.2,(x8,(x7,()))))::([] : List ((Int)×((Int)×((Int)×((Int)×(Unit))))))) 0 1)) fun (x15 : List ((Int)×((Int)×((Int)×((Int)×(Unit)))))) =>
 (bif (Z.ile s3.2.1 d0.2.2.2.2.2.2.2.2.1) then some x15
 else Z.bnd (Z.wrap .i64 (Z.add s3.2.1 d0.2.2.1)) fun (x16 : Int) =>
 Z.bnd (Z.wrap .i64 (Z.sub x16 1)) fun (x17 : Int) =>
 if (Z.IsZ d0.2.2.1) then none
 else Z.bnd (Z.wrap .i64 (Z.tdiv x17 d0.2.2.1)) fun (x20 : Int) =>
 Z.bnd (Z.wrap .i64 (Z.mul 4 d0.2.2.1)) fun (x21 : Int) =>
 if (Z.EqN (Z.len x15) (Z.len x15)) then k4 (x15,(x20,x21))
 else none)
 else none
 else none) (([] : List ((Int)×((Int)×((Int)×((Int)×(Unit)))))),(d0.1,d0.2.1))
 else none
def zYl : PFn:={ args:=[(.pair (.int .i64) (.pair (.int .i64) (.pair (.int .i64) (.pair (.int .i64) (.pair (.int .i64) (.pair (.int .i64) (.pair (.int .i64) (.pair (.int .i64) (.pair (.int .i64) .unit)))))))))],res:=[(.list (.pair (.int .i64) (.pair (.int .i64) (.pair (.int .i64) (.pair (.int .i64) .unit)))))],fn:=zJy }
def vJn : List LSpec×List Nat:=([{ id:=6500,known:=true,toks:=[(3,(.pair (.int .i64) (.pair (.int .i64) (.pair (.int .i64) (.pair (.int .i64) .unit)))))],items:=[.slot 3 (.slt (.pair (.int .i64) (.pair (.int .i64) (.pair (.int .i64) (.pair (.int .i64) .unit)))) (some 1000003) false), .slot 4 (.val (.int .i64)), .slot 5 (.val (.int .i64))],junk:=[10,11,12,13,14,15,16,17,18,19,20,21,22,23,24,25,26,27,28,2,29,30,31,32,33,34,35,36,37,38,39],tails:=[(1000003,3)] }],[])
def vJm : List LSpec×List Nat:=([],[5])
def vJo : List LSpec×List Nat:=([{ id:=2800,known:=true,toks:=[(9000000,(.int .u8)),(9000000,(.mix 900000001 (.int .u8))),(7005000,(.mix 900000001 (.mix 900000002 (.int .u8))))],items:=[.slot 18 (.val (.int .i64)), .cells 1000004 [.val (.mix 2005000 (.mix 12005000 (.mix 22005000 (.int .u8))))], .rows 2005000 (.mix 12005000 (.mix 22005000 (.int .u8))), .rows 22005000 (.int .u8), .rows 12005000 (.mix 22005000 (.int .u8))],junk:=[19,20,21,22,5,6,23,24,25,26,27,28,29,30,31,32,33,34,35],tails:=[] }],[4000000001])
def spt65 : Tab (List LSpec×List Nat):=(.node (.node .leaf none (.node (.node (.node (.node (.node .leaf (some vJn) .leaf) none .leaf) none .leaf) none .leaf) none .leaf)) none (.node (.node .leaf none (.node (.node (.node (.node .leaf (some vJm) .leaf) none .leaf) none .leaf) none (.node .leaf (some vJo) .leaf))) none .leaf))
def spf65 (f : Nat) : List LSpec×List Nat:=(spt65.get f).getD ([],[])
theorem yQc : zWx Try.prog cfg 65 zYl:=fnD spf65 (l:=[(74,yK2)]) zXl zQ1 (.cons xZf .nil) (fun d=>by kernel_rfl)
def yQb (d0 : (Int)×((Int)×((Int)×((Int)×((Int)×((Int)×((Int)×((Int)×((Int)×(Unit)))))))))) : Option (Bool) :=
 Z.bind (zKx (d0.1,(d0.2.1,(d0.2.2.1,(d0.2.2.2.1,(d0.2.2.2.2.1,(d0.2.2.2.2.2.1,(d0.2.2.2.2.2.2.1,(d0.2.2.2.2.2.2.2.1,(d0.2.2.2.2.2.2.2.2.1,())))))))))) fun (x1 : Bool) =>
 (bif x1 then Z.bind (zJy (d0.1,(d0.2.1,(d0.2.2.1,(d0.2.2.2.1,(d0.2.2.2.2.1,(d0.2.2.2.2.2.1,(d0.2.2.2.2.2.2.1,(d0.2.2.2.2.2.2.2.1,(d0.2.2.2.2.2.2.2.2.1,())))))))))) fun (x2 : List ((Int)×((Int)×((Int)×((Int)×(Unit)))))) =>
 some (Z.zWw true (Z.ile (Z.ofN (Z.len x2)) 4) false)
 else some false)
def yXc : PFn:={ args:=[(.pair (.int .i64) (.pair (.int .i64) (.pair (.int .i64) (.pair (.int .i64) (.pair (.int .i64) (.pair (.int .i64) (.pair (.int .i64) (.pair (.int .i64) (.pair (.int .i64) .unit)))))))))],res:=[.bool],fn:=yQb }
def vJ7 : List LSpec×List Nat:=([],[5])
def vJ8 : List LSpec×List Nat:=([{ id:=2800,known:=true,toks:=[(9000000,(.int .u8)),(9000000,(.mix 900000001 (.int .u8))),(7005000,(.mix 900000001 (.mix 900000002 (.int .u8))))],items:=[.slot 18 (.val (.int .i64)), .cells 1000004 [.val (.mix 2005000 (.mix 12005000 (.mix 22005000 (.int .u8))))], .rows 2005000 (.mix 12005000 (.mix 22005000 (.int .u8))), .rows 22005000 (.int .u8), .rows 12005000 (.mix 22005000 (.int .u8))],junk:=[19,20,21,22,5,6,23,24,25,26,27,28,29,30,31,32,33,34,35],tails:=[] }],[4000000001])
def spt50 : Tab (List LSpec×List Nat):=(.node .leaf none (.node (.node .leaf none (.node (.node (.node (.node .leaf (some vJ7) .leaf) none .leaf) none .leaf) none (.node .leaf (some vJ8) .leaf))) none .leaf))
def spf50 (f : Nat) : List LSpec×List Nat:=(spt50.get f).getD ([],[])
theorem yKy : zWx Try.prog cfg 50 yXc:=fnD spf50 (l:=[(67,yQe),(65,zYl)]) zXl zQ1 (.cons yJl (.cons yQc .nil)) (fun d=>by kernel_rfl)
def zYg (d0 : (Int)×((Int)×((Int)×((Int)×((Int)×((Int)×((Int)×((Int)×((Int)×(Unit)))))))))) : Option ((List (List (List (Int))))×(Unit)) :=
 Z.bind (zJy (d0.1,(d0.2.1,(d0.2.2.1,(d0.2.2.2.1,(d0.2.2.2.2.1,(d0.2.2.2.2.2.1,(d0.2.2.2.2.2.2.1,(d0.2.2.2.2.2.2.2.1,(d0.2.2.2.2.2.2.2.2.1,())))))))))) fun (x1 : List ((Int)×((Int)×((Int)×((Int)×(Unit)))))) =>
 if (Z.EqN 0 (Z.len ([] : List (List (List (Int)))))) then Z.loop (fun (s4 : (Int)×(List (List (List (Int))))) k5 =>
 (bif (Z.ilt s4.1 (Z.ofN (Z.len x1))) then if (Z.EqN 0 (Z.len ([] : List (List (Int))))) then Z.loop (fun (s8 : (List (List (Int)))×(Int)) k9 =>
 if (Z.Ix s4.1 (Z.len x1)) then Z.bnd (Z.get x1 (Z.toN s4.1) (0,(0,(0,(0,()))))) fun (x12 : (Int)×((Int)×((Int)×((Int)×(Unit))))) =>
 Z.bind (zK0 x12.2.2.1) fun (x13 : Int) =>
 Z.bnd (Z.wrap .i64 (Z.mul 2 x13)) fun (x14 : Int) =>
 (bif (Z.ilt s8.2 x14) then if (Z.Ix s4.1 (Z.len x1)) then Z.bnd (Z.get x1 (Z.toN s4.1) (0,(0,(0,(0,()))))) fun (x17 : (Int)×((Int)×((Int)×((Int)×(Unit))))) =>
 Z.bnd (Z.wrap .i64 (Z.add 8 x17.2.2.2.1)) fun (x18 : Int) =>
 if (Z.MkOk x18 x18 1) then if (Z.Le (Z.addN 0 (Z.toN x18)) (Z.len (Z.rep (α:=Int) (Z.toN x18) 0))) then if (Z.Big (Z.len s8.1) (Z.len ((Z.seg (Z.rep (α:=Int) (Z.toN x18) 0) 0 (Z.toN x18))::([] : List (List (Int))))) 24) then none
 else if (Z.EqN (Z.len s8.1) (Z.len s8.1)) then Z.bnd (Z.app s8.1 ((Z.seg (Z.rep (α:=Int) (Z.toN x18) 0) 0 (Z.toN x18))::([] : List (List (Int))))) fun (x27 : List (List (Int))) =>
 Z.bnd (Z.wrap .i64 (Z.add s8.2 1)) fun (x28 : Int) =>
 if (Z.EqN (Z.len x27) (Z.len x27)) then k9 (x27,x28)
 else none
 else none
 else none
 else none
 else none
 else if (Z.Le (Z.addN 0 1) (Z.len (s8.1::([] : List (List (List (Int))))))) then if (Z.Big (Z.len s4.2) (Z.len (Z.seg (s8.1::([] : List (List (List (Int))))) 0 1)) 24) then none
 else if (Z.EqN (Z.len s4.2) (Z.len s4.2)) then Z.bnd (Z.app s4.2 (Z.seg (s8.1::([] : List (List (List (Int))))) 0 1)) fun (x37 : List (List (List (Int)))) =>
 Z.bnd (Z.wrap .i64 (Z.add s4.1 1)) fun (x38 : Int) =>
 if (Z.EqN (Z.len x37) (Z.len x37)) then k5 (x38,x37)
 else none
 else none
 else none)
 else none) (([] : List (List (Int))),1)
 else none
 else some (s4.2,()))) (0,([] : List (List (List (Int)))))
 else none
def yX7 : PFn:={ args:=[(.pair (.int .i64) (.pair (.int .i64) (.pair (.int .i64) (.pair (.int .i64) (.pair (.int .i64) (.pair (.int .i64) (.pair (.int .i64) (.pair (.int .i64) (.pair (.int .i64) .unit)))))))))],res:=[(.pair (.list (.list (.list (.int .u8)))) .unit)],fn:=zYg }
def vJ5 : List LSpec×List Nat:=([{ id:=5100,known:=true,toks:=[(2002000,(.list (.list (.int .u8))))],items:=[.slot 5 (.val (.int .i64)), .cells 1000003 [.slt (.list (.list (.int .u8))) (some 2002000) false]],junk:=[10,11,12,13,6,7,16,17,18,19,20,21,22,23,24,27,28,29,30,31,32,33,34,35,36,25,26,37,38,39,40,41,42,14,15],tails:=[(2002000,2002000)] },{ id:=5101,known:=true,toks:=[(6,(.list (.int .u8)))],items:=[.slot 6 (.slt (.list (.int .u8)) (some 1000006) false), .slot 7 (.val (.int .i64))],junk:=[16,17,18,19,20,21,22,23,24,27,28,29,30,31,32,33,34,35,36,25,26],tails:=[(1000006,6)] }],[])
def vJ4 : List LSpec×List Nat:=([],[5])
def vJ6 : List LSpec×List Nat:=([{ id:=2800,known:=true,toks:=[(9000000,(.int .u8)),(9000000,(.mix 900000001 (.int .u8))),(7005000,(.mix 900000001 (.mix 900000002 (.int .u8))))],items:=[.slot 18 (.val (.int .i64)), .cells 1000004 [.val (.mix 2005000 (.mix 12005000 (.mix 22005000 (.int .u8))))], .rows 2005000 (.mix 12005000 (.mix 22005000 (.int .u8))), .rows 22005000 (.int .u8), .rows 12005000 (.mix 22005000 (.int .u8))],junk:=[19,20,21,22,5,6,23,24,25,26,27,28,29,30,31,32,33,34,35],tails:=[] }],[4000000001])
def spt51 : Tab (List LSpec×List Nat):=(.node (.node (.node .leaf none (.node (.node .leaf none (.node .leaf (some vJ5) .leaf)) none .leaf)) none .leaf) none (.node (.node .leaf none (.node (.node (.node (.node .leaf (some vJ4) .leaf) none .leaf) none .leaf) none (.node .leaf (some vJ6) .leaf))) none .leaf))
def spf51 (f : Nat) : List LSpec×List Nat:=(spt51.get f).getD ([],[])
theorem xQ7 : zWx Try.prog cfg 51 yX7:=fnD spf51 (l:=[(65,zYl),(66,zJj)]) zXl zQ1 (.cons yQc (.cons zYj .nil)) (fun d=>by kernel_rfl)
def yXx (d0 : (Int)×((Int)×((Int)×((Int)×((Int)×((Int)×((Int)×((Int)×((Int)×(Unit)))))))))) : Option (((List (List (List (Int))))×(Unit))×(Int)) :=
 Z.bind (yQb (d0.1,(d0.2.1,(d0.2.2.1,(d0.2.2.2.1,(d0.2.2.2.2.1,(d0.2.2.2.2.2.1,(d0.2.2.2.2.2.2.1,(d0.2.2.2.2.2.2.2.1,(d0.2.2.2.2.2.2.2.2.1,())))))))))) fun (x1 : Bool) =>
 (bif (Z.bnot x1) then some ((([] : List (List (List (Int)))),()),8)
 else Z.bind (zYg (d0.1,(d0.2.1,(d0.2.2.1,(d0.2.2.2.1,(d0.2.2.2.2.1,(d0.2.2.2.2.2.1,(d0.2.2.2.2.2.2.1,(d0.2.2.2.2.2.2.2.1,(d0.2.2.2.2.2.2.2.2.1,())))))))))) fun (x2 : (List (List (List (Int))))×(Unit)) =>
 some ((x2.1,()),0))
def yYl : PFn:={ args:=[(.pair (.int .i64) (.pair (.int .i64) (.pair (.int .i64) (.pair (.int .i64) (.pair (.int .i64) (.pair (.int .i64) (.pair (.int .i64) (.pair (.int .i64) (.pair (.int .i64) .unit)))))))))],res:=[(.pair (.list (.list (.list (.int .u8)))) .unit),(.int .i64)],fn:=yXx }
def vYs : List LSpec×List Nat:=([],[5])
def vYt : List LSpec×List Nat:=([{ id:=2800,known:=true,toks:=[(9000000,(.int .u8)),(9000000,(.mix 900000001 (.int .u8))),(7005000,(.mix 900000001 (.mix 900000002 (.int .u8))))],items:=[.slot 18 (.val (.int .i64)), .cells 1000004 [.val (.mix 2005000 (.mix 12005000 (.mix 22005000 (.int .u8))))], .rows 2005000 (.mix 12005000 (.mix 22005000 (.int .u8))), .rows 22005000 (.int .u8), .rows 12005000 (.mix 22005000 (.int .u8))],junk:=[19,20,21,22,5,6,23,24,25,26,27,28,29,30,31,32,33,34,35],tails:=[] }],[4000000001])
def spt27 : Tab (List LSpec×List Nat):=(.node .leaf none (.node (.node .leaf none (.node (.node (.node (.node .leaf (some vYs) .leaf) none .leaf) none .leaf) none (.node .leaf (some vYt) .leaf))) none .leaf))
def spf27 (f : Nat) : List LSpec×List Nat:=(spt27.get f).getD ([],[])
theorem xJi : zWx Try.prog cfg 27 yYl:=fnD spf27 (l:=[(50,yXc),(51,yX7)]) zXl zQ1 (.cons yKy (.cons xQ7 .nil)) (fun d=>by kernel_rfl)
def zWh (d0 : List (List (Int))) : Option (List (Int)) :=
 Z.loop (fun (s1 : (Int)×(Int)) k2 =>
 (bif (Z.ilt s1.2 (Z.ofN (Z.len d0))) then if (Z.Ix s1.2 (Z.len d0)) then Z.bnd (Z.get d0 (Z.toN s1.2) ([] : List (Int))) fun (x5 : List (Int)) =>
 Z.bnd (Z.wrap .i64 (Z.add s1.1 (Z.ofN (Z.len x5)))) fun (x6 : Int) =>
 (bif (Z.ilt x6 0) then none
 else Z.bnd (Z.wrap .i64 (Z.add s1.2 1)) fun (x7 : Int) =>
 k2 (x6,x7))
 else none
 else (bif (Z.ilt s1.1 0) then none
 else Z.bnd (Z.wrap .i64 (Z.sub 0 0)) fun (x8 : Int) =>
 Z.bnd (Z.wrap .i64 (Z.sub s1.1 x8)) fun (x9 : Int) =>
 (bif (Z.igt x9 0) then if (Z.Bd 0 0) then if (Z.ZOk x9 1) then Z.bnd (Z.rep (α:=Int) (Z.toN x9) 0) fun (x14 : List (Int)) =>
 if (Z.EqN (Z.len x14) 0) then none
 else if (Z.Big (Z.len ([] : List (Int))) (Z.len x14) 1) then none
 else Z.bnd (Z.app ([] : List (Int)) x14) fun (x19 : List (Int)) =>
 if (Z.Bd 0 (Z.len x19)) then if (Z.Lt 0 (Z.len x19)) then if (Z.EqN (Z.subN (Z.toN 0) 0) 0) then if (Z.EqN 0 (Z.len ([] : List (Int)))) then Z.loop (fun (s28 : (List (Int))×(Int)) k29 =>
 (bif (Z.ilt s28.2 (Z.ofN (Z.len d0))) then if (Z.Ix s28.2 (Z.len d0)) then Z.bnd (Z.get d0 (Z.toN s28.2) ([] : List (Int))) fun (x32 : List (Int)) =>
 if (Z.Big (Z.len s28.1) (Z.len x32) 1) then none
 else if (Z.EqN (Z.len s28.1) (Z.len s28.1)) then Z.bnd (Z.app s28.1 x32) fun (x37 : List (Int)) =>
 Z.bnd (Z.wrap .i64 (Z.add s28.2 1)) fun (x38 : Int) =>
 if (Z.EqN (Z.len x37) (Z.len x37)) then k29 (x37,x38)
 else none
 else none
 else none
 else if (Z.EqN (Z.len s28.1) (Z.len s28.1)) then some s28.1
 else none)) (([] : List (Int)),0)
 else none
 else none
 else none
 else none
 else none
 else none
 else if (Z.EqN 0 (Z.len ([] : List (Int)))) then Z.loop (fun (s45 : (List (Int))×(Int)) k46 =>
 (bif (Z.ilt s45.2 (Z.ofN (Z.len d0))) then if (Z.Ix s45.2 (Z.len d0)) then Z.bnd (Z.get d0 (Z.toN s45.2) ([] : List (Int))) fun (x49 : List (Int)) =>
 if (Z.Big (Z.len s45.1) (Z.len x49) 1) then none
 else if (Z.EqN (Z.len s45.1) (Z.len s45.1)) then Z.bnd (Z.app s45.1 x49) fun (x54 : List (Int)) =>
 Z.bnd (Z.wrap .i64 (Z.add s45.2 1)) fun (x55 : Int) =>
 if (Z.EqN (Z.len x54) (Z.len x54)) then k46 (x54,x55)
 else none
 else none
 else none
 else if (Z.EqN (Z.len s45.1) (Z.len s45.1)) then some s45.1
 else none)) (([] : List (Int)),0)
 else none)))) (0,0)
def zZc : PFn:={ args:=[(.list (.list (.int .u8)))],res:=[(.list (.int .u8))],fn:=zWh }
def vJ1 : List LSpec×List Nat:=([],[5])
def vJ2 : List LSpec×List Nat:=([{ id:=5300,known:=true,toks:=[],items:=[.slot 3 (.val (.int .i64)), .slot 11 (.val (.int .i64))],junk:=[12,13,14,5,15,16,17,18,19,20,21,22],tails:=[] },{ id:=5301,known:=true,toks:=[(6,(.int .u8))],items:=[.slot 6 (.slt (.int .u8) (some 1000006) false), .slot 27 (.val (.int .i64))],junk:=[28,29,30,8,31,32,33,34],tails:=[(1000006,6)] }],[])
def vJ3 : List LSpec×List Nat:=([{ id:=2800,known:=true,toks:=[(9000000,(.int .u8)),(9000000,(.mix 900000001 (.int .u8))),(7005000,(.mix 900000001 (.mix 900000002 (.int .u8))))],items:=[.slot 18 (.val (.int .i64)), .cells 1000004 [.val (.mix 2005000 (.mix 12005000 (.mix 22005000 (.int .u8))))], .rows 2005000 (.mix 12005000 (.mix 22005000 (.int .u8))), .rows 22005000 (.int .u8), .rows 12005000 (.mix 22005000 (.int .u8))],junk:=[19,20,21,22,5,6,23,24,25,26,27,28,29,30,31,32,33,34,35],tails:=[] }],[4000000001])
def spt53 : Tab (List LSpec×List Nat):=(.node (.node .leaf none (.node .leaf none (.node (.node .leaf none (.node .leaf (some vJ2) .leaf)) none .leaf))) none (.node (.node .leaf none (.node (.node (.node (.node .leaf (some vJ1) .leaf) none .leaf) none .leaf) none (.node .leaf (some vJ3) .leaf))) none .leaf))
def spf53 (f : Nat) : List LSpec×List Nat:=(spt53.get f).getD ([],[])
def zXa : OFn:={ args:=[(.list (.list (.int .u8)))],ores:=[(.own (.int .u8))],fn:=zWh }
theorem zZb : OwnD Try.prog cfg 53 zXa∧zWx Try.prog cfg 53 zXa.pfn:=fnO spf53 [] (l:=[]) (lo:=[]) zXl zQ1 .nil .nil (fun d=>by kernel_rfl)
theorem zJg : zWx Try.prog cfg 53 zZc:=zZb.2
def yWo (d0 : (List (List (List (Int))))×(Unit)) : Option (((List (List (Int)))×((List (List (MixE (Int))))×(List (List (MixE (MixE (Int)))))))×((MixE (MixE (MixE (Int))))×(Unit))) :=
 if (Z.MkOk (Z.ofN (Z.len d0.1)) (Z.ofN (Z.len d0.1)) 24) then Z.loop (fun (s3 : (Int)×((List (MixE (Int)))×(List (List (Int))))) k4 =>
 (bif (Z.ilt s3.1 (Z.ofN (Z.len d0.1))) then if (Z.Ix s3.1 (Z.len d0.1)) then Z.bnd (Z.get d0.1 (Z.toN s3.1) ([] : List (List (Int)))) fun (x7 : List (List (Int))) =>
 Z.loop (fun (s8 : (Int)×((List (MixE (Int)))×(List (List (Int))))) k9 =>
 (bif (Z.ilt s8.1 (Z.ofN (Z.len x7))) then if (Z.Ix s8.1 (Z.len x7)) then Z.bnd (Z.get x7 (Z.toN s8.1) ([] : List (Int))) fun (x12 : List (Int)) =>
 if (Z.In s3.1 (Z.toN (Z.ofN (Z.len d0.1)))) then if (Z.Lt (Z.addN 0 (Z.toN s3.1)) (Z.len s8.2.1)) then Z.bnd (Z.get s8.2.1 (Z.addN 0 (Z.toN s3.1)) (MixE.nil : MixE (Int))) fun (x17 : MixE (Int)) =>
 if (Z.Le (Z.addN 0 1) (Z.len ((Z.ofN (Z.len x12))::([] : List (Int))))) then if (Z.XGr s8.2.2 x17) then if (Z.EqN (Z.len (Z.seg ((Z.ofN (Z.len x12))::([] : List (Int))) 0 1)) 0) then if (Z.In s3.1 (Z.toN (Z.ofN (Z.len d0.1)))) then if (Z.Lt (Z.addN 0 (Z.toN s3.1)) (Z.len s8.2.1)) then Z.bnd (Z.set s8.2.1 (Z.addN 0 (Z.toN s3.1)) x17) fun (x28 : List (MixE (Int))) =>
 Z.bnd (Z.wrap .i64 (Z.add s8.1 1)) fun (x29 : Int) =>
 k9 (x29,(x28,s8.2.2))
 else none
 else none
 else if (Z.Big (Z.xlen x17) (Z.len (Z.seg ((Z.ofN (Z.len x12))::([] : List (Int))) 0 1)) 8) then none
 else Z.bnd (Z.xapp s8.2.2 x17 (Z.seg ((Z.ofN (Z.len x12))::([] : List (Int))) 0 1)) fun (x32 : List (List (Int))) =>
 Z.bnd (Z.vKg x17 (Z.len (Z.seg ((Z.ofN (Z.len x12))::([] : List (Int))) 0 1))) fun (x33 : MixE (Int)) =>
 if (Z.In s3.1 (Z.toN (Z.ofN (Z.len d0.1)))) then if (Z.Lt (Z.addN 0 (Z.toN s3.1)) (Z.len s8.2.1)) then Z.bnd (Z.set s8.2.1 (Z.addN 0 (Z.toN s3.1)) x33) fun (x38 : List (MixE (Int))) =>
 Z.bnd (Z.wrap .i64 (Z.add s8.1 1)) fun (x39 : Int) =>
 k9 (x39,(x38,x32))
 else none
 else none
 else none
 else none
 else none
 else none
 else none
 else Z.bnd (Z.wrap .i64 (Z.add s3.1 1)) fun (x40 : Int) =>
 k4 (x40,(s8.2.1,s8.2.2)))) (0,(s3.2.1,s3.2.2))
 else none
 else Z.loop (fun (s41 : (Int)×((MixE (MixE (MixE (Int))))×((List (List (MixE (MixE (Int)))))×((List (List (Int)))×(List (List (MixE (Int)))))))) k42 =>
 (bif (Z.ilt s41.1 (Z.ofN (Z.len d0.1))) then if (Z.Ix s41.1 (Z.len d0.1)) then Z.bnd (Z.get d0.1 (Z.toN s41.1) ([] : List (List (Int)))) fun (x45 : List (List (Int))) =>
 if (Z.In s41.1 (Z.toN (Z.ofN (Z.len d0.1)))) then if (Z.Lt (Z.addN 0 (Z.toN s41.1)) (Z.len s3.2.1)) then Z.bnd (Z.get s3.2.1 (Z.addN 0 (Z.toN s41.1)) (MixE.nil : MixE (Int))) fun (x50 : MixE (Int)) =>
 Z.bind (zWh x45) fun (x51 : List (Int)) =>
 Z.bnd (Z.app s41.2.2.2.1 (x51::([] : List (List (Int))))) fun (x52 : List (List (Int))) =>
 if (Z.MkOk (Z.ofN (Z.xlen x50)) (Z.ofN (Z.xlen x50)) 24) then Z.bind (Z.mapO (fun (e55 : List (Int)) =>
 some (Z.yW5 e55)) (Z.rep (α:=List (Int)) (Z.toN (Z.ofN (Z.xlen x50))) ([] : List (Int)))) fun (x56 : List (MixE (Int))) =>
 Z.loop (fun (s57 : (List (MixE (Int)))×((Int)×(Int))) k58 =>
 (bif (Z.ilt s57.2.2 (Z.ofN (Z.xlen x50))) then if (Z.Ix s57.2.2 (Z.xlen x50)) then if (Z.XPt s3.2.2 x50 (Z.toN s57.2.2)) then if (Z.XPt s3.2.2 x50 (Z.toN s57.2.2)) then Z.bnd (Z.xat s3.2.2 x50 (Z.toN s57.2.2) 0) fun (x65 : Int) =>
 Z.bnd (Z.wrap .i64 (Z.add s57.2.1 x65)) fun (x66 : Int) =>
 Z.bnd (Z.wrap .i64 (Z.add s57.2.1 x65)) fun (x67 : Int) =>
 if (Z.XCut x52 (Z.xrow (Z.len s41.2.2.2.1) x51)) then if (Z.Bd x67 (Z.xlen (Z.xrow (Z.len s41.2.2.2.1) x51))) then if (Z.Bd x66 (Z.toN x67)) then if (Z.Bd s57.2.1 (Z.toN x66)) then Z.bnd (Z.xcut (Z.xrow (Z.len s41.2.2.2.1) x51) (Z.toN s57.2.1) (Z.toN x66)) fun (x76 : MixE (Int)) =>
 if (Z.In s57.2.2 (Z.toN (Z.ofN (Z.xlen x50)))) then if (Z.Lt (Z.addN 0 (Z.toN s57.2.2)) (Z.len s57.1)) then Z.bnd (Z.set s57.1 (Z.addN 0 (Z.toN s57.2.2)) x76) fun (x81 : List (MixE (Int))) =>
 Z.bnd (Z.wrap .i64 (Z.add s57.2.1 x65)) fun (x82 : Int) =>
 Z.bnd (Z.wrap .i64 (Z.add s57.2.2 1)) fun (x83 : Int) =>
 k58 (x81,(x82,x83))
 else none
 else none
 else none
 else none
 else none
 else none
 else none
 else none
 else none
 else if (Z.EqN 0 0) then if (Z.EqN (Z.toN (Z.ofN (Z.xlen x50))) (Z.len s57.1)) then Z.bnd (Z.app s41.2.2.2.2 (s57.1::([] : List (List (MixE (Int)))))) fun (x88 : List (List (MixE (Int)))) =>
 if (Z.XGr s41.2.2.1 s41.2.1) then if (Z.EqN (Z.len ((Z.xnew (α:=MixE (Int)) (Z.len s41.2.2.2.2) (Z.toN (Z.ofN (Z.xlen x50))))::([] : List (MixE (MixE (Int)))))) 0) then Z.bnd (Z.wrap .i64 (Z.add s41.1 1)) fun (x93 : Int) =>
 k42 (x93,(s41.2.1,(s41.2.2.1,(x52,x88))))
 else if (Z.Big (Z.xlen s41.2.1) (Z.len ((Z.xnew (α:=MixE (Int)) (Z.len s41.2.2.2.2) (Z.toN (Z.ofN (Z.xlen x50))))::([] : List (MixE (MixE (Int)))))) 24) then none
 else Z.bnd (Z.xapp s41.2.2.1 s41.2.1 ((Z.xnew (α:=MixE (Int)) (Z.len s41.2.2.2.2) (Z.toN (Z.ofN (Z.xlen x50))))::([] : List (MixE (MixE (Int)))))) fun (x96 : List (List (MixE (MixE (Int))))) =>
 Z.bnd (Z.vKg s41.2.1 (Z.len ((Z.xnew (α:=MixE (Int)) (Z.len s41.2.2.2.2) (Z.toN (Z.ofN (Z.xlen x50))))::([] : List (MixE (MixE (Int))))))) fun (x97 : MixE (MixE (MixE (Int)))) =>
 Z.bnd (Z.wrap .i64 (Z.add s41.1 1)) fun (x98 : Int) =>
 k42 (x98,(x97,(x96,(x52,x88))))
 else none
 else none
 else none)) (x56,(0,0))
 else none
 else none
 else none
 else none
 else some ((s41.2.2.2.1,(s41.2.2.2.2,s41.2.2.1)),(s41.2.1,())))) (0,((Z.xnew (α:=MixE (MixE (Int))) 0 0),((([] : List (MixE (MixE (Int))))::([] : List (List (MixE (MixE (Int)))))),(([] : List (List (Int))),([] : List (List (MixE (Int)))))))))) (0,((Z.xYx (α:=Int) (Z.toN (Z.ofN (Z.len d0.1)))),(Z.rep (α:=List (Int)) (Z.toN (Z.ofN (Z.len d0.1))) ([] : List (Int)))))
 else none
def xY8 : List LSpec×List Nat:=([{ id:=3700,known:=true,toks:=[(5500005,(.mix 1000000 (.int .u8)))],items:=[.vec 1000005 (.mix 1000000 (.int .u8)), .slot 6 (.val (.int .i64)), .slot 14 (.val (.int .i64))],junk:=[15,16,17,18,7,8,19,20,21,22,23,24,25,26,27,28,29,30,31,32,33,34],tails:=[] }],[888888])
def xY7 : List LSpec×List Nat:=([{ id:=4400,known:=true,toks:=[],items:=[.slot 11 (.val (.int .i64)), .vec 2004000 (.mix 3 (.int .i64)), .rows 3 (.int .i64)],junk:=[12,13,14,15,5,6,16,17,18,19,20,21,8,22,23,24,25,26,4,27,28],tails:=[] },{ id:=4401,known:=true,toks:=[],items:=[.slot 18 (.val (.int .i64)), .vec 2004000 (.mix 3 (.int .i64)), .rows 3 (.int .i64)],junk:=[19,20,21,8,22,23,24,25,26,4,27],tails:=[] }],[])
def xY6 : List LSpec×List Nat:=([],[5])
def xY9 : List LSpec×List Nat:=([{ id:=2800,known:=true,toks:=[(9000000,(.int .u8)),(9000000,(.mix 900000001 (.int .u8))),(7005000,(.mix 900000001 (.mix 900000002 (.int .u8))))],items:=[.slot 18 (.val (.int .i64)), .cells 1000004 [.val (.mix 2005000 (.mix 12005000 (.mix 22005000 (.int .u8))))], .rows 2005000 (.mix 12005000 (.mix 22005000 (.int .u8))), .rows 22005000 (.int .u8), .rows 12005000 (.mix 22005000 (.int .u8))],junk:=[19,20,21,22,5,6,23,24,25,26,27,28,29,30,31,32,33,34,35],tails:=[] }],[4000000001])
def wJp : Tab (List LSpec×List Nat):=(.node (.node .leaf none (.node .leaf none (.node (.node (.node .leaf (some xY8) .leaf) none .leaf) none .leaf))) none (.node (.node .leaf none (.node (.node (.node (.node .leaf (some xY6) .leaf) none .leaf) none .leaf) none (.node (.node .leaf (some xY7) .leaf) (some xY9) .leaf))) none .leaf))
def wJq (f : Nat) : List LSpec×List Nat:=(wJp.get f).getD ([],[])
def yKx : RFn:={ args:=[(.pair (.list (.list (.list (.int .u8)))) .unit)],objs:=[(.int .u8),(.mix 0 (.int .u8)),(.mix 1 (.mix 0 (.int .u8)))],res:=[(.pair (.mix 2 (.mix 1 (.mix 0 (.int .u8)))) .unit)],fn:=yWo }
theorem xZa : OwnR Try.prog cfg 28 yKx:=fnR wJq [] (l:=[(53,zZc)]) (lo:=[(53,zXa)]) (lr:=[]) zXl zQ1 (.cons zJg .nil) (.cons zZb.1 .nil) .nil (fun d=>by kernel_rfl)
def yWe (d0 : (List (Int))×(List (Int))) : Option (Bool) :=
 Z.bnd (Z.str d0.1) fun (x1 : List (UInt8)) =>
 Z.bnd (Z.str d0.2) fun (x2 : List (UInt8)) =>
 some (Z.seq x1 x2)
def yK3 : PFn:={ args:=[(.list (.int .u8)),(.list (.int .u8))],res:=[.bool],fn:=yWe }
def vYl : List LSpec×List Nat:=([],[5])
def vYm : List LSpec×List Nat:=([{ id:=2800,known:=true,toks:=[(9000000,(.int .u8)),(9000000,(.mix 900000001 (.int .u8))),(7005000,(.mix 900000001 (.mix 900000002 (.int .u8))))],items:=[.slot 18 (.val (.int .i64)), .cells 1000004 [.val (.mix 2005000 (.mix 12005000 (.mix 22005000 (.int .u8))))], .rows 2005000 (.mix 12005000 (.mix 22005000 (.int .u8))), .rows 22005000 (.int .u8), .rows 12005000 (.mix 22005000 (.int .u8))],junk:=[19,20,21,22,5,6,23,24,25,26,27,28,29,30,31,32,33,34,35],tails:=[] }],[4000000001])
def spt34 : Tab (List LSpec×List Nat):=(.node .leaf none (.node (.node .leaf none (.node (.node (.node (.node .leaf (some vYl) .leaf) none .leaf) none .leaf) none (.node .leaf (some vYm) .leaf))) none .leaf))
def spf34 (f : Nat) : List LSpec×List Nat:=(spt34.get f).getD ([],[])
theorem xZg : zWx Try.prog cfg 34 yK3:=fnD spf34 (l:=[]) zXl zQ1 .nil (fun d=>by kernel_rfl)
def zKy (d0 : (List (List (Int)))×(List (List (Int)))) : Option (Bool) :=
 (bif (Z.ine (Z.ofN (Z.len d0.1)) (Z.ofN (Z.len d0.2))) then some false
 else Z.loop (fun (s1 : Int) k2 =>
 (bif (Z.ilt s1 (Z.ofN (Z.len d0.1))) then if (Z.Ix s1 (Z.len d0.1)) then Z.bnd (Z.get d0.1 (Z.toN s1) ([] : List (Int))) fun (x5 : List (Int)) =>
 if (Z.Ix s1 (Z.len d0.2)) then Z.bnd (Z.get d0.2 (Z.toN s1) ([] : List (Int))) fun (x8 : List (Int)) =>
 Z.bind (yWe (x5,x8)) fun (x9 : Bool) =>
 (bif (Z.bnot x9) then some false
 else Z.bnd (Z.wrap .i64 (Z.add s1 1)) fun (x10 : Int) =>
 k2 x10)
 else none
 else none
 else some true)) 0)
def yQf : PFn:={ args:=[(.list (.list (.int .u8))),(.list (.list (.int .u8)))],res:=[.bool],fn:=zKy }
def vYx : List LSpec×List Nat:=([],[5])
def vYy : List LSpec×List Nat:=([{ id:=2800,known:=true,toks:=[(9000000,(.int .u8)),(9000000,(.mix 900000001 (.int .u8))),(7005000,(.mix 900000001 (.mix 900000002 (.int .u8))))],items:=[.slot 18 (.val (.int .i64)), .cells 1000004 [.val (.mix 2005000 (.mix 12005000 (.mix 22005000 (.int .u8))))], .rows 2005000 (.mix 12005000 (.mix 22005000 (.int .u8))), .rows 22005000 (.int .u8), .rows 12005000 (.mix 22005000 (.int .u8))],junk:=[19,20,21,22,5,6,23,24,25,26,27,28,29,30,31,32,33,34,35],tails:=[] }],[4000000001])
def vYz : List LSpec×List Nat:=([{ id:=2300,known:=true,toks:=[],items:=[.slot 5 (.val (.int .i64))],junk:=[11,12,13,14,17,18,19,20,21,22,23,24,25,26,4,15,16],tails:=[] }],[])
def spt23 : Tab (List LSpec×List Nat):=(.node (.node (.node (.node .leaf none (.node .leaf (some vYz) .leaf)) none .leaf) none .leaf) none (.node (.node .leaf none (.node (.node (.node (.node .leaf (some vYx) .leaf) none .leaf) none .leaf) none (.node .leaf (some vYy) .leaf))) none .leaf))
def spf23 (f : Nat) : List LSpec×List Nat:=(spt23.get f).getD ([],[])
theorem yJm : zWx Try.prog cfg 23 yQf:=fnD spf23 (l:=[(34,yK3)]) zXl zQ1 (.cons xZg .nil) (fun d=>by kernel_rfl)
def zZ6 (d0 : ((List (List (List (Int))))×(Unit))×((List (List (List (Int))))×(Unit))) : Option (Bool) :=
 (bif (Z.ine (Z.ofN (Z.len d0.1.1)) (Z.ofN (Z.len d0.2.1))) then some false
 else Z.loop (fun (s1 : Int) k2 =>
 (bif (Z.ilt s1 (Z.ofN (Z.len d0.1.1))) then if (Z.Ix s1 (Z.len d0.1.1)) then Z.bnd (Z.get d0.1.1 (Z.toN s1) ([] : List (List (Int)))) fun (x5 : List (List (Int))) =>
 if (Z.Ix s1 (Z.len d0.2.1)) then Z.bnd (Z.get d0.2.1 (Z.toN s1) ([] : List (List (Int)))) fun (x8 : List (List (Int))) =>
 Z.bind (zKy (x5,x8)) fun (x9 : Bool) =>
 (bif (Z.bnot x9) then some false
 else Z.bnd (Z.wrap .i64 (Z.add s1 1)) fun (x10 : Int) =>
 k2 x10)
 else none
 else none
 else some true)) 0)
def yK1 : PFn:={ args:=[(.pair (.list (.list (.list (.int .u8)))) .unit),(.pair (.list (.list (.list (.int .u8)))) .unit)],res:=[.bool],fn:=zZ6 }
def vYu : List LSpec×List Nat:=([],[5])
def vYv : List LSpec×List Nat:=([{ id:=2800,known:=true,toks:=[(9000000,(.int .u8)),(9000000,(.mix 900000001 (.int .u8))),(7005000,(.mix 900000001 (.mix 900000002 (.int .u8))))],items:=[.slot 18 (.val (.int .i64)), .cells 1000004 [.val (.mix 2005000 (.mix 12005000 (.mix 22005000 (.int .u8))))], .rows 2005000 (.mix 12005000 (.mix 22005000 (.int .u8))), .rows 22005000 (.int .u8), .rows 12005000 (.mix 22005000 (.int .u8))],junk:=[19,20,21,22,5,6,23,24,25,26,27,28,29,30,31,32,33,34,35],tails:=[] }],[4000000001])
def vYw : List LSpec×List Nat:=([{ id:=2500,known:=true,toks:=[],items:=[.slot 5 (.val (.int .i64))],junk:=[13,14,15,16,17,20,21,22,23,24,25,26,27,28,29,30,31,4,18,19],tails:=[] }],[])
def spt25 : Tab (List LSpec×List Nat):=(.node (.node .leaf none (.node (.node .leaf none (.node .leaf (some vYw) .leaf)) none .leaf)) none (.node (.node .leaf none (.node (.node (.node (.node .leaf (some vYu) .leaf) none .leaf) none .leaf) none (.node .leaf (some vYv) .leaf))) none .leaf))
def spf25 (f : Nat) : List LSpec×List Nat:=(spt25.get f).getD ([],[])
theorem xZe : zWx Try.prog cfg 25 yK1:=fnD spf25 (l:=[(23,yQf)]) zXl zQ1 (.cons yJm .nil) (fun d=>by kernel_rfl)
def yZp (d0 : ((Int)×((Int)×((Int)×((Int)×((Int)×((Int)×((Int)×((Int)×((Int)×(Unit))))))))))×((List (List (List (Int))))×(Unit))) : Option (Int) :=
 Z.bind (zJ7 (d0.1.1,(d0.1.2.1,(d0.1.2.2.1,(d0.1.2.2.2.1,(d0.1.2.2.2.2.1,(d0.1.2.2.2.2.2.1,(d0.1.2.2.2.2.2.2.1,(d0.1.2.2.2.2.2.2.2.1,(d0.1.2.2.2.2.2.2.2.2.1,())))))))))) fun (x1 : (List ((Int)×((Int)×(Unit))))×(Int)) =>
 (bif (Z.ine x1.2 0) then some x1.2
 else (bif (Z.ine (Z.ofN (Z.len d0.2.1)) (Z.ofN (Z.len x1.1))) then some 8
 else Z.loop (fun (s2 : Int) k3 =>
 (bif (Z.ilt s2 (Z.ofN (Z.len x1.1))) then if (Z.Ix s2 (Z.len x1.1)) then Z.bnd (Z.get x1.1 (Z.toN s2) (0,(0,()))) fun (x6 : (Int)×((Int)×(Unit))) =>
 if (Z.Ix s2 (Z.len d0.2.1)) then Z.bnd (Z.get d0.2.1 (Z.toN s2) ([] : List (List (Int)))) fun (x9 : List (List (Int))) =>
 (bif (Z.ine (Z.ofN (Z.len x9)) x6.1) then some 8
 else Z.bnd (Z.wrap .i64 (Z.add s2 1)) fun (x10 : Int) =>
 k3 x10)
 else none
 else none
 else Z.loop (fun (s11 : Int) k12 =>
 (bif (Z.ilt s11 (Z.ofN (Z.len d0.2.1))) then if (Z.Ix s11 (Z.len d0.2.1)) then Z.bnd (Z.get d0.2.1 (Z.toN s11) ([] : List (List (Int)))) fun (x15 : List (List (Int))) =>
 Z.loop (fun (s16 : Int) k17 =>
 (bif (Z.ilt s16 (Z.ofN (Z.len x15))) then if (Z.Ix s16 (Z.len x15)) then Z.bnd (Z.get x15 (Z.toN s16) ([] : List (Int))) fun (x20 : List (Int)) =>
 if (Z.Ix s11 (Z.len x1.1)) then Z.bnd (Z.get x1.1 (Z.toN s11) (0,(0,()))) fun (x23 : (Int)×((Int)×(Unit))) =>
 (bif (Z.bnot (Z.ieq (Z.ofN (Z.len x20)) x23.2.1)) then some 8
 else Z.bnd (Z.wrap .i64 (Z.add s16 1)) fun (x24 : Int) =>
 k17 x24)
 else none
 else none
 else Z.bnd (Z.wrap .i64 (Z.add s11 1)) fun (x25 : Int) =>
 k12 x25)) 0
 else none
 else some 0)) 0)) 0))
def yYo : PFn:={ args:=[(.pair (.int .i64) (.pair (.int .i64) (.pair (.int .i64) (.pair (.int .i64) (.pair (.int .i64) (.pair (.int .i64) (.pair (.int .i64) (.pair (.int .i64) (.pair (.int .i64) .unit))))))))),(.pair (.list (.list (.list (.int .u8)))) .unit)],res:=[(.int .i64)],fn:=yZp }
def uQa : List LSpec×List Nat:=([{ id:=4400,known:=true,toks:=[],items:=[.slot 11 (.val (.int .i64))],junk:=[12,13,14,15,5,6,16,17,18,19,20,21,8,22,23,24,25,26,4,27,28],tails:=[] },{ id:=4401,known:=true,toks:=[],items:=[.slot 18 (.val (.int .i64))],junk:=[19,20,21,8,22,23,24,25,26,4,27],tails:=[] }],[])
def vY9 : List LSpec×List Nat:=([],[5])
def uQb : List LSpec×List Nat:=([{ id:=2800,known:=true,toks:=[(9000000,(.int .u8)),(9000000,(.mix 900000001 (.int .u8))),(7005000,(.mix 900000001 (.mix 900000002 (.int .u8))))],items:=[.slot 18 (.val (.int .i64)), .cells 1000004 [.val (.mix 2005000 (.mix 12005000 (.mix 22005000 (.int .u8))))], .rows 2005000 (.mix 12005000 (.mix 22005000 (.int .u8))), .rows 22005000 (.int .u8), .rows 12005000 (.mix 22005000 (.int .u8))],junk:=[19,20,21,22,5,6,23,24,25,26,27,28,29,30,31,32,33,34,35],tails:=[] }],[4000000001])
def uQc : List LSpec×List Nat:=([{ id:=1600,known:=true,toks:=[],items:=[.slot 25 (.val (.int .i64))],junk:=[26,27,28,29,8,7,30,31,32,33,34,35,36,37,38,4,39],tails:=[] }],[])
def spt16 : Tab (List LSpec×List Nat):=(.node .leaf none (.node (.node (.node (.node .leaf (some uQc) .leaf) none .leaf) none (.node (.node (.node (.node .leaf (some vY9) .leaf) none .leaf) none .leaf) none (.node (.node .leaf (some uQa) .leaf) (some uQb) .leaf))) none .leaf))
def spf16 (f : Nat) : List LSpec×List Nat:=(spt16.get f).getD ([],[])
theorem xJl : zWx Try.prog cfg 16 yYo:=fnD spf16 (l:=[(35,yQh)]) zXl zQ1 (.cons yX3 .nil) (fun d=>by kernel_rfl)
def yXy (d0 : ((Int)×((Int)×((Int)×((Int)×((Int)×((Int)×((Int)×((Int)×((Int)×(Unit))))))))))×((List (List (List (Int))))×(Unit))) : Option (Bool) :=
 Z.bind (yQb (d0.1.1,(d0.1.2.1,(d0.1.2.2.1,(d0.1.2.2.2.1,(d0.1.2.2.2.2.1,(d0.1.2.2.2.2.2.1,(d0.1.2.2.2.2.2.2.1,(d0.1.2.2.2.2.2.2.2.1,(d0.1.2.2.2.2.2.2.2.2.1,())))))))))) fun (x1 : Bool) =>
 (bif (Z.bnot x1) then some false
 else Z.bind (zJy (d0.1.1,(d0.1.2.1,(d0.1.2.2.1,(d0.1.2.2.2.1,(d0.1.2.2.2.2.1,(d0.1.2.2.2.2.2.1,(d0.1.2.2.2.2.2.2.1,(d0.1.2.2.2.2.2.2.2.1,(d0.1.2.2.2.2.2.2.2.2.1,())))))))))) fun (x2 : List ((Int)×((Int)×((Int)×((Int)×(Unit)))))) =>
 (bif (Z.ine (Z.ofN (Z.len d0.2.1)) (Z.ofN (Z.len x2))) then some false
 else Z.loop (fun (s3 : Int) k4 =>
 (bif (Z.ilt s3 (Z.ofN (Z.len x2))) then if (Z.Ix s3 (Z.len d0.2.1)) then Z.bnd (Z.get d0.2.1 (Z.toN s3) ([] : List (List (Int)))) fun (x7 : List (List (Int))) =>
 if (Z.Ix s3 (Z.len x2)) then Z.bnd (Z.get x2 (Z.toN s3) (0,(0,(0,(0,()))))) fun (x10 : (Int)×((Int)×((Int)×((Int)×(Unit))))) =>
 Z.bind (zK0 x10.2.2.1) fun (x11 : Int) =>
 Z.bnd (Z.wrap .i64 (Z.mul 2 x11)) fun (x12 : Int) =>
 Z.bnd (Z.wrap .i64 (Z.sub x12 1)) fun (x13 : Int) =>
 (bif (Z.ine (Z.ofN (Z.len x7)) x13) then some false
 else Z.loop (fun (s14 : Int) k15 =>
 if (Z.Ix s3 (Z.len d0.2.1)) then Z.bnd (Z.get d0.2.1 (Z.toN s3) ([] : List (List (Int)))) fun (x18 : List (List (Int))) =>
 (bif (Z.ilt s14 (Z.ofN (Z.len x18))) then if (Z.Ix s3 (Z.len d0.2.1)) then Z.bnd (Z.get d0.2.1 (Z.toN s3) ([] : List (List (Int)))) fun (x21 : List (List (Int))) =>
 if (Z.Ix s14 (Z.len x21)) then Z.bnd (Z.get x21 (Z.toN s14) ([] : List (Int))) fun (x24 : List (Int)) =>
 if (Z.Ix s3 (Z.len x2)) then Z.bnd (Z.get x2 (Z.toN s3) (0,(0,(0,(0,()))))) fun (x27 : (Int)×((Int)×((Int)×((Int)×(Unit))))) =>
 Z.bnd (Z.wrap .i64 (Z.add 8 x27.2.2.2.1)) fun (x28 : Int) =>
 (bif (Z.ine (Z.ofN (Z.len x24)) x28) then some false
 else Z.bnd (Z.wrap .i64 (Z.add s14 1)) fun (x29 : Int) =>
 k15 x29)
 else none
 else none
 else none
 else Z.bnd (Z.wrap .i64 (Z.add s3 1)) fun (x30 : Int) =>
 k4 x30)
 else none) 0)
 else none
 else none
 else some true)) 0))
def yYm : PFn:={ args:=[(.pair (.int .i64) (.pair (.int .i64) (.pair (.int .i64) (.pair (.int .i64) (.pair (.int .i64) (.pair (.int .i64) (.pair (.int .i64) (.pair (.int .i64) (.pair (.int .i64) .unit))))))))),(.pair (.list (.list (.list (.int .u8)))) .unit)],res:=[.bool],fn:=yXy }
def vJ9 : List LSpec×List Nat:=([],[5])
def vYb : List LSpec×List Nat:=([{ id:=2800,known:=true,toks:=[(9000000,(.int .u8)),(9000000,(.mix 900000001 (.int .u8))),(7005000,(.mix 900000001 (.mix 900000002 (.int .u8))))],items:=[.slot 18 (.val (.int .i64)), .cells 1000004 [.val (.mix 2005000 (.mix 12005000 (.mix 22005000 (.int .u8))))], .rows 2005000 (.mix 12005000 (.mix 22005000 (.int .u8))), .rows 22005000 (.int .u8), .rows 12005000 (.mix 22005000 (.int .u8))],junk:=[19,20,21,22,5,6,23,24,25,26,27,28,29,30,31,32,33,34,35],tails:=[] }],[4000000001])
def vYa : List LSpec×List Nat:=([{ id:=4600,known:=true,toks:=[],items:=[.slot 6 (.val (.int .i64))],junk:=[19,20,21,22,25,26,27,28,29,30,31,32,33,34,35,36,37,38,39,4,7,40,41,42,43,44,45,46,47,50,51,52,53,54,55,56,57,58,59,60,61,62,63,64,65,48,49,23,24],tails:=[] },{ id:=4601,known:=true,toks:=[],items:=[.slot 7 (.val (.int .i64))],junk:=[40,41,42,43,44,45,46,47,50,51,52,53,54,55,56,57,58,59,60,61,62,63,64,65,4,48,49],tails:=[] }],[])
def spt46 : Tab (List LSpec×List Nat):=(.node .leaf none (.node (.node .leaf none (.node (.node (.node (.node .leaf (some vJ9) .leaf) none .leaf) none .leaf) none (.node .leaf (some vYb) .leaf))) none (.node .leaf none (.node .leaf none (.node (.node .leaf (some vYa) .leaf) none .leaf)))))
def spf46 (f : Nat) : List LSpec×List Nat:=(spt46.get f).getD ([],[])
theorem xJj : zWx Try.prog cfg 46 yYm:=fnD spf46 (l:=[(50,yXc),(65,zYl),(66,zJj)]) zXl zQ1 (.cons yKy (.cons yQc (.cons zYj .nil))) (fun d=>by kernel_rfl)
def zYf (d0 : ((Int)×((Int)×((Int)×((Int)×((Int)×((Int)×((Int)×((Int)×((Int)×(Unit))))))))))×((List (List (List (Int))))×(Unit))) : Option (Int) :=
 Z.bind (yXy ((d0.1.1,(d0.1.2.1,(d0.1.2.2.1,(d0.1.2.2.2.1,(d0.1.2.2.2.2.1,(d0.1.2.2.2.2.2.1,(d0.1.2.2.2.2.2.2.1,(d0.1.2.2.2.2.2.2.2.1,(d0.1.2.2.2.2.2.2.2.2.1,()))))))))),(d0.2.1,()))) fun (x1 : Bool) =>
 (bif (Z.bnot x1) then some 8
 else some 0)
def yX6 : PFn:={ args:=[(.pair (.int .i64) (.pair (.int .i64) (.pair (.int .i64) (.pair (.int .i64) (.pair (.int .i64) (.pair (.int .i64) (.pair (.int .i64) (.pair (.int .i64) (.pair (.int .i64) .unit))))))))),(.pair (.list (.list (.list (.int .u8)))) .unit)],res:=[(.int .i64)],fn:=zYf }
def vYq : List LSpec×List Nat:=([],[5])
def vYr : List LSpec×List Nat:=([{ id:=2800,known:=true,toks:=[(9000000,(.int .u8)),(9000000,(.mix 900000001 (.int .u8))),(7005000,(.mix 900000001 (.mix 900000002 (.int .u8))))],items:=[.slot 18 (.val (.int .i64)), .cells 1000004 [.val (.mix 2005000 (.mix 12005000 (.mix 22005000 (.int .u8))))], .rows 2005000 (.mix 12005000 (.mix 22005000 (.int .u8))), .rows 22005000 (.int .u8), .rows 12005000 (.mix 22005000 (.int .u8))],junk:=[19,20,21,22,5,6,23,24,25,26,27,28,29,30,31,32,33,34,35],tails:=[] }],[4000000001])
def spt29 : Tab (List LSpec×List Nat):=(.node .leaf none (.node (.node .leaf none (.node (.node (.node (.node .leaf (some vYq) .leaf) none .leaf) none .leaf) none (.node .leaf (some vYr) .leaf))) none .leaf))
def spf29 (f : Nat) : List LSpec×List Nat:=(spt29.get f).getD ([],[])
theorem xQ6 : zWx Try.prog cfg 29 yX6:=fnD spf29 (l:=[(46,yYm)]) zXl zQ1 (.cons xJj .nil) (fun d=>by kernel_rfl)
def zY0 (d0 : (List (Int))×(List (Int))) : Option (Bool) :=
 Z.bnd (Z.str d0.1) fun (x1 : List (UInt8)) =>
 Z.bnd (Z.str d0.2) fun (x2 : List (UInt8)) =>
 some (Z.seq x1 x2)
def yZb : PFn:={ args:=[(.list (.int .u8)),(.list (.int .u8))],res:=[.bool],fn:=zY0 }
def vJw : List LSpec×List Nat:=([],[5])
def vJx : List LSpec×List Nat:=([{ id:=2800,known:=true,toks:=[(9000000,(.int .u8)),(9000000,(.mix 900000001 (.int .u8))),(7005000,(.mix 900000001 (.mix 900000002 (.int .u8))))],items:=[.slot 18 (.val (.int .i64)), .cells 1000004 [.val (.mix 2005000 (.mix 12005000 (.mix 22005000 (.int .u8))))], .rows 2005000 (.mix 12005000 (.mix 22005000 (.int .u8))), .rows 22005000 (.int .u8), .rows 12005000 (.mix 22005000 (.int .u8))],junk:=[19,20,21,22,5,6,23,24,25,26,27,28,29,30,31,32,33,34,35],tails:=[] }],[4000000001])
def spt57 : Tab (List LSpec×List Nat):=(.node .leaf none (.node (.node .leaf none (.node (.node (.node (.node .leaf (some vJw) .leaf) none .leaf) none .leaf) none (.node .leaf (some vJx) .leaf))) none .leaf))
def spf57 (f : Nat) : List LSpec×List Nat:=(spt57.get f).getD ([],[])
theorem xWb : zWx Try.prog cfg 57 yZb:=fnD spf57 (l:=[]) zXl zQ1 .nil (fun d=>by kernel_rfl)
def yWp (d0 : (List (List (Int)))×(List (List (Int)))) : Option (Bool) :=
 (bif (Z.ine (Z.ofN (Z.len d0.1)) (Z.ofN (Z.len d0.2))) then some false
 else Z.loop (fun (s1 : Int) k2 =>
 (bif (Z.ilt s1 (Z.ofN (Z.len d0.1))) then if (Z.Ix s1 (Z.len d0.1)) then Z.bnd (Z.get d0.1 (Z.toN s1) ([] : List (Int))) fun (x5 : List (Int)) =>
 if (Z.Ix s1 (Z.len d0.2)) then Z.bnd (Z.get d0.2 (Z.toN s1) ([] : List (Int))) fun (x8 : List (Int)) =>
 Z.bind (zY0 (x5,x8)) fun (x9 : Bool) =>
 (bif (Z.bnot x9) then some false
 else Z.bnd (Z.wrap .i64 (Z.add s1 1)) fun (x10 : Int) =>
 k2 x10)
 else none
 else none
 else some true)) 0)
def yK5 : PFn:={ args:=[(.list (.list (.int .u8))),(.list (.list (.int .u8)))],res:=[.bool],fn:=yWp }
def vJy : List LSpec×List Nat:=([],[5])
def vJ0 : List LSpec×List Nat:=([{ id:=2800,known:=true,toks:=[(9000000,(.int .u8)),(9000000,(.mix 900000001 (.int .u8))),(7005000,(.mix 900000001 (.mix 900000002 (.int .u8))))],items:=[.slot 18 (.val (.int .i64)), .cells 1000004 [.val (.mix 2005000 (.mix 12005000 (.mix 22005000 (.int .u8))))], .rows 2005000 (.mix 12005000 (.mix 22005000 (.int .u8))), .rows 22005000 (.int .u8), .rows 12005000 (.mix 22005000 (.int .u8))],junk:=[19,20,21,22,5,6,23,24,25,26,27,28,29,30,31,32,33,34,35],tails:=[] }],[4000000001])
def vJz : List LSpec×List Nat:=([{ id:=5600,known:=true,toks:=[],items:=[.slot 17 (.val (.int .i64))],junk:=[18,19,20,21,7,8,22,23,24,25,9,26,27,28,29,30,6,31],tails:=[] }],[])
def spt55 : Tab (List LSpec×List Nat):=(.node .leaf none (.node (.node (.node .leaf none (.node .leaf none (.node .leaf (some vJz) .leaf))) none (.node (.node (.node (.node .leaf (some vJy) .leaf) none .leaf) none .leaf) none (.node .leaf (some vJ0) .leaf))) none .leaf))
def spf55 (f : Nat) : List LSpec×List Nat:=(spt55.get f).getD ([],[])
theorem xZi : zWx Try.prog cfg 55 yK5:=fnD spf55 (l:=[(57,yZb)]) zXl zQ1 (.cons xWb .nil) (fun d=>by kernel_rfl)
def yZo (d0 : ((List (List (List (Int))))×(Unit))×((List (List (List (Int))))×(Unit))) : Option (Bool) :=
 (bif (Z.ine (Z.ofN (Z.len d0.1.1)) (Z.ofN (Z.len d0.2.1))) then some false
 else Z.loop (fun (s1 : Int) k2 =>
 (bif (Z.ilt s1 (Z.ofN (Z.len d0.1.1))) then if (Z.Ix s1 (Z.len d0.1.1)) then Z.bnd (Z.get d0.1.1 (Z.toN s1) ([] : List (List (Int)))) fun (x5 : List (List (Int))) =>
 if (Z.Ix s1 (Z.len d0.2.1)) then Z.bnd (Z.get d0.2.1 (Z.toN s1) ([] : List (List (Int)))) fun (x8 : List (List (Int))) =>
 Z.bind (yWp (x5,x8)) fun (x9 : Bool) =>
 (bif (Z.bnot x9) then some false
 else Z.bnd (Z.wrap .i64 (Z.add s1 1)) fun (x10 : Int) =>
 k2 x10)
 else none
 else none
 else some true)) 0)
def xW3 : PFn:={ args:=[(.pair (.list (.list (.list (.int .u8)))) .unit),(.pair (.list (.list (.list (.int .u8)))) .unit)],res:=[.bool],fn:=yZo }
def vYn : List LSpec×List Nat:=([],[5])
def vYp : List LSpec×List Nat:=([{ id:=2800,known:=true,toks:=[(9000000,(.int .u8)),(9000000,(.mix 900000001 (.int .u8))),(7005000,(.mix 900000001 (.mix 900000002 (.int .u8))))],items:=[.slot 18 (.val (.int .i64)), .cells 1000004 [.val (.mix 2005000 (.mix 12005000 (.mix 22005000 (.int .u8))))], .rows 2005000 (.mix 12005000 (.mix 22005000 (.int .u8))), .rows 22005000 (.int .u8), .rows 12005000 (.mix 22005000 (.int .u8))],junk:=[19,20,21,22,5,6,23,24,25,26,27,28,29,30,31,32,33,34,35],tails:=[] }],[4000000001])
def vYo : List LSpec×List Nat:=([{ id:=5400,known:=true,toks:=[],items:=[.slot 17 (.val (.int .i64))],junk:=[18,19,20,21,7,8,22,23,24,25,9,26,27,28,29,30,6,31],tails:=[] }],[])
def spt30 : Tab (List LSpec×List Nat):=(.node .leaf none (.node (.node .leaf none (.node (.node (.node (.node .leaf (some vYn) .leaf) none .leaf) none .leaf) none (.node .leaf (some vYp) .leaf))) none (.node .leaf none (.node (.node .leaf none (.node .leaf (some vYo) .leaf)) none .leaf))))
def spf30 (f : Nat) : List LSpec×List Nat:=(spt30.get f).getD ([],[])
theorem wQe : zWx Try.prog cfg 30 xW3:=fnD spf30 (l:=[(55,yK5)]) zXl zQ1 (.cons xZi .nil) (fun d=>by kernel_rfl)
def zKc (d0 : ((Int)×((Int)×((Int)×((Int)×((Int)×((Int)×((Int)×((Int)×((Int)×(Unit))))))))))×(((List (List (List (Int))))×(Unit))×((List (List (List (Int))))×(Unit)))) : Option (Bool) :=
 Z.join (σ:=Bool) (fun k1 =>
 Z.bind (zK4 (d0.2.1.1,())) fun (x2 : Bool) =>
 (bif x2 then k1 true
 else Z.bind (zK4 (d0.2.2.1,())) fun (x3 : Bool) =>
 k1 (Z.zWw false true x3))) fun (j4 : Bool) =>
 (bif j4 then some true
 else Z.bind (yWc (d0.2.1.1,())) fun (x5 : (List (List (List (Int))))×(Unit)) =>
 Z.bind (xKl (d0.1.1,(d0.1.2.1,(d0.1.2.2.1,(d0.1.2.2.2.1,(d0.1.2.2.2.2.1,(d0.1.2.2.2.2.2.1,(d0.1.2.2.2.2.2.2.1,(d0.1.2.2.2.2.2.2.2.1,(d0.1.2.2.2.2.2.2.2.2.1,())))))))))) fun (x6 : ((List (List (List (Int))))×(Unit))×(Int)) =>
 Z.bind (yXx (d0.1.1,(d0.1.2.1,(d0.1.2.2.1,(d0.1.2.2.2.1,(d0.1.2.2.2.2.1,(d0.1.2.2.2.2.2.1,(d0.1.2.2.2.2.2.2.1,(d0.1.2.2.2.2.2.2.2.1,(d0.1.2.2.2.2.2.2.2.2.1,())))))))))) fun (x7 : ((List (List (List (Int))))×(Unit))×(Int)) =>
 Z.bind (yWo (x5.1,())) fun (x8 : ((List (List (Int)))×((List (List (MixE (Int))))×(List (List (MixE (MixE (Int)))))))×((MixE (MixE (MixE (Int))))×(Unit))) =>
 Z.join (σ:=Bool) (fun k9 =>
 Z.bind (zZ6 ((x6.1.1,()),(x7.1.1,()))) fun (x10 : Bool) =>
 (bif x10 then (bif (Z.zWw true (Z.ieq x6.2 x7.2) false) then Z.bind (yZp ((d0.1.1,(d0.1.2.1,(d0.1.2.2.1,(d0.1.2.2.2.1,(d0.1.2.2.2.2.1,(d0.1.2.2.2.2.2.1,(d0.1.2.2.2.2.2.2.1,(d0.1.2.2.2.2.2.2.2.1,(d0.1.2.2.2.2.2.2.2.2.1,()))))))))),(x5.1,()))) fun (x11 : Int) =>
 Z.bind (zYf ((d0.1.1,(d0.1.2.1,(d0.1.2.2.1,(d0.1.2.2.2.1,(d0.1.2.2.2.2.1,(d0.1.2.2.2.2.2.1,(d0.1.2.2.2.2.2.2.1,(d0.1.2.2.2.2.2.2.2.1,(d0.1.2.2.2.2.2.2.2.2.1,()))))))))),(d0.2.1.1,()))) fun (x12 : Int) =>
 k9 (Z.zWw true (Z.ieq x11 x12) false)
 else k9 false)
 else k9 false)) fun (j13 : Bool) =>
 Z.join (σ:=Bool) (fun k14 =>
 Z.bind (yZo ((x5.1,()),(d0.2.2.1,()))) fun (x15 : Bool) =>
 Z.bind (zZ6 ((d0.2.1.1,()),(d0.2.2.1,()))) fun (x16 : Bool) =>
 (bif (Z.beq x15 x16) then Z.bind (yZo ((x5.1,()),(d0.2.1.1,()))) fun (x17 : Bool) =>
 (bif (Z.zWw true x17 false) then if (Z.XOk x8.1.2.2 x8.2.1) then Z.bind (Z.mapO (fun (e20 : MixE (MixE (Int))) =>
 if (Z.XOk x8.1.2.1 e20) then Z.bind (Z.mapO (fun (e23 : MixE (Int)) =>
 if (Z.XOk x8.1.1 e23) then Z.bnd (Z.xget x8.1.1 e23) fun (x26 : List (Int)) =>
 some x26
 else none) (Z.xget x8.1.2.1 e20)) fun (x27 : List (List (Int))) =>
 some x27
 else none) (Z.xget x8.1.2.2 x8.2.1)) fun (x28 : List (List (List (Int)))) =>
 Z.bind (zZ6 ((x28,()),(d0.2.1.1,()))) fun (x29 : Bool) =>
 k14 (Z.zWw true x29 false)
 else none
 else k14 false)
 else k14 false)) fun (j30 : Bool) =>
 Z.loop (fun (s31 : (Int)×(List (List (Int)))) k32 =>
 (bif (Z.ilt s31.1 (Z.ofN (Z.xlen x8.2.1))) then Z.loop (fun (s33 : (Int)×(List (List (Int)))) k34 =>
 if (Z.Ix s31.1 (Z.xlen x8.2.1)) then if (Z.XPt x8.1.2.2 x8.2.1 (Z.toN s31.1)) then if (Z.XPt x8.1.2.2 x8.2.1 (Z.toN s31.1)) then Z.bnd (Z.xat x8.1.2.2 x8.2.1 (Z.toN s31.1) (MixE.nil : MixE (MixE (Int)))) fun (x41 : MixE (MixE (Int))) =>
 (bif (Z.ilt s33.1 (Z.ofN (Z.xlen x41))) then Z.loop (fun (s42 : (Int)×(List (List (Int)))) k43 =>
 if (Z.Ix s31.1 (Z.xlen x8.2.1)) then if (Z.XPt x8.1.2.2 x8.2.1 (Z.toN s31.1)) then if (Z.XPt x8.1.2.2 x8.2.1 (Z.toN s31.1)) then Z.bnd (Z.xat x8.1.2.2 x8.2.1 (Z.toN s31.1) (MixE.nil : MixE (MixE (Int)))) fun (x50 : MixE (MixE (Int))) =>
 if (Z.Ix s33.1 (Z.xlen x50)) then if (Z.XPt x8.1.2.1 x50 (Z.toN s33.1)) then if (Z.XPt x8.1.2.1 x50 (Z.toN s33.1)) then Z.bnd (Z.xat x8.1.2.1 x50 (Z.toN s33.1) (MixE.nil : MixE (Int))) fun (x57 : MixE (Int)) =>
 (bif (Z.ilt s42.1 (Z.ofN (Z.xlen x57))) then if (Z.Ix s31.1 (Z.xlen x8.2.1)) then if (Z.XPt x8.1.2.2 x8.2.1 (Z.toN s31.1)) then if (Z.XPt x8.1.2.2 x8.2.1 (Z.toN s31.1)) then Z.bnd (Z.xat x8.1.2.2 x8.2.1 (Z.toN s31.1) (MixE.nil : MixE (MixE (Int)))) fun (x64 : MixE (MixE (Int))) =>
 if (Z.Ix s33.1 (Z.xlen x64)) then if (Z.XPt x8.1.2.1 x64 (Z.toN s33.1)) then if (Z.XPt x8.1.2.1 x64 (Z.toN s33.1)) then Z.bnd (Z.xat x8.1.2.1 x64 (Z.toN s33.1) (MixE.nil : MixE (Int))) fun (x71 : MixE (Int)) =>
 if (Z.Ix s31.1 (Z.xlen x8.2.1)) then if (Z.XPt x8.1.2.2 x8.2.1 (Z.toN s31.1)) then if (Z.XPt x8.1.2.2 x8.2.1 (Z.toN s31.1)) then Z.bnd (Z.xat x8.1.2.2 x8.2.1 (Z.toN s31.1) (MixE.nil : MixE (MixE (Int)))) fun (x78 : MixE (MixE (Int))) =>
 if (Z.Ix s33.1 (Z.xlen x78)) then if (Z.XPt x8.1.2.1 x78 (Z.toN s33.1)) then if (Z.XPt x8.1.2.1 x78 (Z.toN s33.1)) then Z.bnd (Z.xat x8.1.2.1 x78 (Z.toN s33.1) (MixE.nil : MixE (Int))) fun (x85 : MixE (Int)) =>
 if (Z.Ix s42.1 (Z.xlen x85)) then if (Z.XPt s42.2 x85 (Z.toN s42.1)) then if (Z.XPt s42.2 x85 (Z.toN s42.1)) then Z.bnd (Z.xat s42.2 x85 (Z.toN s42.1) 0) fun (x92 : Int) =>
 Z.bnd (Z.wrap .u8 (Z.add x92 1)) fun (x93 : Int) =>
 if (Z.Ix s42.1 (Z.xlen x71)) then if (Z.XPt s42.2 x71 (Z.toN s42.1)) then if (Z.XPt s42.2 x71 (Z.toN s42.1)) then Z.bnd (Z.xset s42.2 x71 (Z.toN s42.1) x93) fun (x100 : List (List (Int))) =>
 Z.bnd (Z.wrap .i64 (Z.add s42.1 1)) fun (x101 : Int) =>
 k43 (x101,x100)
 else none
 else none
 else none
 else none
 else none
 else none
 else none
 else none
 else none
 else none
 else none
 else none
 else none
 else none
 else none
 else none
 else none
 else none
 else Z.bnd (Z.wrap .i64 (Z.add s33.1 1)) fun (x102 : Int) =>
 k34 (x102,s42.2))
 else none
 else none
 else none
 else none
 else none
 else none) (0,s33.2)
 else Z.bnd (Z.wrap .i64 (Z.add s31.1 1)) fun (x103 : Int) =>
 k32 (x103,s33.2))
 else none
 else none
 else none) (0,s31.2)
 else Z.join (σ:=Bool) (fun k104 =>
 (bif j13 then (bif (Z.zWw true j30 false) then Z.bind (zZ6 ((x5.1,()),(d0.2.1.1,()))) fun (x105 : Bool) =>
 k104 (Z.zWw true x105 false)
 else k104 false)
 else k104 false)) fun (j106 : Bool) =>
 some j106)) (0,x8.1.1))
def zZf : PFn:={ args:=[(.pair (.int .i64) (.pair (.int .i64) (.pair (.int .i64) (.pair (.int .i64) (.pair (.int .i64) (.pair (.int .i64) (.pair (.int .i64) (.pair (.int .i64) (.pair (.int .i64) .unit))))))))),(.pair (.list (.list (.list (.int .u8)))) .unit),(.pair (.list (.list (.list (.int .u8)))) .unit)],res:=[.bool],fn:=zKc }
def sp5_17 : List LSpec×List Nat:=([{ id:=5017000,known:=false,toks:=[],items:=[],junk:=[2],tails:=[] },{ id:=5017001,known:=false,toks:=[],items:=[.slot 3 (.val (.int .i64))],junk:=[],tails:=[] },{ id:=5017002,known:=false,toks:=[],items:=[.slot 4 (.val (.int .i64))],junk:=[],tails:=[] },{ id:=1700,known:=false,toks:=[],items:=[],junk:=[],tails:=[] },{ id:=5017003,known:=true,toks:=[],items:=[.slot 14 (.val .bool)],junk:=[6,7,8,9,10,11,12,13],tails:=[] },{ id:=5017004,known:=false,toks:=[],items:=[],junk:=[],tails:=[] },{ id:=5017005,known:=false,toks:=[],items:=[.slot 5 (.val (.int .i64))],junk:=[],tails:=[] },{ id:=1701,known:=false,toks:=[],items:=[],junk:=[],tails:=[] },{ id:=5017006,known:=true,toks:=[],items:=[.slot 28 (.val .bool)],junk:=[17,18,19,20,21,22,23,24,25,26,27],tails:=[] },{ id:=5017007,known:=false,toks:=[],items:=[],junk:=[],tails:=[] },{ id:=5017008,known:=false,toks:=[],items:=[.slot 3 (.val (.int .i64))],junk:=[31,32,33,34,35,36,37,38,39,40,41,42],tails:=[] },{ id:=5017009,known:=false,toks:=[],items:=[.slot 5 (.val (.int .i64))],junk:=[29,30],tails:=[] },{ id:=5017010,known:=false,toks:=[],items:=[.slot 49 (.val .bool)],junk:=[43,44,45,46,47,48],tails:=[] },{ id:=5017011,known:=false,toks:=[],items:=[],junk:=[2],tails:=[] },{ id:=5017012,known:=false,toks:=[],items:=[.slot 2 (.val .bool)],junk:=[],tails:=[] },{ id:=5017013,known:=false,toks:=[],items:=[.slot 4 (.val (.int .i64))],junk:=[15,16],tails:=[] },{ id:=5017014,known:=true,toks:=[],items:=[.slot 2 (.val .bool)],junk:=[50,51,52,53,54,55,56,57],tails:=[] }],[])
def sp5_77 : List LSpec×List Nat:=([{ id:=5077000,known:=false,toks:=[],items:=[],junk:=[2],tails:=[] },{ id:=5077001,known:=true,toks:=[],items:=[.slot 2 (.val .bool)],junk:=[3,4,5,6,7,8,9,10,11,12,13,14],tails:=[] }],[])
def sp5_71 : List LSpec×List Nat:=([{ id:=5071000,known:=false,toks:=[],items:=[],junk:=[2],tails:=[] },{ id:=5071001,known:=true,toks:=[],items:=[.slot 8 (.val .bool)],junk:=[3,4,5,6,7],tails:=[] },{ id:=5071002,known:=false,toks:=[],items:=[],junk:=[2],tails:=[] },{ id:=5071003,known:=false,toks:=[],items:=[.slot 2 (.val (.int .i64))],junk:=[],tails:=[] },{ id:=5071004,known:=false,toks:=[],items:=[.slot 2 (.val (.int .i64))],junk:=[],tails:=[] }],[])
def sp5_81 : List LSpec×List Nat:=([{ id:=5081000,known:=false,toks:=[],items:=[],junk:=[2],tails:=[] },{ id:=5081001,known:=false,toks:=[],items:=[.slot 3 (.val (.int .i64))],junk:=[],tails:=[] },{ id:=8100,known:=false,toks:=[],items:=[],junk:=[],tails:=[] },{ id:=5081002,known:=false,toks:=[],items:=[.slot 4 (.val (.int .i64)), .slot 5 (.val (.int .i64))],junk:=[9,10,8,11,12],tails:=[] },{ id:=5081003,known:=true,toks:=[],items:=[.slot 19 (.val .bool)],junk:=[13,14,15,16,17,18],tails:=[] },{ id:=5081004,known:=false,toks:=[],items:=[],junk:=[20,2],tails:=[] },{ id:=5081005,known:=false,toks:=[],items:=[.slot 2 (.val (.int .i64))],junk:=[20],tails:=[] },{ id:=5081006,known:=false,toks:=[],items:=[.slot 3 (.val (.int .i64))],junk:=[6,7],tails:=[] }],[])
def sp5_78 : List LSpec×List Nat:=([{ id:=5078000,known:=false,toks:=[],items:=[],junk:=[4,5,6,7,8,9],tails:=[] },{ id:=7800,known:=false,toks:=[],items:=[],junk:=[],tails:=[] },{ id:=5078001,known:=true,toks:=[],items:=[.slot 18 (.val .bool)],junk:=[10,11,12,13,14,15,16,17],tails:=[] },{ id:=5078002,known:=false,toks:=[],items:=[],junk:=[],tails:=[] },{ id:=5078003,known:=false,toks:=[],items:=[],junk:=[19,20,21,22,23,24,25,26,27,28,29,30,31,32],tails:=[] }],[])
def sp5_36 : List LSpec×List Nat:=([{ id:=5036000,known:=false,toks:=[],items:=[],junk:=[4],tails:=[] },{ id:=5036001,known:=false,toks:=[],items:=[.slot 10 (.val .bool)],junk:=[9],tails:=[] },{ id:=5036002,known:=true,toks:=[],items:=[],junk:=[11],tails:=[] },{ id:=5036003,known:=false,toks:=[],items:=[],junk:=[11],tails:=[] },{ id:=5036004,known:=false,toks:=[],items:=[.slot 5 (.val (.int .u64)), .slot 6 (.val (.int .u64))],junk:=[13,14,15,16,17,18,12,19,20],tails:=[] },{ id:=5036005,known:=true,toks:=[],items:=[.slot 26 (.val .bool)],junk:=[21,22,23,24,25],tails:=[] },{ id:=5036006,known:=true,toks:=[],items:=[],junk:=[27],tails:=[] },{ id:=5036007,known:=false,toks:=[],items:=[],junk:=[27],tails:=[] },{ id:=5036008,known:=false,toks:=[],items:=[],junk:=[28,29,30],tails:=[] },{ id:=5036009,known:=false,toks:=[],items:=[.slot 8 (.val (.int .i64))],junk:=[31,32,33],tails:=[] },{ id:=3600,known:=false,toks:=[],items:=[],junk:=[],tails:=[] },{ id:=5036010,known:=false,toks:=[],items:=[.slot 37 (.val .bool)],junk:=[34,35,36],tails:=[] },{ id:=5036011,known:=false,toks:=[],items:=[],junk:=[],tails:=[] },{ id:=5036012,known:=false,toks:=[],items:=[.slot 8 (.val (.int .i64))],junk:=[38,39,40,41,42,43,44,45,46],tails:=[] },{ id:=5036013,known:=false,toks:=[],items:=[],junk:=[47],tails:=[] }],[])
def sp5_75 : List LSpec×List Nat:=([{ id:=5075000,known:=false,toks:=[],items:=[],junk:=[6],tails:=[] },{ id:=5075001,known:=true,toks:=[],items:=[.slot 6 (.val .bool)],junk:=[7,8,9,10,11,12,13,14],tails:=[] }],[])
def sp5_67 : List LSpec×List Nat:=([{ id:=5067000,known:=false,toks:=[],items:=[],junk:=[2],tails:=[] },{ id:=5067001,known:=true,toks:=[],items:=[.slot 2 (.val .bool)],junk:=[3,4,5,6,7,8,9,10,11,12,13,14,15,16,17,18,19,20,21,22,23,24,25,26,27,28,29,30,31,32,33,34,35,36,37,38,39,40,41,42,43,44,45],tails:=[] }],[])
def sp5_50 : List LSpec×List Nat:=([{ id:=5050000,known:=false,toks:=[],items:=[],junk:=[2],tails:=[] },{ id:=5050001,known:=true,toks:=[],items:=[.slot 2 (.val .bool)],junk:=[3,4,5,6,7,8,9,10],tails:=[] }],[])
def sp5_68 : List LSpec×List Nat:=([{ id:=5068000,known:=false,toks:=[],items:=[],junk:=[4],tails:=[] },{ id:=5068001,known:=false,toks:=[],items:=[.slot 6 (.val .bool)],junk:=[5],tails:=[] },{ id:=5068002,known:=true,toks:=[],items:=[],junk:=[7],tails:=[] },{ id:=5068003,known:=false,toks:=[],items:=[],junk:=[7],tails:=[] },{ id:=5068004,known:=false,toks:=[],items:=[.slot 1 (.val (.int .i64))],junk:=[8,9,10,11,12,13,14],tails:=[] },{ id:=5068005,known:=false,toks:=[],items:=[.slot 16 (.val .bool)],junk:=[15],tails:=[] },{ id:=5068006,known:=false,toks:=[],items:=[],junk:=[17,18,19,20,21,22,23,24,25],tails:=[] },{ id:=5068007,known:=false,toks:=[],items:=[],junk:=[17,18,19,20,21,22,23,24,25],tails:=[] },{ id:=5068008,known:=false,toks:=[],items:=[],junk:=[26],tails:=[] }],[5])
def sp5_53 : List LSpec×List Nat:=([{ id:=5053000,known:=false,toks:=[],items:=[],junk:=[2],tails:=[] },{ id:=5053001,known:=false,toks:=[],items:=[.slot 3 (.val (.int .i64))],junk:=[],tails:=[] },{ id:=5053002,known:=false,toks:=[],items:=[.slot 10 (.val (.int .i64)), .slot 11 (.val (.int .i64))],junk:=[],tails:=[] },{ id:=5300,known:=false,toks:=[],items:=[],junk:=[],tails:=[] },{ id:=5053003,known:=false,toks:=[],items:=[],junk:=[],tails:=[] },{ id:=5053004,known:=false,toks:=[],items:=[],junk:=[],tails:=[] },{ id:=5053005,known:=false,toks:=[],items:=[],junk:=[13,14],tails:=[] },{ id:=5053006,known:=false,toks:=[],items:=[.slot 3 (.val (.int .i64))],junk:=[15,16,17,18],tails:=[] },{ id:=5053007,known:=false,toks:=[],items:=[.slot 20 (.val .bool)],junk:=[19],tails:=[] },{ id:=5053008,known:=true,toks:=[],items:=[],junk:=[21],tails:=[] },{ id:=5053009,known:=false,toks:=[],items:=[],junk:=[21],tails:=[] },{ id:=5053010,known:=false,toks:=[],items:=[.slot 11 (.val (.int .i64))],junk:=[22],tails:=[] },{ id:=5053011,known:=false,toks:=[],items:=[],junk:=[23,24],tails:=[] },{ id:=5053012,known:=false,toks:=[],items:=[.slot 26 (.val (.int .i64)), .slot 27 (.val (.int .i64))],junk:=[],tails:=[] },{ id:=5301,known:=false,toks:=[],items:=[],junk:=[],tails:=[] },{ id:=5053013,known:=false,toks:=[],items:=[],junk:=[],tails:=[] },{ id:=5053014,known:=false,toks:=[],items:=[],junk:=[],tails:=[] },{ id:=5053015,known:=false,toks:=[],items:=[],junk:=[29,30],tails:=[] },{ id:=5053016,known:=false,toks:=[],items:=[],junk:=[31,32,33],tails:=[] },{ id:=5053017,known:=false,toks:=[],items:=[.slot 27 (.val (.int .i64))],junk:=[34],tails:=[] },{ id:=5053018,known:=false,toks:=[],items:=[],junk:=[35],tails:=[] }],[])
def sp5_28 : List LSpec×List Nat:=([{ id:=2800,known:=true,toks:=[(9000000,(.int .u8)),(9000000,(.mix 900000001 (.int .u8))),(7005000,(.mix 900000001 (.mix 900000002 (.int .u8))))],items:=[.slot 18 (.val (.int .i64)), .cells 1000004 [.val (.mix 2005000 (.mix 12005000 (.mix 22005000 (.int .u8))))], .rows 2005000 (.mix 12005000 (.mix 22005000 (.int .u8))), .rows 22005000 (.int .u8), .rows 12005000 (.mix 22005000 (.int .u8))],junk:=[19,20,21,22,5,6,23,24,25,26,27,28,29,30,31,32,33,34,35],tails:=[] }],[4000000001])
def sp5_26 : List LSpec×List Nat:=([{ id:=2600,known:=true,toks:=[],items:=[.slot 2 (.val (.int .i64)), .rows 23001000 (.int .u8)],junk:=[5,6,7,8,9,3,12,13,14,15,16,17,18,19,4,22,23,24,25,26,27,28,29,30,31,32,35,36,37,38,39,40,41,42,43,44,45,46,47,48,49,50,51,52,53,54,55,56,33,34,20,21,10,11],tails:=[] },{ id:=2601,known:=true,toks:=[],items:=[.slot 3 (.val (.int .i64)), .rows 21000007 (.int .u8)],junk:=[12,13,14,15,16,17,18,19,4,22,23,24,25,26,27,28,29,30,31,32,35,36,37,38,39,40,41,42,43,44,45,46,47,48,49,50,51,52,53,54,55,56,33,34,20,21],tails:=[] },{ id:=2602,known:=true,toks:=[],items:=[.slot 4 (.val (.int .i64)), .rows 21000007 (.int .u8)],junk:=[22,23,24,25,26,27,28,29,30,31,32,35,36,37,38,39,40,41,42,43,44,45,46,47,48,49,50,51,52,53,54,55,56,33,34],tails:=[] }],[])
def sp5_5 : List LSpec×List Nat:=([{ id:=5005000,known:=false,toks:=[],items:=[],junk:=[6],tails:=[] },{ id:=5005001,known:=true,toks:=[],items:=[.slot 20 (.val .bool)],junk:=[15,16,17,18,19],tails:=[] },{ id:=5005002,known:=false,toks:=[],items:=[],junk:=[6],tails:=[] },{ id:=5005003,known:=false,toks:=[],items:=[.slot 6 (.val .bool)],junk:=[],tails:=[] },{ id:=5005004,known:=false,toks:=[],items:=[],junk:=[21,22],tails:=[] },{ id:=5005005,known:=false,toks:=[],items:=[.slot 9 (.val (.int .i64))],junk:=[24,25,23,26,27],tails:=[] },{ id:=5005006,known:=false,toks:=[],items:=[.slot 11 (.val (.int .i64))],junk:=[29,30,28,31,32],tails:=[] },{ id:=5005007,known:=false,toks:=[],items:=[],junk:=[33,34],tails:=[] },{ id:=5005008,known:=true,toks:=[],items:=[.slot 13 (.val .bool)],junk:=[35,36,37,38,39,40,41,42,43,44,45,46,47,48,49,50,51],tails:=[] },{ id:=5005009,known:=true,toks:=[],items:=[.slot 14 (.val .bool)],junk:=[52,53,54,55,56,57,58,59,60,61,62,63,64,65,66,67,68],tails:=[] },{ id:=5005010,known:=false,toks:=[],items:=[],junk:=[69,70],tails:=[] },{ id:=5005011,known:=true,toks:=[],items:=[.slot 6 (.val .bool)],junk:=[71,72,73,74,75,76,77,78,79],tails:=[] }],[])
def spt5 : Tab (List LSpec×List Nat):=(.node (.node (.node (.node .leaf none (.node (.node (.node .leaf (some sp5_71) .leaf) none .leaf) none .leaf)) none (.node (.node (.node (.node .leaf (some sp5_67) .leaf) none .leaf) none .leaf) none (.node (.node (.node .leaf (some sp5_75) .leaf) none .leaf) none .leaf))) none (.node (.node (.node .leaf (some sp5_17) (.node (.node .leaf (some sp5_81) .leaf) none .leaf)) none .leaf) (some sp5_5) (.node (.node .leaf none (.node .leaf (some sp5_53) .leaf)) none (.node (.node (.node .leaf (some sp5_77) .leaf) none .leaf) none .leaf)))) none (.node (.node .leaf none (.node (.node (.node (.node .leaf (some sp5_68) .leaf) (some sp5_36) .leaf) none .leaf) none (.node .leaf (some sp5_28) .leaf))) none (.node (.node (.node .leaf none (.node .leaf (some sp5_50) .leaf)) none (.node .leaf (some sp5_26) .leaf)) none (.node .leaf none (.node (.node (.node .leaf (some sp5_78) .leaf) none .leaf) none .leaf)))))
def spf5 (f : Nat) : List LSpec×List Nat:=(spt5.get f).getD ([],[])
theorem yZ5 : zWx Try.prog cfg 5 zZf:=fnDr spf5 [] (l:=[(17,yX5),(19,yK0),(9,xJo),(27,yYl),(25,yK1),(16,yYo),(29,yX6),(30,xW3)]) (lo:=[]) (lr:=[(28,yKx)]) zXl zQ1 (.cons xQ5 (.cons xZd (.cons wZy (.cons xJi (.cons xZe (.cons xJl (.cons xQ6 (.cons wQe .nil)))))))) .nil (.cons xZa .nil) (fun d=>by kernel_rfl)
end
end Go.Proofs.Ytnbmjkbbppcbcaa
