/- The functions of the program, as functions on plain data. -/
import Derived.Test.YtghnechjgchajaaCfg
import Derived.Test.YtghnechjgchajaaM6
import Derived.ProofKit
import Derived.Test.YtghnechjgchajaaConfS
namespace Go.Proofs.Ytghnechjgchajaa
open Go.Eng
noncomputable section
set_option linter.unusedVariables false
set_option maxRecDepth 100000
def yWa(d0:Unit):Option ((Int)×((Int)×((Int)×((Int)×((Int)×((Int)×((Int)×((Int)×((Int)×(Unit)))))))))):=
 some (2,(1,(2,(1,(4,(1,(1,(1,(2,())))))))))
def xQj:PFn:={args:=[],res:=[(.pair (.int .i64) (.pair (.int .i64) (.pair (.int .i64) (.pair (.int .i64) (.pair (.int .i64) (.pair (.int .i64) (.pair (.int .i64) (.pair (.int .i64) (.pair (.int .i64) .unit)))))))))],fn:=yWa}
def uQ0:List LSpec×List Nat:=([],[5])
def uQ1:List LSpec×List Nat:=([{id:=3300,known:=true,toks:=[(9000000,(.int .u8)),(9000000,(.mix 900000001 (.int .u8))),(7005000,(.mix 900000001 (.mix 900000002 (.int .u8))))],items:=[.slot 18 (.val (.int .i64)), .cells 1000004 [.val (.mix 2005000 (.mix 12005000 (.mix 22005000 (.int .u8))))], .rows 2005000 (.mix 12005000 (.mix 22005000 (.int .u8))), .rows 22005000 (.int .u8), .rows 12005000 (.mix 22005000 (.int .u8))],junk:=[19,20,21,22,5,6,23,24,25,26,27,28,29,30,31,32,33,34,35],tails:=[]}],[4000000001])
def spt28:Tab (List LSpec×List Nat):=(.node (.node .leaf none (.node (.node (.node (.node (.node .leaf (some uQ0) .leaf) (some uQ1) .leaf) none .leaf) none .leaf) none .leaf)) none .leaf)
def spf28(f:Nat):List LSpec×List Nat:=(spt28.get f).getD ([],[])
theorem xYa:zXe Try.prog cfg 28 xQj:=fnD spf28 (l:=[]) zX9 zWb .nil (fun d=>by kernel_rfl)
def zXm(d0:(Int)×((Int)×((Int)×(Unit)))):Option (Bool):=
 (bif (Z.ile d0.2.1 d0.1)then some (Z.zQh true (Z.ile d0.1 d0.2.2.1) false)
 else some false)
def zKh:PFn:={args:=[(.pair (.int .i64) (.pair (.int .i64) (.pair (.int .i64) .unit)))],res:=[.bool],fn:=zXm}
def vYw:List LSpec×List Nat:=([],[5])
def vYx:List LSpec×List Nat:=([{id:=3300,known:=true,toks:=[(9000000,(.int .u8)),(9000000,(.mix 900000001 (.int .u8))),(7005000,(.mix 900000001 (.mix 900000002 (.int .u8))))],items:=[.slot 18 (.val (.int .i64)), .cells 1000004 [.val (.mix 2005000 (.mix 12005000 (.mix 22005000 (.int .u8))))], .rows 2005000 (.mix 12005000 (.mix 22005000 (.int .u8))), .rows 22005000 (.int .u8), .rows 12005000 (.mix 22005000 (.int .u8))],junk:=[19,20,21,22,5,6,23,24,25,26,27,28,29,30,31,32,33,34,35],tails:=[]}],[4000000001])
def spt78:Tab (List LSpec×List Nat):=(.node (.node .leaf none (.node (.node (.node (.node (.node .leaf (some vYw) .leaf) (some vYx) .leaf) none .leaf) none .leaf) none .leaf)) none .leaf)
def spf78(f:Nat):List LSpec×List Nat:=(spt78.get f).getD ([],[])
theorem zY5:zXe Try.prog cfg 78 zKh:=fnD spf78 (l:=[]) zX9 zWb .nil (fun d=>by kernel_rfl)
def yWg(d0:Int):Option (Int):=
 (bif (Z.ilt d0 1)then some 2
 else(bif (Z.zQh false true (Z.igt d0 6))then some 2
 else some 0))
def yX1:PFn:={args:=[(.int .i64)],res:=[(.int .i64)],fn:=yWg}
def vY0:List LSpec×List Nat:=([],[5])
def vY1:List LSpec×List Nat:=([{id:=3300,known:=true,toks:=[(9000000,(.int .u8)),(9000000,(.mix 900000001 (.int .u8))),(7005000,(.mix 900000001 (.mix 900000002 (.int .u8))))],items:=[.slot 18 (.val (.int .i64)), .cells 1000004 [.val (.mix 2005000 (.mix 12005000 (.mix 22005000 (.int .u8))))], .rows 2005000 (.mix 12005000 (.mix 22005000 (.int .u8))), .rows 22005000 (.int .u8), .rows 12005000 (.mix 22005000 (.int .u8))],junk:=[19,20,21,22,5,6,23,24,25,26,27,28,29,30,31,32,33,34,35],tails:=[]}],[4000000001])
def spt72:Tab (List LSpec×List Nat):=(.node (.node .leaf none (.node (.node (.node (.node (.node .leaf (some vY0) .leaf) (some vY1) .leaf) none .leaf) none .leaf) none .leaf)) none .leaf)
def spf72(f:Nat):List LSpec×List Nat:=(spt72.get f).getD ([],[])
theorem yJr:zXe Try.prog cfg 72 yX1:=fnD spf72 (l:=[]) zX9 zWb .nil (fun d=>by kernel_rfl)
def yXe(d0:Int):Option ((Int)×(Int)):=
 Z.bind (yWg d0) fun(x1:Int)=>
 (bif (Z.ine x1 0)then some (0,x1)
 else if(Z.Neg d0)then none
 else Z.bnd (Z.shl .i64 1 d0) fun(x4:Int)=>
 some (x4,0))
def yJu:PFn:={args:=[(.int .i64)],res:=[(.int .i64),(.int .i64)],fn:=yXe}
def vYn:List LSpec×List Nat:=([],[5])
def vYo:List LSpec×List Nat:=([{id:=3300,known:=true,toks:=[(9000000,(.int .u8)),(9000000,(.mix 900000001 (.int .u8))),(7005000,(.mix 900000001 (.mix 900000002 (.int .u8))))],items:=[.slot 18 (.val (.int .i64)), .cells 1000004 [.val (.mix 2005000 (.mix 12005000 (.mix 22005000 (.int .u8))))], .rows 2005000 (.mix 12005000 (.mix 22005000 (.int .u8))), .rows 22005000 (.int .u8), .rows 12005000 (.mix 22005000 (.int .u8))],junk:=[19,20,21,22,5,6,23,24,25,26,27,28,29,30,31,32,33,34,35],tails:=[]}],[4000000001])
def spt84:Tab (List LSpec×List Nat):=(.node (.node .leaf none (.node (.node (.node (.node (.node .leaf (some vYn) .leaf) (some vYo) .leaf) none .leaf) none .leaf) none .leaf)) none .leaf)
def spf84(f:Nat):List LSpec×List Nat:=(spt84.get f).getD ([],[])
theorem xZ8:zXe Try.prog cfg 84 yJu:=fnD spf84 (l:=[(72,yX1)]) zX9 zWb (.cons yJr .nil) (fun d=>by kernel_rfl)
def yKi(d0:Int):Option (Int):=
 Z.loop (fun(s1:Int) k2=>
 Z.bind (yXe s1) fun(x3:(Int)×(Int))=>
 (bif (Z.ine x3.2 0)then some s1
 else(bif (Z.zQh false true (Z.ige x3.1 d0))then some s1
 else Z.bnd (Z.wrap .i64 (Z.add s1 1)) fun(x4:Int)=>
 k2 x4))) 1
def xQn:PFn:={args:=[(.int .i64)],res:=[(.int .i64)],fn:=yKi}
def vYp:List LSpec×List Nat:=([{id:=8300,known:=true,toks:=[],items:=[.slot 3 (.val (.int .i64))],junk:=[9,10,8,11,12,4,5,13,14,15,16,17,18,19,20,2,6,7],tails:=[]}],[])
def vYq:List LSpec×List Nat:=([],[5])
def vYr:List LSpec×List Nat:=([{id:=3300,known:=true,toks:=[(9000000,(.int .u8)),(9000000,(.mix 900000001 (.int .u8))),(7005000,(.mix 900000001 (.mix 900000002 (.int .u8))))],items:=[.slot 18 (.val (.int .i64)), .cells 1000004 [.val (.mix 2005000 (.mix 12005000 (.mix 22005000 (.int .u8))))], .rows 2005000 (.mix 12005000 (.mix 22005000 (.int .u8))), .rows 22005000 (.int .u8), .rows 12005000 (.mix 22005000 (.int .u8))],junk:=[19,20,21,22,5,6,23,24,25,26,27,28,29,30,31,32,33,34,35],tails:=[]}],[4000000001])
def spt83:Tab (List LSpec×List Nat):=(.node (.node (.node .leaf none (.node (.node .leaf none (.node (.node .leaf (some vYp) .leaf) none .leaf)) none .leaf)) none (.node (.node (.node (.node (.node .leaf (some vYq) .leaf) (some vYr) .leaf) none .leaf) none .leaf) none .leaf)) none .leaf)
def spf83(f:Nat):List LSpec×List Nat:=(spt83.get f).getD ([],[])
theorem xYd:zXe Try.prog cfg 83 xQn:=fnD spf83 (l:=[(84,yJu)]) zX9 zWb (.cons xZ8 .nil) (fun d=>by kernel_rfl)
def zZg(d0:((Int)×((Int)×((Int)×((Int)×((Int)×((Int)×((Int)×((Int)×((Int)×(Unit))))))))))×((Int)×(Int))):Option ((Int)×((Int)×((Int)×((Int)×(Unit))))):=
 Z.bnd (Z.wrap .i64 (Z.add 8 d0.2.2)) fun(x1:Int)=>
 Z.bnd (Z.wrap .i64 (Z.mul d0.1.2.2.2.1 x1)) fun(x2:Int)=>
 Z.bnd (Z.wrap .i64 (Z.add x2 64)) fun(x3:Int)=>
 Z.bind (yKi d0.2.1) fun(x4:Int)=>
 some (d0.2.1,(d0.2.2,(x4,(x3,()))))
def yQz:PFn:={args:=[(.pair (.int .i64) (.pair (.int .i64) (.pair (.int .i64) (.pair (.int .i64) (.pair (.int .i64) (.pair (.int .i64) (.pair (.int .i64) (.pair (.int .i64) (.pair (.int .i64) .unit))))))))),(.int .i64),(.int .i64)],res:=[(.pair (.int .i64) (.pair (.int .i64) (.pair (.int .i64) (.pair (.int .i64) .unit))))],fn:=zZg}
def vYu:List LSpec×List Nat:=([],[5])
def vYv:List LSpec×List Nat:=([{id:=3300,known:=true,toks:=[(9000000,(.int .u8)),(9000000,(.mix 900000001 (.int .u8))),(7005000,(.mix 900000001 (.mix 900000002 (.int .u8))))],items:=[.slot 18 (.val (.int .i64)), .cells 1000004 [.val (.mix 2005000 (.mix 12005000 (.mix 22005000 (.int .u8))))], .rows 2005000 (.mix 12005000 (.mix 22005000 (.int .u8))), .rows 22005000 (.int .u8), .rows 12005000 (.mix 22005000 (.int .u8))],junk:=[19,20,21,22,5,6,23,24,25,26,27,28,29,30,31,32,33,34,35],tails:=[]}],[4000000001])
def spt80:Tab (List LSpec×List Nat):=(.node (.node .leaf none (.node (.node (.node (.node (.node .leaf (some vYu) .leaf) (some vYv) .leaf) none .leaf) none .leaf) none .leaf)) none .leaf)
def spf80(f:Nat):List LSpec×List Nat:=(spt80.get f).getD ([],[])
theorem yZt:zXe Try.prog cfg 80 yQz:=fnD spf80 (l:=[(83,xQn)]) zX9 zWb (.cons xYd .nil) (fun d=>by kernel_rfl)
def yQh(d0:((Int)×((Int)×((Int)×((Int)×((Int)×((Int)×((Int)×((Int)×((Int)×(Unit))))))))))×((Int)×((Int)×((Int)×((Int)×(Unit)))))):Option (Bool):=
 some (Z.ile d0.2.1 d0.1.2.2.2.2.2.2.2.2.1)
def zY7:PFn:={args:=[(.pair (.int .i64) (.pair (.int .i64) (.pair (.int .i64) (.pair (.int .i64) (.pair (.int .i64) (.pair (.int .i64) (.pair (.int .i64) (.pair (.int .i64) (.pair (.int .i64) .unit))))))))),(.pair (.int .i64) (.pair (.int .i64) (.pair (.int .i64) (.pair (.int .i64) .unit))))],res:=[.bool],fn:=yQh}
def vYs:List LSpec×List Nat:=([],[5])
def vYt:List LSpec×List Nat:=([{id:=3300,known:=true,toks:=[(9000000,(.int .u8)),(9000000,(.mix 900000001 (.int .u8))),(7005000,(.mix 900000001 (.mix 900000002 (.int .u8))))],items:=[.slot 18 (.val (.int .i64)), .cells 1000004 [.val (.mix 2005000 (.mix 12005000 (.mix 22005000 (.int .u8))))], .rows 2005000 (.mix 12005000 (.mix 22005000 (.int .u8))), .rows 22005000 (.int .u8), .rows 12005000 (.mix 22005000 (.int .u8))],junk:=[19,20,21,22,5,6,23,24,25,26,27,28,29,30,31,32,33,34,35],tails:=[]}],[4000000001])
def spt81:Tab (List LSpec×List Nat):=(.node (.node .leaf none (.node (.node (.node (.node (.node .leaf (some vYs) .leaf) (some vYt) .leaf) none .leaf) none .leaf) none .leaf)) none .leaf)
def spf81(f:Nat):List LSpec×List Nat:=(spt81.get f).getD ([],[])
theorem yXq:zXe Try.prog cfg 81 zY7:=fnD spf81 (l:=[]) zX9 zWb .nil (fun d=>by kernel_rfl)
def zYs(d0:(Int)×((Int)×((Int)×((Int)×((Int)×((Int)×((Int)×((Int)×((Int)×(Unit)))))))))):Option (Int):=
 Z.bind (yZc (d0.1,(d0.2.1,(d0.2.2.1,(d0.2.2.2.1,(d0.2.2.2.2.1,(d0.2.2.2.2.2.1,(d0.2.2.2.2.2.2.1,(d0.2.2.2.2.2.2.2.1,(d0.2.2.2.2.2.2.2.2.1,())))))))))) fun(x1:List ((Int)×((Int)×((Int)×(Unit)))))=>
 Z.loop (fun(s2:Int) k3=>
 (bif (Z.ilt s2 9)then if(Z.In s2 9)then Z.bnd (Z.get x1 (Z.toN s2) (0,(0,(0,())))) fun(x6:(Int)×((Int)×((Int)×(Unit))))=>
 Z.bind (zXm (x6.1,(x6.2.1,(x6.2.2.1,())))) fun(x7:Bool)=>
 (bif (Z.bnot x7)then some 8
 else Z.bnd (Z.wrap .i64 (Z.add s2 1)) fun(x8:Int)=>
 k3 x8)
 else none
 else Z.bind (zZg ((d0.1,(d0.2.1,(d0.2.2.1,(d0.2.2.2.1,(d0.2.2.2.2.1,(d0.2.2.2.2.2.1,(d0.2.2.2.2.2.2.1,(d0.2.2.2.2.2.2.2.1,(d0.2.2.2.2.2.2.2.2.1,()))))))))),(d0.1,d0.2.1))) fun(x9:(Int)×((Int)×((Int)×((Int)×(Unit)))))=>
 Z.loop (fun(s10:((Int)×((Int)×((Int)×(Int))))×(Int)) k11=>
 Z.bnd (Z.wrap .i64 (Z.add s10.2 1)) fun(x12:Int)=>
 Z.bind (yQh ((d0.1,(d0.2.1,(d0.2.2.1,(d0.2.2.2.1,(d0.2.2.2.2.1,(d0.2.2.2.2.2.1,(d0.2.2.2.2.2.2.1,(d0.2.2.2.2.2.2.2.1,(d0.2.2.2.2.2.2.2.2.1,()))))))))),(s10.1.1,(s10.1.2.1,(s10.1.2.2.1,(s10.1.2.2.2,())))))) fun(x13:Bool)=>
 (bif (Z.zQh true (Z.bnot x13) false)then Z.bnd (Z.wrap .i64 (Z.add s10.1.1 d0.2.2.1)) fun(x14:Int)=>
 Z.bnd (Z.wrap .i64 (Z.sub x14 1)) fun(x15:Int)=>
 if(Z.IsZ d0.2.2.1)then none
 else Z.bnd (Z.wrap .i64 (Z.tdiv x15 d0.2.2.1)) fun(x18:Int)=>
 Z.bnd (Z.wrap .i64 (Z.mul 4 d0.2.2.1)) fun(x19:Int)=>
 Z.bind (zZg ((d0.1,(d0.2.1,(d0.2.2.1,(d0.2.2.2.1,(d0.2.2.2.2.1,(d0.2.2.2.2.2.1,(d0.2.2.2.2.2.2.1,(d0.2.2.2.2.2.2.2.1,(d0.2.2.2.2.2.2.2.2.1,()))))))))),(x18,x19))) fun(x20:(Int)×((Int)×((Int)×((Int)×(Unit)))))=>
 k11 ((x20.1,(x20.2.1,(x20.2.2.1,x20.2.2.2.1))),x12)
 else(bif (Z.igt x12 4)then some 8
 else some 0))) ((x9.1,(x9.2.1,(x9.2.2.1,x9.2.2.2.1))),0))) 0
def yJw:PFn:={args:=[(.pair (.int .i64) (.pair (.int .i64) (.pair (.int .i64) (.pair (.int .i64) (.pair (.int .i64) (.pair (.int .i64) (.pair (.int .i64) (.pair (.int .i64) (.pair (.int .i64) .unit)))))))))],res:=[(.int .i64)],fn:=zYs}
def vY2:List LSpec×List Nat:=([{id:=7900,known:=true,toks:=[],items:=[.cells 1000003 [.val (.int .i64), .val (.int .i64), .val (.int .i64), .val (.int .i64)], .cells 1 [.val (.int .i64)]],junk:=[10,11,12,13,14,15,16,17,18,19,20,21,22,23,24,25,26,27,28,29,30,31,32],tails:=[]}],[])
def vY3:List LSpec×List Nat:=([{id:=7000,known:=true,toks:=[],items:=[.slot 8 (.val (.int .i64))],junk:=[9,10,4,11,12,13,2,14],tails:=[]}],[])
def vY4:List LSpec×List Nat:=([],[5])
def vY5:List LSpec×List Nat:=([{id:=3300,known:=true,toks:=[(9000000,(.int .u8)),(9000000,(.mix 900000001 (.int .u8))),(7005000,(.mix 900000001 (.mix 900000002 (.int .u8))))],items:=[.slot 18 (.val (.int .i64)), .cells 1000004 [.val (.mix 2005000 (.mix 12005000 (.mix 22005000 (.int .u8))))], .rows 2005000 (.mix 12005000 (.mix 22005000 (.int .u8))), .rows 22005000 (.int .u8), .rows 12005000 (.mix 22005000 (.int .u8))],junk:=[19,20,21,22,5,6,23,24,25,26,27,28,29,30,31,32,33,34,35],tails:=[]}],[4000000001])
def spt70:Tab (List LSpec×List Nat):=(.node (.node (.node (.node (.node .leaf none (.node (.node .leaf (some vY2) .leaf) none .leaf)) none .leaf) none .leaf) none (.node (.node (.node (.node (.node .leaf (some vY4) .leaf) (some vY5) .leaf) none .leaf) none .leaf) none .leaf)) none (.node .leaf none (.node .leaf none (.node (.node (.node (.node .leaf (some vY3) .leaf) none .leaf) none .leaf) none .leaf))))
def spf70(f:Nat):List LSpec×List Nat:=(spt70.get f).getD ([],[])
theorem xKa:zXe Try.prog cfg 70 yJw:=fnD spf70 (l:=[(77,yZw),(78,zKh),(80,yQz),(81,zY7)]) zX9 zWb (.cons xW5 (.cons zY5 (.cons yZt (.cons yXq .nil)))) (fun d=>by kernel_rfl)
def yQi(d0:(Int)×((Int)×((Int)×((Int)×((Int)×((Int)×((Int)×((Int)×((Int)×(Unit)))))))))):Option ((List ((Int)×((Int)×((Int)×((Int)×(Unit))))))×(Int)):=
 Z.bind (zYs (d0.1,(d0.2.1,(d0.2.2.1,(d0.2.2.2.1,(d0.2.2.2.2.1,(d0.2.2.2.2.2.1,(d0.2.2.2.2.2.2.1,(d0.2.2.2.2.2.2.2.1,(d0.2.2.2.2.2.2.2.2.1,())))))))))) fun(x1:Int)=>
 (bif (Z.ine x1 0)then some (([]:List ((Int)×((Int)×((Int)×((Int)×(Unit)))))),x1)
 else if(Z.MkOk 0 4 32)then Z.bind (zZg ((d0.1,(d0.2.1,(d0.2.2.1,(d0.2.2.2.1,(d0.2.2.2.2.1,(d0.2.2.2.2.2.1,(d0.2.2.2.2.2.2.1,(d0.2.2.2.2.2.2.2.1,(d0.2.2.2.2.2.2.2.2.1,()))))))))),(d0.1,d0.2.1))) fun(x4:(Int)×((Int)×((Int)×((Int)×(Unit)))))=>
 if(Z.EqN (Z.toN 0) 0)then if(Z.EqN 0 (Z.len ([]:List ((Int)×((Int)×((Int)×((Int)×(Unit))))))))then Z.loop (fun(s9:((Int)×((Int)×((Int)×(Int))))×(List ((Int)×((Int)×((Int)×((Int)×(Unit))))))) k10=>
 if(Z.Le (Z.addN 0 1) (Z.len ((s9.1.1,(s9.1.2.1,(s9.1.2.2.1,(s9.1.2.2.2,()))))::([]:List ((Int)×((Int)×((Int)×((Int)×(Unit)))))))))then if(Z.Big (Z.len s9.2) (Z.len (Z.seg ((s9.1.1,(s9.1.2.1,(s9.1.2.2.1,(s9.1.2.2.2,()))))::([]:List ((Int)×((Int)×((Int)×((Int)×(Unit))))))) 0 1)) 32)then none
 else if(Z.EqN (Z.len s9.2) (Z.len s9.2))then Z.bnd (Z.app s9.2 (Z.seg ((s9.1.1,(s9.1.2.1,(s9.1.2.2.1,(s9.1.2.2.2,()))))::([]:List ((Int)×((Int)×((Int)×((Int)×(Unit))))))) 0 1)) fun(x17:List ((Int)×((Int)×((Int)×((Int)×(Unit))))))=>
 Z.bind (yQh ((d0.1,(d0.2.1,(d0.2.2.1,(d0.2.2.2.1,(d0.2.2.2.2.1,(d0.2.2.2.2.2.1,(d0.2.2.2.2.2.2.1,(d0.2.2.2.2.2.2.2.1,(d0.2.2.2.2.2.2.2.2.1,()))))))))),(s9.1.1,(s9.1.2.1,(s9.1.2.2.1,(s9.1.2.2.2,())))))) fun(x18:Bool)=>
 (bif (Z.zQh true (Z.bnot x18) false)then Z.bnd (Z.wrap .i64 (Z.add s9.1.1 d0.2.2.1)) fun(x19:Int)=>
 Z.bnd (Z.wrap .i64 (Z.sub x19 1)) fun(x20:Int)=>
 if(Z.IsZ d0.2.2.1)then none
 else Z.bnd (Z.wrap .i64 (Z.tdiv x20 d0.2.2.1)) fun(x23:Int)=>
 Z.bnd (Z.wrap .i64 (Z.mul 4 d0.2.2.1)) fun(x24:Int)=>
 Z.bind (zZg ((d0.1,(d0.2.1,(d0.2.2.1,(d0.2.2.2.1,(d0.2.2.2.2.1,(d0.2.2.2.2.2.1,(d0.2.2.2.2.2.2.1,(d0.2.2.2.2.2.2.2.1,(d0.2.2.2.2.2.2.2.2.1,()))))))))),(x23,x24))) fun(x25:(Int)×((Int)×((Int)×((Int)×(Unit)))))=>
 if(Z.EqN (Z.len x17) (Z.len x17))then k10 ((x25.1,(x25.2.1,(x25.2.2.1,x25.2.2.2.1))),x17)
 else none
 else some (x17,0))
 else none
 else none) ((x4.1,(x4.2.1,(x4.2.2.1,x4.2.2.2.1))),([]:List ((Int)×((Int)×((Int)×((Int)×(Unit)))))))
 else none
 else none
 else none)
def yZx:PFn:={args:=[(.pair (.int .i64) (.pair (.int .i64) (.pair (.int .i64) (.pair (.int .i64) (.pair (.int .i64) (.pair (.int .i64) (.pair (.int .i64) (.pair (.int .i64) (.pair (.int .i64) .unit)))))))))],res:=[(.list (.pair (.int .i64) (.pair (.int .i64) (.pair (.int .i64) (.pair (.int .i64) .unit))))),(.int .i64)],fn:=yQi}
def uQa:List LSpec×List Nat:=([{id:=7900,known:=true,toks:=[(2002000,(.pair (.int .i64) (.pair (.int .i64) (.pair (.int .i64) (.pair (.int .i64) .unit)))))],items:=[.cells 1000003 [.val (.int .i64), .val (.int .i64), .val (.int .i64), .val (.int .i64)], .cells 2 [.slt (.pair (.int .i64) (.pair (.int .i64) (.pair (.int .i64) (.pair (.int .i64) .unit)))) (some 2002000) false]],junk:=[10,11,12,13,14,15,16,17,18,19,20,21,22,23,24,25,26,27,28,29,30,31,32],tails:=[(2002000,2002000)]}],[])
def uQb:List LSpec×List Nat:=([],[5])
def uQc:List LSpec×List Nat:=([{id:=3300,known:=true,toks:=[(9000000,(.int .u8)),(9000000,(.mix 900000001 (.int .u8))),(7005000,(.mix 900000001 (.mix 900000002 (.int .u8))))],items:=[.slot 18 (.val (.int .i64)), .cells 1000004 [.val (.mix 2005000 (.mix 12005000 (.mix 22005000 (.int .u8))))], .rows 2005000 (.mix 12005000 (.mix 22005000 (.int .u8))), .rows 22005000 (.int .u8), .rows 12005000 (.mix 22005000 (.int .u8))],junk:=[19,20,21,22,5,6,23,24,25,26,27,28,29,30,31,32,33,34,35],tails:=[]}],[4000000001])
def spt60:Tab (List LSpec×List Nat):=(.node (.node (.node (.node (.node .leaf none (.node (.node .leaf (some uQa) .leaf) none .leaf)) none .leaf) none .leaf) none (.node (.node (.node (.node (.node .leaf (some uQb) .leaf) (some uQc) .leaf) none .leaf) none .leaf) none .leaf)) none .leaf)
def spf60(f:Nat):List LSpec×List Nat:=(spt60.get f).getD ([],[])
theorem xW6:zXe Try.prog cfg 60 yZx:=fnD spf60 (l:=[(70,yJw),(80,yQz),(81,zY7)]) zX9 zWb (.cons xKa (.cons yZt (.cons yXq .nil))) (fun d=>by kernel_rfl)
def yQe(d0:Int):Option ((Int)×(Int)):=
 Z.bind (yWg d0) fun(x1:Int)=>
 (bif (Z.ine x1 0)then some (0,x1)
 else if(Z.Neg d0)then none
 else Z.bnd (Z.shl .i64 2 d0) fun(x4:Int)=>
 Z.bnd (Z.wrap .i64 (Z.sub x4 1)) fun(x5:Int)=>
 some (x5,0))
def yZv:PFn:={args:=[(.int .i64)],res:=[(.int .i64),(.int .i64)],fn:=yQe}
def vY8:List LSpec×List Nat:=([],[5])
def vY9:List LSpec×List Nat:=([{id:=3300,known:=true,toks:=[(9000000,(.int .u8)),(9000000,(.mix 900000001 (.int .u8))),(7005000,(.mix 900000001 (.mix 900000002 (.int .u8))))],items:=[.slot 18 (.val (.int .i64)), .cells 1000004 [.val (.mix 2005000 (.mix 12005000 (.mix 22005000 (.int .u8))))], .rows 2005000 (.mix 12005000 (.mix 22005000 (.int .u8))), .rows 22005000 (.int .u8), .rows 12005000 (.mix 22005000 (.int .u8))],junk:=[19,20,21,22,5,6,23,24,25,26,27,28,29,30,31,32,33,34,35],tails:=[]}],[4000000001])
def spt61:Tab (List LSpec×List Nat):=(.node (.node .leaf none (.node (.node (.node (.node (.node .leaf (some vY8) .leaf) (some vY9) .leaf) none .leaf) none .leaf) none .leaf)) none .leaf)
def spf61(f:Nat):List LSpec×List Nat:=(spt61.get f).getD ([],[])
theorem xW4:zXe Try.prog cfg 61 yZv:=fnD spf61 (l:=[(72,yX1)]) zX9 zWb (.cons yJr .nil) (fun d=>by kernel_rfl)
def zYr(d0:(Int)×((Int)×((Int)×((Int)×((Int)×((Int)×((Int)×((Int)×((Int)×(Unit)))))))))):Option ((List ((Int)×((Int)×(Unit))))×(Int)):=
 Z.bind (yQi (d0.1,(d0.2.1,(d0.2.2.1,(d0.2.2.2.1,(d0.2.2.2.2.1,(d0.2.2.2.2.2.1,(d0.2.2.2.2.2.2.1,(d0.2.2.2.2.2.2.2.1,(d0.2.2.2.2.2.2.2.2.1,())))))))))) fun(x1:(List ((Int)×((Int)×((Int)×((Int)×(Unit))))))×(Int))=>
 (bif (Z.ine x1.2 0)then some (([]:List ((Int)×((Int)×(Unit)))),x1.2)
 else if(Z.MkOk (Z.ofN (Z.len x1.1)) (Z.ofN (Z.len x1.1)) 16)then Z.loop (fun(s4:(Int)×(List ((Int)×((Int)×(Unit))))) k5=>
 (bif (Z.ilt s4.1 (Z.ofN (Z.len x1.1)))then if(Z.Ix s4.1 (Z.len x1.1))then Z.bnd (Z.get x1.1 (Z.toN s4.1) (0,(0,(0,(0,()))))) fun(x8:(Int)×((Int)×((Int)×((Int)×(Unit)))))=>
 Z.bind (yQe x8.2.2.1) fun(x9:(Int)×(Int))=>
 (bif (Z.ine x9.2 0)then some (([]:List ((Int)×((Int)×(Unit)))),x9.2)
 else Z.bnd (Z.wrap .i64 (Z.add 8 x8.2.2.2.1)) fun(x10:Int)=>
 if(Z.In s4.1 (Z.toN (Z.ofN (Z.len x1.1))))then if(Z.Lt (Z.addN 0 (Z.toN s4.1)) (Z.len s4.2))then Z.bnd (Z.set s4.2 (Z.addN 0 (Z.toN s4.1)) (x9.1,(x10,()))) fun(x15:List ((Int)×((Int)×(Unit))))=>
 Z.bnd (Z.wrap .i64 (Z.add s4.1 1)) fun(x16:Int)=>
 k5 (x16,x15)
 else none
 else none)
 else none
 else if(Z.Le (Z.addN 0 (Z.toN (Z.ofN (Z.len x1.1)))) (Z.len s4.2))then some ((Z.seg s4.2 0 (Z.toN (Z.ofN (Z.len x1.1)))),0)
 else none)) (0,(Z.rep (α:=(Int)×((Int)×(Unit))) (Z.toN (Z.ofN (Z.len x1.1))) (0,(0,()))))
 else none)
def yQx:PFn:={args:=[(.pair (.int .i64) (.pair (.int .i64) (.pair (.int .i64) (.pair (.int .i64) (.pair (.int .i64) (.pair (.int .i64) (.pair (.int .i64) (.pair (.int .i64) (.pair (.int .i64) .unit)))))))))],res:=[(.list (.pair (.int .i64) (.pair (.int .i64) .unit))),(.int .i64)],fn:=zYr}
def uQs:List LSpec×List Nat:=([{id:=4000,known:=true,toks:=[],items:=[.slot 24 (.val (.int .i64)), .vec 1000006 (.pair (.int .i64) (.pair (.int .i64) .unit))],junk:=[25,26,27,28,8,7,30,31,32,29,33,34,9,10,35,36,37,2,3,38,39,40,41,42,43,44,45,46],tails:=[]}],[])
def uQr:List LSpec×List Nat:=([],[5])
def uQt:List LSpec×List Nat:=([{id:=3300,known:=true,toks:=[(9000000,(.int .u8)),(9000000,(.mix 900000001 (.int .u8))),(7005000,(.mix 900000001 (.mix 900000002 (.int .u8))))],items:=[.slot 18 (.val (.int .i64)), .cells 1000004 [.val (.mix 2005000 (.mix 12005000 (.mix 22005000 (.int .u8))))], .rows 2005000 (.mix 12005000 (.mix 22005000 (.int .u8))), .rows 22005000 (.int .u8), .rows 12005000 (.mix 22005000 (.int .u8))],junk:=[19,20,21,22,5,6,23,24,25,26,27,28,29,30,31,32,33,34,35],tails:=[]}],[4000000001])
def spt40:Tab (List LSpec×List Nat):=(.node (.node .leaf none (.node (.node (.node (.node (.node .leaf (some uQr) .leaf) (some uQt) .leaf) none .leaf) none .leaf) none .leaf)) none (.node (.node (.node .leaf none (.node (.node .leaf (some uQs) .leaf) none .leaf)) none .leaf) none .leaf))
def spf40(f:Nat):List LSpec×List Nat:=(spt40.get f).getD ([],[])
theorem yZr:zXe Try.prog cfg 40 yQx:=fnD spf40 (l:=[(60,yZx),(61,yZv)]) zX9 zWb (.cons xW6 (.cons xW4 .nil)) (fun d=>by kernel_rfl)
def yQ5(d0:(Int)×(Int)):Option ((Int)×(Int)):=
 Z.bnd (Z.band .u64 d0.1 4294967295) fun(x1:Int)=>
 if(Z.Neg 32)then none
 else Z.bnd (Z.shr .u64 d0.1 32) fun(x4:Int)=>
 Z.bnd (Z.band .u64 d0.2 4294967295) fun(x5:Int)=>
 if(Z.Neg 32)then none
 else Z.bnd (Z.shr .u64 d0.2 32) fun(x8:Int)=>
 Z.bnd (Z.wrap .u64 (Z.mul x1 x5)) fun(x9:Int)=>
 Z.bnd (Z.wrap .u64 (Z.mul x4 x5)) fun(x10:Int)=>
 if(Z.Neg 32)then none
 else Z.bnd (Z.shr .u64 x9 32) fun(x13:Int)=>
 Z.bnd (Z.wrap .u64 (Z.add x10 x13)) fun(x14:Int)=>
 Z.bnd (Z.band .u64 x14 4294967295) fun(x15:Int)=>
 if(Z.Neg 32)then none
 else Z.bnd (Z.shr .u64 x14 32) fun(x18:Int)=>
 Z.bnd (Z.wrap .u64 (Z.mul x1 x8)) fun(x19:Int)=>
 Z.bnd (Z.wrap .u64 (Z.add x15 x19)) fun(x20:Int)=>
 Z.bnd (Z.wrap .u64 (Z.mul x4 x8)) fun(x21:Int)=>
 Z.bnd (Z.wrap .u64 (Z.add x21 x18)) fun(x22:Int)=>
 if(Z.Neg 32)then none
 else Z.bnd (Z.shr .u64 x20 32) fun(x25:Int)=>
 Z.bnd (Z.wrap .u64 (Z.add x22 x25)) fun(x26:Int)=>
 Z.bnd (Z.wrap .u64 (Z.mul d0.1 d0.2)) fun(x27:Int)=>
 some (x26,x27)
def zYm:PFn:={args:=[(.int .u64),(.int .u64)],res:=[(.int .u64),(.int .u64)],fn:=yQ5}
def vYy:List LSpec×List Nat:=([],[5])
def vYz:List LSpec×List Nat:=([{id:=3300,known:=true,toks:=[(9000000,(.int .u8)),(9000000,(.mix 900000001 (.int .u8))),(7005000,(.mix 900000001 (.mix 900000002 (.int .u8))))],items:=[.slot 18 (.val (.int .i64)), .cells 1000004 [.val (.mix 2005000 (.mix 12005000 (.mix 22005000 (.int .u8))))], .rows 2005000 (.mix 12005000 (.mix 22005000 (.int .u8))), .rows 22005000 (.int .u8), .rows 12005000 (.mix 22005000 (.int .u8))],junk:=[19,20,21,22,5,6,23,24,25,26,27,28,29,30,31,32,33,34,35],tails:=[]}],[4000000001])
def spt74:Tab (List LSpec×List Nat):=(.node (.node .leaf none (.node (.node (.node (.node (.node .leaf (some vYy) .leaf) (some vYz) .leaf) none .leaf) none .leaf) none .leaf)) none .leaf)
def spf74(f:Nat):List LSpec×List Nat:=(spt74.get f).getD ([],[])
theorem yZp:zXe Try.prog cfg 74 zYm:=fnD spf74 (l:=[]) zX9 zWb .nil (fun d=>by kernel_rfl)
def zY8(d0:(Int)×(Int)):Option ((Int)×(Int)):=
 Z.bind (yQ5 (d0.1,d0.2)) fun(x1:(Int)×(Int))=>
 some (x1.1,x1.2)
def yQv:PFn:={args:=[(.int .u64),(.int .u64)],res:=[(.int .u64),(.int .u64)],fn:=zY8}
def vY6:List LSpec×List Nat:=([],[5])
def vY7:List LSpec×List Nat:=([{id:=3300,known:=true,toks:=[(9000000,(.int .u8)),(9000000,(.mix 900000001 (.int .u8))),(7005000,(.mix 900000001 (.mix 900000002 (.int .u8))))],items:=[.slot 18 (.val (.int .i64)), .cells 1000004 [.val (.mix 2005000 (.mix 12005000 (.mix 22005000 (.int .u8))))], .rows 2005000 (.mix 12005000 (.mix 22005000 (.int .u8))), .rows 22005000 (.int .u8), .rows 12005000 (.mix 22005000 (.int .u8))],junk:=[19,20,21,22,5,6,23,24,25,26,27,28,29,30,31,32,33,34,35],tails:=[]}],[4000000001])
def spt62:Tab (List LSpec×List Nat):=(.node (.node .leaf none (.node (.node (.node (.node (.node .leaf (some vY6) .leaf) (some vY7) .leaf) none .leaf) none .leaf) none .leaf)) none .leaf)
def spf62(f:Nat):List LSpec×List Nat:=(spt62.get f).getD ([],[])
theorem yJ8:zXe Try.prog cfg 62 yQv:=fnD spf62 (l:=[(74,zYm)]) zX9 zWb (.cons yZp .nil) (fun d=>by kernel_rfl)
def zXj(d0:(List (Int))×(Int)):Option (List (Int)):=
 (bif (Z.ilt d0.2 0)then none
 else Z.bnd (Z.wrap .u64 (Z.ofN (Z.len d0.1))) fun(x1:Int)=>
 Z.bnd (Z.wrap .u64 d0.2) fun(x2:Int)=>
 Z.bind (zY8 (x1,x2)) fun(x3:(Int)×(Int))=>
 (bif (Z.igt x3.1 0)then none
 else(bif (Z.zQh false true (Z.igt x3.2 9223372036854775807))then none
 else Z.bnd (Z.wrap .i64 x3.2) fun(x4:Int)=>
 if(Z.MkOk x4 x4 8)then if(Z.Le (Z.addN 0 (Z.toN x4)) (Z.len (Z.rep (α:=Int) (Z.toN x4) 0)))then Z.loop (fun(s9:(Int)×(List (Int))) k10=>
 (bif (Z.ilt s9.1 (Z.ofN (Z.toN x4)))then if(Z.Bd s9.1 (Z.toN x4))then if(Z.Lt (Z.toN s9.1) (Z.toN x4))then if(Z.Bd s9.1 (Z.toN x4))then if(Z.Lt 0 (Z.toN x4))then if(Z.Le (Z.addN (Z.addN 0 0) (Z.subN (Z.toN s9.1) 0)) (Z.len s9.2))then if(Z.Le (Z.addN (Z.addN 0 (Z.toN s9.1)) (Z.subN (Z.toN x4) (Z.toN s9.1))) (Z.len s9.2))then Z.bnd (Z.wrap .i64 (Z.add s9.1 (Z.ofN (Z.minN (Z.len (Z.seg s9.2 (Z.addN 0 0) (Z.subN (Z.toN s9.1) 0))) (Z.subN (Z.toN x4) (Z.toN s9.1)))))) fun(x23:Int)=>
 k10 (x23,(Z.put s9.2 (Z.addN 0 (Z.toN s9.1)) (Z.take (Z.minN (Z.len (Z.seg s9.2 (Z.addN 0 0) (Z.subN (Z.toN s9.1) 0))) (Z.subN (Z.toN x4) (Z.toN s9.1))) (Z.seg s9.2 (Z.addN 0 0) (Z.subN (Z.toN s9.1) 0)))))
 else none
 else none
 else if(Z.Le (Z.addN (Z.addN 0 (Z.toN s9.1)) (Z.subN (Z.toN x4) (Z.toN s9.1))) (Z.len s9.2))then Z.bnd (Z.wrap .i64 (Z.add s9.1 (Z.ofN (Z.minN (Z.len ([]:List (Int))) (Z.subN (Z.toN x4) (Z.toN s9.1)))))) fun(x26:Int)=>
 k10 (x26,(Z.put s9.2 (Z.addN 0 (Z.toN s9.1)) (Z.take (Z.minN (Z.len ([]:List (Int))) (Z.subN (Z.toN x4) (Z.toN s9.1))) ([]:List (Int)))))
 else none
 else none
 else if(Z.Bd s9.1 (Z.toN x4))then if(Z.Lt 0 (Z.toN x4))then if(Z.Le (Z.addN (Z.addN 0 0) (Z.subN (Z.toN s9.1) 0)) (Z.len s9.2))then none
 else none
 else none
 else none
 else none
 else if(Z.Le (Z.addN 0 (Z.toN x4)) (Z.len s9.2))then some (Z.seg s9.2 0 (Z.toN x4))
 else none)) ((Z.ofN (Z.minN (Z.len d0.1) (Z.toN x4))),(Z.put (Z.rep (α:=Int) (Z.toN x4) 0) 0 (Z.take (Z.minN (Z.len d0.1) (Z.toN x4)) d0.1)))
 else none
 else none)))
def zZ5:PFn:={args:=[(.list (.int .i64)),(.int .i64)],res:=[(.list (.int .i64))],fn:=zXj}
def uQp:List LSpec×List Nat:=([{id:=4300,known:=true,toks:=[],items:=[.slot 8 (.val (.int .i64)), .vec 1000007 (.int .i64)],junk:=[34,35,36,37,38,39,40,41,42,43,44,45,46],tails:=[]}],[])
def uQo:List LSpec×List Nat:=([],[5])
def uQq:List LSpec×List Nat:=([{id:=3300,known:=true,toks:=[(9000000,(.int .u8)),(9000000,(.mix 900000001 (.int .u8))),(7005000,(.mix 900000001 (.mix 900000002 (.int .u8))))],items:=[.slot 18 (.val (.int .i64)), .cells 1000004 [.val (.mix 2005000 (.mix 12005000 (.mix 22005000 (.int .u8))))], .rows 2005000 (.mix 12005000 (.mix 22005000 (.int .u8))), .rows 22005000 (.int .u8), .rows 12005000 (.mix 22005000 (.int .u8))],junk:=[19,20,21,22,5,6,23,24,25,26,27,28,29,30,31,32,33,34,35],tails:=[]}],[4000000001])
def spt43:Tab (List LSpec×List Nat):=(.node (.node (.node .leaf none (.node .leaf none (.node (.node .leaf (some uQp) .leaf) none .leaf))) none (.node (.node (.node (.node (.node .leaf (some uQo) .leaf) (some uQq) .leaf) none .leaf) none .leaf) none .leaf)) none .leaf)
def spf43(f:Nat):List LSpec×List Nat:=(spt43.get f).getD ([],[])
theorem zYk:zXe Try.prog cfg 43 zZ5:=fnD spf43 (l:=[(62,yQv)]) zX9 zWb (.cons yJ8 .nil) (fun d=>by kernel_rfl)
def yKe(d0:(List (Int))×(List (Int))):Option (List (List (Int))):=
 if(Z.MkOk (Z.ofN (Z.len d0.2)) (Z.ofN (Z.len d0.2)) 24)then Z.loop (fun(s3:(Int)×((Int)×(List (List (Int))))) k4=>
 (bif (Z.ilt s3.2.1 (Z.ofN (Z.len d0.2)))then if(Z.Ix s3.2.1 (Z.len d0.2))then Z.bnd (Z.get d0.2 (Z.toN s3.2.1) 0) fun(x7:Int)=>
 Z.bnd (Z.wrap .i64 (Z.add s3.1 x7)) fun(x8:Int)=>
 Z.bnd (Z.wrap .i64 (Z.add s3.1 x7)) fun(x9:Int)=>
 if(Z.Bd x9 (Z.len d0.1))then if(Z.Bd x8 (Z.toN x9))then if(Z.Bd s3.1 (Z.toN x8))then Z.bnd (Z.slice d0.1 (Z.toN s3.1) (Z.toN x8)) fun(x16:List (Int))=>
 if(Z.In s3.2.1 (Z.toN (Z.ofN (Z.len d0.2))))then if(Z.Lt (Z.addN 0 (Z.toN s3.2.1)) (Z.len s3.2.2))then Z.bnd (Z.set s3.2.2 (Z.addN 0 (Z.toN s3.2.1)) x16) fun(x21:List (List (Int)))=>
 Z.bnd (Z.wrap .i64 (Z.add s3.1 x7)) fun(x22:Int)=>
 Z.bnd (Z.wrap .i64 (Z.add s3.2.1 1)) fun(x23:Int)=>
 k4 (x22,(x23,x21))
 else none
 else none
 else none
 else none
 else none
 else none
 else if(Z.Le (Z.addN 0 (Z.toN (Z.ofN (Z.len d0.2)))) (Z.len s3.2.2))then some (Z.seg s3.2.2 0 (Z.toN (Z.ofN (Z.len d0.2))))
 else none)) (0,(0,(Z.rep (α:=List (Int)) (Z.toN (Z.ofN (Z.len d0.2))) ([]:List (Int)))))
 else none
def xQk:PFn:={args:=[(.list (.int .u8)),(.list (.int .i64))],res:=[(.list (.list (.int .u8)))],fn:=yKe}
def uQm:List LSpec×List Nat:=([{id:=4400,known:=true,toks:=[],items:=[.slot 6 (.val (.int .i64)), .slot 14 (.val (.int .i64)), .vec 1000005 (.list (.int .u8))],junk:=[15,16,17,18,7,8,19,20,21,22,23,24,25,26,27,28,29,30,31,32,33,34],tails:=[]}],[])
def uQl:List LSpec×List Nat:=([],[5])
def uQn:List LSpec×List Nat:=([{id:=3300,known:=true,toks:=[(9000000,(.int .u8)),(9000000,(.mix 900000001 (.int .u8))),(7005000,(.mix 900000001 (.mix 900000002 (.int .u8))))],items:=[.slot 18 (.val (.int .i64)), .cells 1000004 [.val (.mix 2005000 (.mix 12005000 (.mix 22005000 (.int .u8))))], .rows 2005000 (.mix 12005000 (.mix 22005000 (.int .u8))), .rows 22005000 (.int .u8), .rows 12005000 (.mix 22005000 (.int .u8))],junk:=[19,20,21,22,5,6,23,24,25,26,27,28,29,30,31,32,33,34,35],tails:=[]}],[4000000001])
def spt44:Tab (List LSpec×List Nat):=(.node (.node .leaf none (.node (.node (.node (.node (.node .leaf (some uQl) .leaf) (some uQn) .leaf) none .leaf) none .leaf) none .leaf)) none (.node (.node .leaf none (.node .leaf none (.node (.node .leaf (some uQm) .leaf) none .leaf))) none .leaf))
def spf44(f:Nat):List LSpec×List Nat:=(spt44.get f).getD ([],[])
theorem xYb:zXe Try.prog cfg 44 xQk:=fnD spf44 (l:=[]) zX9 zWb .nil (fun d=>by kernel_rfl)
def xWd(d0:(Int)×((Int)×((Int)×((Int)×((Int)×((Int)×((Int)×((Int)×((Int)×(Unit)))))))))):Option (((List (List (List (Int))))×(Unit))×(Int)):=
 Z.bind (zYr (d0.1,(d0.2.1,(d0.2.2.1,(d0.2.2.2.1,(d0.2.2.2.2.1,(d0.2.2.2.2.2.1,(d0.2.2.2.2.2.2.1,(d0.2.2.2.2.2.2.2.1,(d0.2.2.2.2.2.2.2.2.1,())))))))))) fun(x1:(List ((Int)×((Int)×(Unit))))×(Int))=>
 (bif (Z.ine x1.2 0)then some ((([]:List (List (List (Int)))),()),x1.2)
 else if(Z.EqN 0 (Z.len ([]:List (List (List (Int))))))then Z.loop (fun(s4:(Int)×(List (List (List (Int))))) k5=>
 (bif (Z.ilt s4.1 (Z.ofN (Z.len x1.1)))then if(Z.Ix s4.1 (Z.len x1.1))then Z.bnd (Z.get x1.1 (Z.toN s4.1) (0,(0,()))) fun(x8:(Int)×((Int)×(Unit)))=>
 if(Z.Le (Z.addN 0 1) (Z.len (x8.2.1::([]:List (Int)))))then Z.bind (zXj ((Z.seg (x8.2.1::([]:List (Int))) 0 1),x8.1)) fun(x11:List (Int))=>
 Z.bnd (Z.wrap .i64 (Z.mul x8.1 x8.2.1)) fun(x12:Int)=>
 if(Z.MkOk x12 x12 1)then if(Z.Le (Z.addN 0 (Z.toN x12)) (Z.len (Z.rep (α:=Int) (Z.toN x12) 0)))then Z.bind (yKe ((Z.seg (Z.rep (α:=Int) (Z.toN x12) 0) 0 (Z.toN x12)),x11)) fun(x17:List (List (Int)))=>
 if(Z.Le (Z.addN 0 1) (Z.len (x17::([]:List (List (List (Int)))))))then if(Z.Big (Z.len s4.2) (Z.len (Z.seg (x17::([]:List (List (List (Int))))) 0 1)) 24)then none
 else if(Z.EqN (Z.len s4.2) (Z.len s4.2))then Z.bnd (Z.app s4.2 (Z.seg (x17::([]:List (List (List (Int))))) 0 1)) fun(x24:List (List (List (Int))))=>
 Z.bnd (Z.wrap .i64 (Z.add s4.1 1)) fun(x25:Int)=>
 if(Z.EqN (Z.len x24) (Z.len x24))then k5 (x25,x24)
 else none
 else none
 else none
 else none
 else none
 else none
 else none
 else some ((s4.2,()),0))) (0,([]:List (List (List (Int)))))
 else none)
def xQm:PFn:={args:=[(.pair (.int .i64) (.pair (.int .i64) (.pair (.int .i64) (.pair (.int .i64) (.pair (.int .i64) (.pair (.int .i64) (.pair (.int .i64) (.pair (.int .i64) (.pair (.int .i64) .unit)))))))))],res:=[(.pair (.list (.list (.list (.int .u8)))) .unit),(.int .i64)],fn:=xWd}
def uQ7:List LSpec×List Nat:=([{id:=2500,known:=true,toks:=[(2002000,(.list (.list (.int .u8))))],items:=[.slot 21 (.val (.int .i64)), .cells 1000006 [.slt (.list (.list (.int .u8))) (some 2002000) false]],junk:=[22,23,24,8,25,26,27,28,29,30,9,31,32,33,34,35,36,37,38,39,40,41,42,43,44],tails:=[(2002000,2002000)]}],[])
def uQ5:List LSpec×List Nat:=([],[5])
def uQ6:List LSpec×List Nat:=([{id:=3300,known:=true,toks:=[(9000000,(.int .u8)),(9000000,(.mix 900000001 (.int .u8))),(7005000,(.mix 900000001 (.mix 900000002 (.int .u8))))],items:=[.slot 18 (.val (.int .i64)), .cells 1000004 [.val (.mix 2005000 (.mix 12005000 (.mix 22005000 (.int .u8))))], .rows 2005000 (.mix 12005000 (.mix 22005000 (.int .u8))), .rows 22005000 (.int .u8), .rows 12005000 (.mix 22005000 (.int .u8))],junk:=[19,20,21,22,5,6,23,24,25,26,27,28,29,30,31,32,33,34,35],tails:=[]}],[4000000001])
def spt25:Tab (List LSpec×List Nat):=(.node (.node .leaf none (.node (.node (.node (.node (.node .leaf (some uQ5) .leaf) (some uQ6) .leaf) none .leaf) none (.node .leaf (some uQ7) .leaf)) none .leaf)) none .leaf)
def spf25(f:Nat):List LSpec×List Nat:=(spt25.get f).getD ([],[])
theorem xXx:zXe Try.prog cfg 25 xQm:=fnD spf25 (l:=[(40,yQx),(43,zZ5),(44,xQk)]) zX9 zWb (.cons yZr (.cons zYk (.cons xYb .nil))) (fun d=>by kernel_rfl)
def zXa(d0:Int):Option (List (Int)):=
 if(Z.MkOk 81 81 1)then Z.loop (fun(s3:(Int)×(List (Int))) k4=>
 (bif (Z.ilt s3.1 (Z.ofN (Z.toN 81)))then if(Z.In s3.1 (Z.toN 81))then if(Z.Lt (Z.addN 0 (Z.toN s3.1)) (Z.len s3.2))then Z.bnd (Z.set s3.2 (Z.addN 0 (Z.toN s3.1)) d0) fun(x9:List (Int))=>
 Z.bnd (Z.wrap .i64 (Z.add s3.1 1)) fun(x10:Int)=>
 k4 (x10,x9)
 else none
 else none
 else if(Z.Le (Z.addN 0 (Z.toN 81)) (Z.len s3.2))then some (Z.seg s3.2 0 (Z.toN 81))
 else none)) (0,(Z.rep (α:=Int) (Z.toN 81) 0))
 else none
def zJ3:PFn:={args:=[(.int .u8)],res:=[(.list (.int .u8))],fn:=zXa}
def sp8_8:List LSpec×List Nat:=([{id:=800,known:=true,toks:=[],items:=[.slot 4 (.val (.int .i64)), .vec 1000003 (.int .u8)],junk:=[6,7,8,9,12,13,14,15,10,11],tails:=[]}],[])
def sp8_65:List LSpec×List Nat:=([],[5])
def sp8_33:List LSpec×List Nat:=([{id:=3300,known:=true,toks:=[(9000000,(.int .u8)),(9000000,(.mix 900000001 (.int .u8))),(7005000,(.mix 900000001 (.mix 900000002 (.int .u8))))],items:=[.slot 18 (.val (.int .i64)), .cells 1000004 [.val (.mix 2005000 (.mix 12005000 (.mix 22005000 (.int .u8))))], .rows 2005000 (.mix 12005000 (.mix 22005000 (.int .u8))), .rows 22005000 (.int .u8), .rows 12005000 (.mix 22005000 (.int .u8))],junk:=[19,20,21,22,5,6,23,24,25,26,27,28,29,30,31,32,33,34,35],tails:=[]}],[4000000001])
def spt8:Tab (List LSpec×List Nat):=(.node (.node .leaf none (.node (.node (.node (.node (.node .leaf (some sp8_65) .leaf) (some sp8_33) .leaf) none .leaf) none .leaf) none .leaf)) none (.node (.node (.node .leaf (some sp8_8) .leaf) none .leaf) none .leaf))
def spf8(f:Nat):List LSpec×List Nat:=(spt8.get f).getD ([],[])
def yQ3:OFn:={args:=[(.int .u8)],ores:=[(.own (.int .u8))],fn:=zXa}
theorem yZ0:OwnD Try.prog cfg 8 yQ3∧zXe Try.prog cfg 8 yQ3.pfn:=fnO spf8 [] (l:=[]) (lo:=[]) zX9 zWb .nil .nil (fun d=>by kernel_rfl)
theorem zY4:zXe Try.prog cfg 8 zJ3:=yZ0.2
def yWr(d0:((Int)×((Int)×((Int)×((Int)×((Int)×((Int)×((Int)×((Int)×((Int)×(Unit))))))))))×((List (List (List (Int))))×(Unit))):Option (Int):=
 Z.bind (zYr (d0.1.1,(d0.1.2.1,(d0.1.2.2.1,(d0.1.2.2.2.1,(d0.1.2.2.2.2.1,(d0.1.2.2.2.2.2.1,(d0.1.2.2.2.2.2.2.1,(d0.1.2.2.2.2.2.2.2.1,(d0.1.2.2.2.2.2.2.2.2.1,())))))))))) fun(x1:(List ((Int)×((Int)×(Unit))))×(Int))=>
 (bif (Z.ine x1.2 0)then some x1.2
 else(bif (Z.ine (Z.ofN (Z.len d0.2.1)) (Z.ofN (Z.len x1.1)))then some 8
 else Z.loop (fun(s2:Int) k3=>
 (bif (Z.ilt s2 (Z.ofN (Z.len x1.1)))then if(Z.Ix s2 (Z.len x1.1))then Z.bnd (Z.get x1.1 (Z.toN s2) (0,(0,()))) fun(x6:(Int)×((Int)×(Unit)))=>
 if(Z.Ix s2 (Z.len d0.2.1))then Z.bnd (Z.get d0.2.1 (Z.toN s2) ([]:List (List (Int)))) fun(x9:List (List (Int)))=>
 (bif (Z.ine (Z.ofN (Z.len x9)) x6.1)then some 8
 else Z.bnd (Z.wrap .i64 (Z.add s2 1)) fun(x10:Int)=>
 k3 x10)
 else none
 else none
 else Z.loop (fun(s11:Int) k12=>
 (bif (Z.ilt s11 (Z.ofN (Z.len d0.2.1)))then if(Z.Ix s11 (Z.len d0.2.1))then Z.bnd (Z.get d0.2.1 (Z.toN s11) ([]:List (List (Int)))) fun(x15:List (List (Int)))=>
 Z.loop (fun(s16:Int) k17=>
 (bif (Z.ilt s16 (Z.ofN (Z.len x15)))then if(Z.Ix s16 (Z.len x15))then Z.bnd (Z.get x15 (Z.toN s16) ([]:List (Int))) fun(x20:List (Int))=>
 if(Z.Ix s11 (Z.len x1.1))then Z.bnd (Z.get x1.1 (Z.toN s11) (0,(0,()))) fun(x23:(Int)×((Int)×(Unit)))=>
 (bif (Z.bnot (Z.ieq (Z.ofN (Z.len x20)) x23.2.1))then some 8
 else Z.bnd (Z.wrap .i64 (Z.add s16 1)) fun(x24:Int)=>
 k17 x24)
 else none
 else none
 else Z.bnd (Z.wrap .i64 (Z.add s11 1)) fun(x25:Int)=>
 k12 x25)) 0
 else none
 else some 0)) 0)) 0))
def yX2:PFn:={args:=[(.pair (.int .i64) (.pair (.int .i64) (.pair (.int .i64) (.pair (.int .i64) (.pair (.int .i64) (.pair (.int .i64) (.pair (.int .i64) (.pair (.int .i64) (.pair (.int .i64) .unit))))))))),(.pair (.list (.list (.list (.int .u8)))) .unit)],res:=[(.int .i64)],fn:=yWr}
def uWb:List LSpec×List Nat:=([{id:=4100,known:=true,toks:=[],items:=[.slot 11 (.val (.int .i64))],junk:=[12,13,14,15,5,6,16,17,18,19,20,21,8,22,23,24,25,26,4,27,28],tails:=[]},{id:=4101,known:=true,toks:=[],items:=[.slot 18 (.val (.int .i64))],junk:=[19,20,21,8,22,23,24,25,26,4,27],tails:=[]}],[])
def uWd:List LSpec×List Nat:=([{id:=2300,known:=true,toks:=[],items:=[.slot 25 (.val (.int .i64))],junk:=[26,27,28,29,8,7,30,31,32,33,34,35,36,37,38,4,39],tails:=[]}],[])
def uWa:List LSpec×List Nat:=([],[5])
def uWc:List LSpec×List Nat:=([{id:=3300,known:=true,toks:=[(9000000,(.int .u8)),(9000000,(.mix 900000001 (.int .u8))),(7005000,(.mix 900000001 (.mix 900000002 (.int .u8))))],items:=[.slot 18 (.val (.int .i64)), .cells 1000004 [.val (.mix 2005000 (.mix 12005000 (.mix 22005000 (.int .u8))))], .rows 2005000 (.mix 12005000 (.mix 22005000 (.int .u8))), .rows 22005000 (.int .u8), .rows 12005000 (.mix 22005000 (.int .u8))],junk:=[19,20,21,22,5,6,23,24,25,26,27,28,29,30,31,32,33,34,35],tails:=[]}],[4000000001])
def spt23:Tab (List LSpec×List Nat):=(.node (.node (.node (.node .leaf none (.node .leaf (some uWd) .leaf)) none .leaf) none (.node (.node (.node (.node (.node .leaf (some uWa) .leaf) (some uWc) .leaf) none .leaf) none (.node (.node .leaf (some uWb) .leaf) none .leaf)) none .leaf)) none .leaf)
def spf23(f:Nat):List LSpec×List Nat:=(spt23.get f).getD ([],[])
theorem yJs:zXe Try.prog cfg 23 yX2:=fnD spf23 (l:=[(40,yQx)]) zX9 zWb (.cons yZr .nil) (fun d=>by kernel_rfl)
def zKo(d0:((List (List (List (Int))))×(Unit))×((Int)×(List (Int)))):Option (Bool):=
 (bif (Z.ilt d0.2.1 0)then some false
 else(bif (Z.zQh false true (Z.ige d0.2.1 (Z.ofN (Z.len d0.1.1))))then some false
 else Z.loop (fun(s1:Int) k2=>
 (bif (Z.ilt s1 (Z.ofN 1))then if(Z.In s1 1)then if(Z.Lt (Z.addN 0 (Z.toN s1)) (Z.len (d0.2.2::([]:List (List (Int))))))then Z.bnd (Z.get (d0.2.2::([]:List (List (Int)))) (Z.addN 0 (Z.toN s1)) ([]:List (Int))) fun(x7:List (Int))=>
 Z.loop (fun(s8:Int) k9=>
 (bif (Z.ilt s8 (Z.ofN (Z.len x7)))then if(Z.Ix s8 (Z.len x7))then Z.bnd (Z.get x7 (Z.toN s8) 0) fun(x12:Int)=>
 (bif (Z.ige x12 1)then if(Z.Ix d0.2.1 (Z.len d0.1.1))then Z.bnd (Z.get d0.1.1 (Z.toN d0.2.1) ([]:List (List (Int)))) fun(x15:List (List (Int)))=>
 (bif (Z.bnot (Z.zQh true (Z.ile x12 (Z.ofN (Z.len x15))) false))then some false
 else Z.bnd (Z.wrap .i64 (Z.add s8 1)) fun(x16:Int)=>
 k9 x16)
 else none
 else some false)
 else none
 else Z.bnd (Z.wrap .i64 (Z.add s1 1)) fun(x17:Int)=>
 k2 x17)) 0
 else none
 else none
 else some true)) 0))
def yQy:PFn:={args:=[(.pair (.list (.list (.list (.int .u8)))) .unit),(.int .i64),(.list (.int .i64))],res:=[.bool],fn:=zKo}
def uQh:List LSpec×List Nat:=([{id:=6300,known:=true,toks:=[],items:=[.slot 11 (.val (.int .i64))],junk:=[12,13,14,15,5,6,16,17,18,19,20,21,8,22,23,24,25,26,4,27,28],tails:=[]},{id:=6301,known:=true,toks:=[],items:=[.slot 18 (.val (.int .i64))],junk:=[19,20,21,8,22,23,24,25,26,4,27],tails:=[]}],[])
def uQg:List LSpec×List Nat:=([],[5])
def uQi:List LSpec×List Nat:=([{id:=3300,known:=true,toks:=[(9000000,(.int .u8)),(9000000,(.mix 900000001 (.int .u8))),(7005000,(.mix 900000001 (.mix 900000002 (.int .u8))))],items:=[.slot 18 (.val (.int .i64)), .cells 1000004 [.val (.mix 2005000 (.mix 12005000 (.mix 22005000 (.int .u8))))], .rows 2005000 (.mix 12005000 (.mix 22005000 (.int .u8))), .rows 22005000 (.int .u8), .rows 12005000 (.mix 22005000 (.int .u8))],junk:=[19,20,21,22,5,6,23,24,25,26,27,28,29,30,31,32,33,34,35],tails:=[]}],[4000000001])
def spt47:Tab (List LSpec×List Nat):=(.node (.node (.node (.node (.node (.node (.node .leaf (some uQh) .leaf) none .leaf) none .leaf) none .leaf) none .leaf) none (.node (.node (.node (.node (.node .leaf (some uQg) .leaf) (some uQi) .leaf) none .leaf) none .leaf) none .leaf)) none .leaf)
def spf47(f:Nat):List LSpec×List Nat:=(spt47.get f).getD ([],[])
theorem yZs:zXe Try.prog cfg 47 yQy:=fnD spf47 (l:=[]) zX9 zWb .nil (fun d=>by kernel_rfl)
def zWm(d0:List (List (Int))):Option (List (Int)):=
 Z.loop (fun(s1:(Int)×(Int)) k2=>
 (bif (Z.ilt s1.2 (Z.ofN (Z.len d0)))then if(Z.Ix s1.2 (Z.len d0))then Z.bnd (Z.get d0 (Z.toN s1.2) ([]:List (Int))) fun(x5:List (Int))=>
 Z.bnd (Z.wrap .i64 (Z.add s1.1 (Z.ofN (Z.len x5)))) fun(x6:Int)=>
 (bif (Z.ilt x6 0)then none
 else Z.bnd (Z.wrap .i64 (Z.add s1.2 1)) fun(x7:Int)=>
 k2 (x6,x7))
 else none
 else(bif (Z.ilt s1.1 0)then none
 else Z.bnd (Z.wrap .i64 (Z.sub 0 0)) fun(x8:Int)=>
 Z.bnd (Z.wrap .i64 (Z.sub s1.1 x8)) fun(x9:Int)=>
 (bif (Z.igt x9 0)then if(Z.Bd 0 0)then if(Z.ZOk x9 1)then Z.bnd (Z.rep (α:=Int) (Z.toN x9) 0) fun(x14:List (Int))=>
 if(Z.EqN (Z.len x14) 0)then none
 else if(Z.Big (Z.len ([]:List (Int))) (Z.len x14) 1)then none
 else Z.bnd (Z.app ([]:List (Int)) x14) fun(x19:List (Int))=>
 if(Z.Bd 0 (Z.len x19))then if(Z.Lt 0 (Z.len x19))then if(Z.EqN (Z.subN (Z.toN 0) 0) 0)then if(Z.EqN 0 (Z.len ([]:List (Int))))then Z.loop (fun(s28:(List (Int))×(Int)) k29=>
 (bif (Z.ilt s28.2 (Z.ofN (Z.len d0)))then if(Z.Ix s28.2 (Z.len d0))then Z.bnd (Z.get d0 (Z.toN s28.2) ([]:List (Int))) fun(x32:List (Int))=>
 if(Z.Big (Z.len s28.1) (Z.len x32) 1)then none
 else if(Z.EqN (Z.len s28.1) (Z.len s28.1))then Z.bnd (Z.app s28.1 x32) fun(x37:List (Int))=>
 Z.bnd (Z.wrap .i64 (Z.add s28.2 1)) fun(x38:Int)=>
 if(Z.EqN (Z.len x37) (Z.len x37))then k29 (x37,x38)
 else none
 else none
 else none
 else if(Z.EqN (Z.len s28.1) (Z.len s28.1))then some s28.1
 else none)) (([]:List (Int)),0)
 else none
 else none
 else none
 else none
 else none
 else none
 else if(Z.EqN 0 (Z.len ([]:List (Int))))then Z.loop (fun(s45:(List (Int))×(Int)) k46=>
 (bif (Z.ilt s45.2 (Z.ofN (Z.len d0)))then if(Z.Ix s45.2 (Z.len d0))then Z.bnd (Z.get d0 (Z.toN s45.2) ([]:List (Int))) fun(x49:List (Int))=>
 if(Z.Big (Z.len s45.1) (Z.len x49) 1)then none
 else if(Z.EqN (Z.len s45.1) (Z.len s45.1))then Z.bnd (Z.app s45.1 x49) fun(x54:List (Int))=>
 Z.bnd (Z.wrap .i64 (Z.add s45.2 1)) fun(x55:Int)=>
 if(Z.EqN (Z.len x54) (Z.len x54))then k46 (x54,x55)
 else none
 else none
 else none
 else if(Z.EqN (Z.len s45.1) (Z.len s45.1))then some s45.1
 else none)) (([]:List (Int)),0)
 else none)))) (0,0)
def zZk:PFn:={args:=[(.list (.list (.int .u8)))],res:=[(.list (.int .u8))],fn:=zWm}
def uQd:List LSpec×List Nat:=([],[5])
def uQe:List LSpec×List Nat:=([{id:=5100,known:=true,toks:=[],items:=[.slot 3 (.val (.int .i64)), .slot 11 (.val (.int .i64))],junk:=[12,13,14,5,15,16,17,18,19,20,21,22],tails:=[]},{id:=5101,known:=true,toks:=[(6,(.int .u8))],items:=[.slot 6 (.slt (.int .u8) (some 1000006) false), .slot 27 (.val (.int .i64))],junk:=[28,29,30,8,31,32,33,34],tails:=[(1000006,6)]}],[])
def uQf:List LSpec×List Nat:=([{id:=3300,known:=true,toks:=[(9000000,(.int .u8)),(9000000,(.mix 900000001 (.int .u8))),(7005000,(.mix 900000001 (.mix 900000002 (.int .u8))))],items:=[.slot 18 (.val (.int .i64)), .cells 1000004 [.val (.mix 2005000 (.mix 12005000 (.mix 22005000 (.int .u8))))], .rows 2005000 (.mix 12005000 (.mix 22005000 (.int .u8))), .rows 22005000 (.int .u8), .rows 12005000 (.mix 22005000 (.int .u8))],junk:=[19,20,21,22,5,6,23,24,25,26,27,28,29,30,31,32,33,34,35],tails:=[]}],[4000000001])
def spt51:Tab (List LSpec×List Nat):=(.node (.node (.node .leaf none (.node (.node .leaf none (.node .leaf (some uQe) .leaf)) none .leaf)) none (.node (.node (.node (.node (.node .leaf (some uQd) .leaf) (some uQf) .leaf) none .leaf) none .leaf) none .leaf)) none .leaf)
def spf51(f:Nat):List LSpec×List Nat:=(spt51.get f).getD ([],[])
def zXl:OFn:={args:=[(.list (.list (.int .u8)))],ores:=[(.own (.int .u8))],fn:=zWm}
theorem zZi:OwnD Try.prog cfg 51 zXl∧zXe Try.prog cfg 51 zXl.pfn:=fnO spf51 [] (l:=[]) (lo:=[]) zX9 zWb .nil .nil (fun d=>by kernel_rfl)
theorem zJx:zXe Try.prog cfg 51 zZk:=zZi.2
def zJi(d0:(List (List (List (Int))))×(Unit)):Option (((List (List (Int)))×((List (List (MixE (Int))))×(List (List (MixE (MixE (Int)))))))×((MixE (MixE (MixE (Int))))×(Unit))):=
 if(Z.MkOk (Z.ofN (Z.len d0.1)) (Z.ofN (Z.len d0.1)) 24)then Z.loop (fun(s3:(Int)×((List (MixE (Int)))×(List (List (Int))))) k4=>
 (bif (Z.ilt s3.1 (Z.ofN (Z.len d0.1)))then if(Z.Ix s3.1 (Z.len d0.1))then Z.bnd (Z.get d0.1 (Z.toN s3.1) ([]:List (List (Int)))) fun(x7:List (List (Int)))=>
 Z.loop (fun(s8:(Int)×((List (MixE (Int)))×(List (List (Int))))) k9=>
 (bif (Z.ilt s8.1 (Z.ofN (Z.len x7)))then if(Z.Ix s8.1 (Z.len x7))then Z.bnd (Z.get x7 (Z.toN s8.1) ([]:List (Int))) fun(x12:List (Int))=>
 if(Z.In s3.1 (Z.toN (Z.ofN (Z.len d0.1))))then if(Z.Lt (Z.addN 0 (Z.toN s3.1)) (Z.len s8.2.1))then Z.bnd (Z.get s8.2.1 (Z.addN 0 (Z.toN s3.1)) (MixE.nil:MixE (Int))) fun(x17:MixE (Int))=>
 if(Z.Le (Z.addN 0 1) (Z.len ((Z.ofN (Z.len x12))::([]:List (Int)))))then if(Z.XGr s8.2.2 x17)then if(Z.EqN (Z.len (Z.seg ((Z.ofN (Z.len x12))::([]:List (Int))) 0 1)) 0)then if(Z.In s3.1 (Z.toN (Z.ofN (Z.len d0.1))))then if(Z.Lt (Z.addN 0 (Z.toN s3.1)) (Z.len s8.2.1))then Z.bnd (Z.set s8.2.1 (Z.addN 0 (Z.toN s3.1)) x17) fun(x28:List (MixE (Int)))=>
 Z.bnd (Z.wrap .i64 (Z.add s8.1 1)) fun(x29:Int)=>
 k9 (x29,(x28,s8.2.2))
 else none
 else none
 else if(Z.Big (Z.xlen x17) (Z.len (Z.seg ((Z.ofN (Z.len x12))::([]:List (Int))) 0 1)) 8)then none
 else Z.bnd (Z.xapp s8.2.2 x17 (Z.seg ((Z.ofN (Z.len x12))::([]:List (Int))) 0 1)) fun(x32:List (List (Int)))=>
 Z.bnd (Z.vYa x17 (Z.len (Z.seg ((Z.ofN (Z.len x12))::([]:List (Int))) 0 1))) fun(x33:MixE (Int))=>
 if(Z.In s3.1 (Z.toN (Z.ofN (Z.len d0.1))))then if(Z.Lt (Z.addN 0 (Z.toN s3.1)) (Z.len s8.2.1))then Z.bnd (Z.set s8.2.1 (Z.addN 0 (Z.toN s3.1)) x33) fun(x38:List (MixE (Int)))=>
 Z.bnd (Z.wrap .i64 (Z.add s8.1 1)) fun(x39:Int)=>
 k9 (x39,(x38,x32))
 else none
 else none
 else none
 else none
 else none
 else none
 else none
 else Z.bnd (Z.wrap .i64 (Z.add s3.1 1)) fun(x40:Int)=>
 k4 (x40,(s8.2.1,s8.2.2)))) (0,(s3.2.1,s3.2.2))
 else none
 else Z.loop (fun(s41:(Int)×((MixE (MixE (MixE (Int))))×((List (List (MixE (MixE (Int)))))×((List (List (Int)))×(List (List (MixE (Int)))))))) k42=>
 (bif (Z.ilt s41.1 (Z.ofN (Z.len d0.1)))then if(Z.Ix s41.1 (Z.len d0.1))then Z.bnd (Z.get d0.1 (Z.toN s41.1) ([]:List (List (Int)))) fun(x45:List (List (Int)))=>
 if(Z.In s41.1 (Z.toN (Z.ofN (Z.len d0.1))))then if(Z.Lt (Z.addN 0 (Z.toN s41.1)) (Z.len s3.2.1))then Z.bnd (Z.get s3.2.1 (Z.addN 0 (Z.toN s41.1)) (MixE.nil:MixE (Int))) fun(x50:MixE (Int))=>
 Z.bind (zWm x45) fun(x51:List (Int))=>
 Z.bnd (Z.app s41.2.2.2.1 (x51::([]:List (List (Int))))) fun(x52:List (List (Int)))=>
 if(Z.MkOk (Z.ofN (Z.xlen x50)) (Z.ofN (Z.xlen x50)) 24)then Z.bind (Z.mapO (fun(e55:List (Int))=>
 some (Z.yXw e55)) (Z.rep (α:=List (Int)) (Z.toN (Z.ofN (Z.xlen x50))) ([]:List (Int)))) fun(x56:List (MixE (Int)))=>
 Z.loop (fun(s57:(List (MixE (Int)))×((Int)×(Int))) k58=>
 (bif (Z.ilt s57.2.2 (Z.ofN (Z.xlen x50)))then if(Z.Ix s57.2.2 (Z.xlen x50))then if(Z.XPt s3.2.2 x50 (Z.toN s57.2.2))then if(Z.XPt s3.2.2 x50 (Z.toN s57.2.2))then Z.bnd (Z.xat s3.2.2 x50 (Z.toN s57.2.2) 0) fun(x65:Int)=>
 Z.bnd (Z.wrap .i64 (Z.add s57.2.1 x65)) fun(x66:Int)=>
 Z.bnd (Z.wrap .i64 (Z.add s57.2.1 x65)) fun(x67:Int)=>
 if(Z.XCut x52 (Z.xrow (Z.len s41.2.2.2.1) x51))then if(Z.Bd x67 (Z.xlen (Z.xrow (Z.len s41.2.2.2.1) x51)))then if(Z.Bd x66 (Z.toN x67))then if(Z.Bd s57.2.1 (Z.toN x66))then Z.bnd (Z.xcut (Z.xrow (Z.len s41.2.2.2.1) x51) (Z.toN s57.2.1) (Z.toN x66)) fun(x76:MixE (Int))=>
 if(Z.In s57.2.2 (Z.toN (Z.ofN (Z.xlen x50))))then if(Z.Lt (Z.addN 0 (Z.toN s57.2.2)) (Z.len s57.1))then Z.bnd (Z.set s57.1 (Z.addN 0 (Z.toN s57.2.2)) x76) fun(x81:List (MixE (Int)))=>
 Z.bnd (Z.wrap .i64 (Z.add s57.2.1 x65)) fun(x82:Int)=>
 Z.bnd (Z.wrap .i64 (Z.add s57.2.2 1)) fun(x83:Int)=>
 k58 (x81,(x82,x83))
 else none
 else none
 else none
 else none
 else none
 else none
 else none
 else none
 else none
 else if(Z.EqN 0 0)then if(Z.EqN (Z.toN (Z.ofN (Z.xlen x50))) (Z.len s57.1))then Z.bnd (Z.app s41.2.2.2.2 (s57.1::([]:List (List (MixE (Int)))))) fun(x88:List (List (MixE (Int))))=>
 if(Z.XGr s41.2.2.1 s41.2.1)then if(Z.EqN (Z.len ((Z.xnew (α:=MixE (Int)) (Z.len s41.2.2.2.2) (Z.toN (Z.ofN (Z.xlen x50))))::([]:List (MixE (MixE (Int)))))) 0)then Z.bnd (Z.wrap .i64 (Z.add s41.1 1)) fun(x93:Int)=>
 k42 (x93,(s41.2.1,(s41.2.2.1,(x52,x88))))
 else if(Z.Big (Z.xlen s41.2.1) (Z.len ((Z.xnew (α:=MixE (Int)) (Z.len s41.2.2.2.2) (Z.toN (Z.ofN (Z.xlen x50))))::([]:List (MixE (MixE (Int)))))) 24)then none
 else Z.bnd (Z.xapp s41.2.2.1 s41.2.1 ((Z.xnew (α:=MixE (Int)) (Z.len s41.2.2.2.2) (Z.toN (Z.ofN (Z.xlen x50))))::([]:List (MixE (MixE (Int)))))) fun(x96:List (List (MixE (MixE (Int)))))=>
 Z.bnd (Z.vYa s41.2.1 (Z.len ((Z.xnew (α:=MixE (Int)) (Z.len s41.2.2.2.2) (Z.toN (Z.ofN (Z.xlen x50))))::([]:List (MixE (MixE (Int))))))) fun(x97:MixE (MixE (MixE (Int))))=>
 Z.bnd (Z.wrap .i64 (Z.add s41.1 1)) fun(x98:Int)=>
 k42 (x98,(x97,(x96,(x52,x88))))
 else none
 else none
 else none)) (x56,(0,0))
 else none
 else none
 else none
 else none
 else some ((s41.2.2.2.1,(s41.2.2.2.2,s41.2.2.1)),(s41.2.1,())))) (0,((Z.xnew (α:=MixE (MixE (Int))) 0 0),((([]:List (MixE (MixE (Int))))::([]:List (List (MixE (MixE (Int)))))),(([]:List (List (Int))),([]:List (List (MixE (Int)))))))))) (0,((Z.wQq (α:=Int) (Z.toN (Z.ofN (Z.len d0.1)))),(Z.rep (α:=List (Int)) (Z.toN (Z.ofN (Z.len d0.1))) ([]:List (Int)))))
 else none
def wQ3:List LSpec×List Nat:=([{id:=4400,known:=true,toks:=[(5500005,(.mix 1000000 (.int .u8)))],items:=[.vec 1000005 (.mix 1000000 (.int .u8)), .slot 6 (.val (.int .i64)), .slot 14 (.val (.int .i64))],junk:=[15,16,17,18,7,8,19,20,21,22,23,24,25,26,27,28,29,30,31,32,33,34],tails:=[]}],[888888])
def wQ4:List LSpec×List Nat:=([{id:=4100,known:=true,toks:=[],items:=[.slot 11 (.val (.int .i64)), .vec 2004000 (.mix 3 (.int .i64)), .rows 3 (.int .i64)],junk:=[12,13,14,15,5,6,16,17,18,19,20,21,8,22,23,24,25,26,4,27,28],tails:=[]},{id:=4101,known:=true,toks:=[],items:=[.slot 18 (.val (.int .i64)), .vec 2004000 (.mix 3 (.int .i64)), .rows 3 (.int .i64)],junk:=[19,20,21,8,22,23,24,25,26,4,27],tails:=[]}],[])
def wQ2:List LSpec×List Nat:=([],[5])
def wQ5:List LSpec×List Nat:=([{id:=3300,known:=true,toks:=[(9000000,(.int .u8)),(9000000,(.mix 900000001 (.int .u8))),(7005000,(.mix 900000001 (.mix 900000002 (.int .u8))))],items:=[.slot 18 (.val (.int .i64)), .cells 1000004 [.val (.mix 2005000 (.mix 12005000 (.mix 22005000 (.int .u8))))], .rows 2005000 (.mix 12005000 (.mix 22005000 (.int .u8))), .rows 22005000 (.int .u8), .rows 12005000 (.mix 22005000 (.int .u8))],junk:=[19,20,21,22,5,6,23,24,25,26,27,28,29,30,31,32,33,34,35],tails:=[]}],[4000000001])
def wYv:Tab (List LSpec×List Nat):=(.node (.node .leaf none (.node (.node (.node (.node (.node .leaf (some wQ2) .leaf) (some wQ5) .leaf) none .leaf) none (.node (.node .leaf (some wQ4) .leaf) none .leaf)) none .leaf)) none (.node (.node .leaf none (.node .leaf none (.node (.node .leaf (some wQ3) .leaf) none .leaf))) none .leaf))
def wYw(f:Nat):List LSpec×List Nat:=(wYv.get f).getD ([],[])
def zJ2:RFn:={args:=[(.pair (.list (.list (.list (.int .u8)))) .unit)],objs:=[(.int .u8),(.mix 0 (.int .u8)),(.mix 1 (.mix 0 (.int .u8)))],res:=[(.pair (.mix 2 (.mix 1 (.mix 0 (.int .u8)))) .unit)],fn:=zJi}
theorem zY2:OwnR Try.prog cfg 33 zJ2:=fnR wYw [] (l:=[(51,zZk)]) (lo:=[(51,zXl)]) (lr:=[]) zX9 zWb (.cons zJx .nil) (.cons zZi.1 .nil) .nil (fun d=>by kernel_rfl)
def zXx(d0:List (Int)):Option (List (Int)):=
 if(Z.Le (Z.addN 0 0) (Z.len ([]:List (Int))))then if(Z.EqN (Z.len d0) 0)then if(Z.Le (Z.addN 0 0) (Z.len ([]:List (Int))))then some (Z.seg ([]:List (Int)) 0 0)
 else none
 else if(Z.Big (Z.len (Z.seg ([]:List (Int)) 0 0)) (Z.len d0) 1)then none
 else Z.bnd (Z.app (Z.seg ([]:List (Int)) 0 0) d0) fun(x9:List (Int))=>
 if(Z.Le (Z.addN 0 (Z.len x9)) (Z.len x9))then some (Z.seg x9 0 (Z.len x9))
 else none
 else none
def zJc:PFn:={args:=[(.list (.int .u8))],res:=[(.list (.int .u8))],fn:=zXx}
def cx39 : CloneX Try.prog cfg 39 5 (.int .u8) := clx xf39 5 (xf39.body.cOps.getD 0 ⟨none, .move (.tmp 0), 0, "", #[], none⟩) (xf39.body.cOps.getD 1 ⟨none, .move (.tmp 0), 0, "", #[], none⟩) (by kernel_rfl) (by kernel_rfl) (by kernel_rfl) (by kernel_rfl) (by kernel_rfl) (by kernel_rfl) (by kernel_rfl) (by kernel_rfl) (by kernel_rfl)
def uQu:List LSpec×List Nat:=([],[5])
def uQw:List LSpec×List Nat:=([{id:=3300,known:=true,toks:=[(9000000,(.int .u8)),(9000000,(.mix 900000001 (.int .u8))),(7005000,(.mix 900000001 (.mix 900000002 (.int .u8))))],items:=[.slot 18 (.val (.int .i64)), .cells 1000004 [.val (.mix 2005000 (.mix 12005000 (.mix 22005000 (.int .u8))))], .rows 2005000 (.mix 12005000 (.mix 22005000 (.int .u8))), .rows 22005000 (.int .u8), .rows 12005000 (.mix 22005000 (.int .u8))],junk:=[19,20,21,22,5,6,23,24,25,26,27,28,29,30,31,32,33,34,35],tails:=[]}],[4000000001])
def uQv:List LSpec×List Nat:=([],[3])
def spt39:Tab (List LSpec×List Nat):=(.node (.node (.node (.node .leaf none (.node (.node .leaf (some uQv) .leaf) none .leaf)) none .leaf) none (.node (.node (.node (.node (.node .leaf (some uQu) .leaf) (some uQw) .leaf) none .leaf) none .leaf) none .leaf)) none .leaf)
def spf39(f:Nat):List LSpec×List Nat:=(spt39.get f).getD ([],[])
theorem zYd:zXe Try.prog cfg 39 zJc:=cloneD spf39 zX9 zWb cx39 (of_decide_eq_true (by kernel_rfl)) (by kernel_rfl) (by kernel_rfl) (by kernel_rfl) (fun d=>by kernel_rfl) (fun d=>by kernel_rfl) (by kernel_rfl) (fun d r h=>by
  unfold zXx at h;split at h
  · split at h
    · rename_i e
      have h1:=Option.some.inj h;rw[←h1];exact(Qq.1 e).symm
    · split at h
      ·cases h
      · simp only[Z.bnd]at h
        split at h
        · have h1:(d.drop 0).take d.length=r:=Option.some.inj h
          rw[←h1];simp
        ·cases h
  ·cases h)
def yZ1:OFn:={args:=[(.list (.int .u8))],ores:=[(.own (.int .u8))],fn:=zXx}
theorem xW8:OwnD Try.prog cfg 39 yZ1∧True:=⟨cloneO spf39 zX9 zWb cx39 (of_decide_eq_true (by kernel_rfl)) (by kernel_rfl) (by kernel_rfl) (by kernel_rfl) (fun d=>by kernel_rfl) (fun d=>by kernel_rfl) (by kernel_rfl) (fun d r h=>by
  unfold zXx at h;split at h
  · split at h
    · rename_i e
      have h1:=Option.some.inj h;rw[←h1];exact(Qq.1 e).symm
    · split at h
      ·cases h
      · simp only[Z.bnd]at h
        split at h
        · have h1:(d.drop 0).take d.length=r:=Option.some.inj h
          rw[←h1];simp
        ·cases h
  ·cases h),trivial⟩
def yKf(d0:((Int)×((Int)×((Int)×((Int)×((Int)×((Int)×((Int)×((Int)×((Int)×(Unit))))))))))×(((List (List (List (Int))))×(Unit))×((Int)×((List (Int))×(List (List (Int))))))):Option (((List (List (List (Int))))×(Unit))×((List ((Int)×((Int)×((Int)×((List (Int))×(Unit))))))×(Int))):=
 Z.bind (yWr ((d0.1.1,(d0.1.2.1,(d0.1.2.2.1,(d0.1.2.2.2.1,(d0.1.2.2.2.2.1,(d0.1.2.2.2.2.2.1,(d0.1.2.2.2.2.2.2.1,(d0.1.2.2.2.2.2.2.2.1,(d0.1.2.2.2.2.2.2.2.2.1,()))))))))),(d0.2.1.1,()))) fun(x1:Int)=>
 (bif (Z.ine x1 0)then some ((([]:List (List (List (Int)))),()),(([]:List ((Int)×((Int)×((Int)×((List (Int))×(Unit)))))),x1))
 else Z.bind (zKo ((d0.2.1.1,()),(d0.2.2.1,d0.2.2.2.1))) fun(x2:Bool)=>
 (bif (Z.bnot x2)then some ((([]:List (List (List (Int)))),()),(([]:List ((Int)×((Int)×((Int)×((List (Int))×(Unit)))))),2))
 else(bif (Z.zQh false true (Z.ine (Z.ofN (Z.len d0.2.2.2.2)) (Z.ofN (Z.len d0.2.2.2.1))))then some ((([]:List (List (List (Int)))),()),(([]:List ((Int)×((Int)×((Int)×((List (Int))×(Unit)))))),2))
 else Z.loop (fun(s3:Int) k4=>
 (bif (Z.ilt s3 (Z.ofN (Z.len d0.2.2.2.1)))then if(Z.Ix s3 (Z.len d0.2.2.2.1))then Z.bnd (Z.get d0.2.2.2.1 (Z.toN s3) 0) fun(x7:Int)=>
 if(Z.Ix s3 (Z.len d0.2.2.2.2))then Z.bnd (Z.get d0.2.2.2.2 (Z.toN s3) ([]:List (Int))) fun(x10:List (Int))=>
 if(Z.Ix d0.2.2.1 (Z.len d0.2.1.1))then Z.bnd (Z.get d0.2.1.1 (Z.toN d0.2.2.1) ([]:List (List (Int)))) fun(x13:List (List (Int)))=>
 Z.bnd (Z.wrap .i64 (Z.sub x7 1)) fun(x14:Int)=>
 if(Z.Ix x14 (Z.len x13))then Z.bnd (Z.get x13 (Z.toN x14) ([]:List (Int))) fun(x17:List (Int))=>
 (bif (Z.ine (Z.ofN (Z.len x10)) (Z.ofN (Z.len x17)))then some ((([]:List (List (List (Int)))),()),(([]:List ((Int)×((Int)×((Int)×((List (Int))×(Unit)))))),2))
 else Z.bnd (Z.wrap .i64 (Z.add s3 1)) fun(x18:Int)=>
 k4 x18)
 else none
 else none
 else none
 else none
 else Z.bind (zJi (d0.2.1.1,())) fun(x19:((List (List (Int)))×((List (List (MixE (Int))))×(List (List (MixE (MixE (Int)))))))×((MixE (MixE (MixE (Int))))×(Unit)))=>
 if(Z.EqN 0 (Z.len ([]:List ((Int)×((Int)×((Int)×((List (Int))×(Unit))))))))then Z.loop (fun(s22:(Int)×((List ((Int)×((Int)×((Int)×((List (Int))×(Unit))))))×(List (List (Int))))) k23=>
 (bif (Z.ilt s22.1 (Z.ofN (Z.len d0.2.2.2.1)))then if(Z.Ix s22.1 (Z.len d0.2.2.2.1))then Z.bnd (Z.get d0.2.2.2.1 (Z.toN s22.1) 0) fun(x26:Int)=>
 if(Z.Ix s22.1 (Z.len d0.2.2.2.2))then Z.bnd (Z.get d0.2.2.2.2 (Z.toN s22.1) ([]:List (Int))) fun(x29:List (Int))=>
 if(Z.Ix d0.2.2.1 (Z.xlen x19.2.1))then if(Z.XPt x19.1.2.2 x19.2.1 (Z.toN d0.2.2.1))then if(Z.XPt x19.1.2.2 x19.2.1 (Z.toN d0.2.2.1))then Z.bnd (Z.xat x19.1.2.2 x19.2.1 (Z.toN d0.2.2.1) (MixE.nil:MixE (MixE (Int)))) fun(x36:MixE (MixE (Int)))=>
 Z.bnd (Z.wrap .i64 (Z.sub x26 1)) fun(x37:Int)=>
 if(Z.Ix x37 (Z.xlen x36))then if(Z.XPt x19.1.2.1 x36 (Z.toN x37))then if(Z.XPt x19.1.2.1 x36 (Z.toN x37))then Z.bnd (Z.xat x19.1.2.1 x36 (Z.toN x37) (MixE.nil:MixE (Int))) fun(x44:MixE (Int))=>
 if(Z.XW s22.2.2 x44)then Z.bnd (Z.xput s22.2.2 x44 (Z.take (Z.minN (Z.len x29) (Z.xlen x44)) x29)) fun(x47:List (List (Int)))=>
 Z.bind (zXx x29) fun(x48:List (Int))=>
 if(Z.Le (Z.addN 0 1) (Z.len ((2,(d0.2.2.1,(x26,(x48,()))))::([]:List ((Int)×((Int)×((Int)×((List (Int))×(Unit)))))))))then if(Z.Big (Z.len s22.2.1) (Z.len (Z.seg ((2,(d0.2.2.1,(x26,(x48,()))))::([]:List ((Int)×((Int)×((Int)×((List (Int))×(Unit))))))) 0 1)) 48)then none
 else if(Z.EqN (Z.len s22.2.1) (Z.len s22.2.1))then Z.bnd (Z.app s22.2.1 (Z.seg ((2,(d0.2.2.1,(x26,(x48,()))))::([]:List ((Int)×((Int)×((Int)×((List (Int))×(Unit))))))) 0 1)) fun(x55:List ((Int)×((Int)×((Int)×((List (Int))×(Unit))))))=>
 Z.bnd (Z.wrap .i64 (Z.add s22.1 1)) fun(x56:Int)=>
 if(Z.EqN (Z.len x55) (Z.len x55))then k23 (x56,(x55,x47))
 else none
 else none
 else none
 else none
 else none
 else none
 else none
 else none
 else none
 else none
 else none
 else none
 else if(Z.XOk x19.1.2.2 x19.2.1)then Z.bind (Z.mapO (fun(e61:MixE (MixE (Int)))=>
 if(Z.XOk x19.1.2.1 e61)then Z.bind (Z.mapO (fun(e64:MixE (Int))=>
 if(Z.XOk s22.2.2 e64)then Z.bnd (Z.xget s22.2.2 e64) fun(x67:List (Int))=>
 some x67
 else none) (Z.xget x19.1.2.1 e61)) fun(x68:List (List (Int)))=>
 some x68
 else none) (Z.xget x19.1.2.2 x19.2.1)) fun(x69:List (List (List (Int))))=>
 some ((x69,()),(s22.2.1,0))
 else none)) (0,(([]:List ((Int)×((Int)×((Int)×((List (Int))×(Unit)))))),x19.1.1))
 else none)) 0)))
def xQl:PFn:={args:=[(.pair (.int .i64) (.pair (.int .i64) (.pair (.int .i64) (.pair (.int .i64) (.pair (.int .i64) (.pair (.int .i64) (.pair (.int .i64) (.pair (.int .i64) (.pair (.int .i64) .unit))))))))),(.pair (.list (.list (.list (.int .u8)))) .unit),(.int .i64),(.list (.int .i64)),(.list (.list (.int .u8)))],res:=[(.pair (.list (.list (.list (.int .u8)))) .unit),(.list (.pair (.int .u8) (.pair (.int .i64) (.pair (.int .i64) (.pair (.list (.int .u8)) .unit))))),(.int .i64)],fn:=yKf}
def uQx:List LSpec×List Nat:=([],[5])
def uQy:List LSpec×List Nat:=([{id:=3300,known:=true,toks:=[(9000000,(.int .u8)),(9000000,(.mix 900000001 (.int .u8))),(7005000,(.mix 900000001 (.mix 900000002 (.int .u8))))],items:=[.slot 18 (.val (.int .i64)), .cells 1000004 [.val (.mix 2005000 (.mix 12005000 (.mix 22005000 (.int .u8))))], .rows 2005000 (.mix 12005000 (.mix 22005000 (.int .u8))), .rows 22005000 (.int .u8), .rows 12005000 (.mix 22005000 (.int .u8))],junk:=[19,20,21,22,5,6,23,24,25,26,27,28,29,30,31,32,33,34,35],tails:=[]}],[4000000001])
def uQz:List LSpec×List Nat:=([{id:=2900,known:=true,toks:=[],items:=[.slot 41 (.val (.int .i64))],junk:=[42,43,44,45,14,15,46,47,48,49,50,51,52,53,54,55,56,57,58,59,60,61,62,12,63],tails:=[]},{id:=2901,known:=true,toks:=[(2004000,(.pair (.int .u8) (.pair (.int .i64) (.pair (.int .i64) (.pair (.list (.int .u8)) .unit)))))],items:=[.slot 69 (.val (.int .i64)), .cells 1000011 [.slt (.pair (.int .u8) (.pair (.int .i64) (.pair (.int .i64) (.pair (.list (.int .u8)) .unit)))) (some 2004000) false], .rows 23010000 (.int .u8)],junk:=[70,71,72,73,17,18,74,75,76,77,78,79,80,81],tails:=[(2004000,2004000)]}],[])
def spt29:Tab (List LSpec×List Nat):=(.node (.node .leaf none (.node (.node (.node (.node (.node .leaf (some uQx) .leaf) (some uQy) .leaf) none .leaf) none .leaf) none (.node .leaf none (.node .leaf (some uQz) .leaf)))) none .leaf)
def spf29(f:Nat):List LSpec×List Nat:=(spt29.get f).getD ([],[])
theorem xYc:zXe Try.prog cfg 29 xQl:=fnDr spf29 [] (l:=[(23,yX2),(47,yQy),(39,zJc)]) (lo:=[]) (lr:=[(33,zJ2)]) zX9 zWb (.cons yJs (.cons yZs (.cons zYd .nil))) .nil (.cons zY2 .nil) (fun d=>by kernel_rfl)
def yYs(d0:((List (List (List (Int))))×(Unit))×((Int)×((Int)×((Int)×((List (Int))×(Unit)))))):Option (Bool):=
 (bif (Z.ine d0.2.1 1)then(bif (Z.zQh true (Z.ine d0.2.1 2) false)then some false
 else if(Z.Le (Z.addN 0 1) (Z.len (d0.2.2.2.1::([]:List (Int)))))then Z.bind (zKo ((d0.1.1,()),(d0.2.2.1,(Z.seg (d0.2.2.2.1::([]:List (Int))) 0 1)))) fun(x3:Bool)=>
 (bif (Z.zQh false true (Z.bnot x3))then some false
 else if(Z.Ix d0.2.2.1 (Z.len d0.1.1))then Z.bnd (Z.get d0.1.1 (Z.toN d0.2.2.1) ([]:List (List (Int)))) fun(x6:List (List (Int)))=>
 Z.bnd (Z.wrap .i64 (Z.sub d0.2.2.2.1 1)) fun(x7:Int)=>
 if(Z.Ix x7 (Z.len x6))then Z.bnd (Z.get x6 (Z.toN x7) ([]:List (Int))) fun(x10:List (Int))=>
 some (Z.ieq (Z.ofN (Z.len d0.2.2.2.2.1)) (Z.ofN (Z.len x10)))
 else none
 else none)
 else none)
 else if(Z.Le (Z.addN 0 1) (Z.len (d0.2.2.2.1::([]:List (Int)))))then Z.bind (zKo ((d0.1.1,()),(d0.2.2.1,(Z.seg (d0.2.2.2.1::([]:List (Int))) 0 1)))) fun(x13:Bool)=>
 (bif (Z.zQh false true (Z.bnot x13))then some false
 else if(Z.Ix d0.2.2.1 (Z.len d0.1.1))then Z.bnd (Z.get d0.1.1 (Z.toN d0.2.2.1) ([]:List (List (Int)))) fun(x16:List (List (Int)))=>
 Z.bnd (Z.wrap .i64 (Z.sub d0.2.2.2.1 1)) fun(x17:Int)=>
 if(Z.Ix x17 (Z.len x16))then Z.bnd (Z.get x16 (Z.toN x17) ([]:List (Int))) fun(x20:List (Int))=>
 some (Z.ieq (Z.ofN (Z.len d0.2.2.2.2.1)) (Z.ofN (Z.len x20)))
 else none
 else none)
 else none)
def xXy:PFn:={args:=[(.pair (.list (.list (.list (.int .u8)))) .unit),(.pair (.int .u8) (.pair (.int .i64) (.pair (.int .i64) (.pair (.list (.int .u8)) .unit))))],res:=[.bool],fn:=yYs}
def uQj:List LSpec×List Nat:=([],[5])
def uQk:List LSpec×List Nat:=([{id:=3300,known:=true,toks:=[(9000000,(.int .u8)),(9000000,(.mix 900000001 (.int .u8))),(7005000,(.mix 900000001 (.mix 900000002 (.int .u8))))],items:=[.slot 18 (.val (.int .i64)), .cells 1000004 [.val (.mix 2005000 (.mix 12005000 (.mix 22005000 (.int .u8))))], .rows 2005000 (.mix 12005000 (.mix 22005000 (.int .u8))), .rows 22005000 (.int .u8), .rows 12005000 (.mix 22005000 (.int .u8))],junk:=[19,20,21,22,5,6,23,24,25,26,27,28,29,30,31,32,33,34,35],tails:=[]}],[4000000001])
def spt45:Tab (List LSpec×List Nat):=(.node (.node .leaf none (.node (.node (.node (.node (.node .leaf (some uQj) .leaf) (some uQk) .leaf) none .leaf) none .leaf) none .leaf)) none .leaf)
def spf45(f:Nat):List LSpec×List Nat:=(spt45.get f).getD ([],[])
theorem wWa:zXe Try.prog cfg 45 xXy:=fnD spf45 (l:=[(47,yQy)]) zX9 zWb (.cons yZs .nil) (fun d=>by kernel_rfl)
def zZe(d0:((Int)×((Int)×((Int)×((Int)×((Int)×((Int)×((Int)×((Int)×((Int)×(Unit))))))))))×(((List (List (List (Int))))×(Unit))×(List ((Int)×((Int)×((Int)×((List (Int))×(Unit)))))))):Option (((List (List (List (Int))))×(Unit))×(Int)):=
 Z.bind (yWr ((d0.1.1,(d0.1.2.1,(d0.1.2.2.1,(d0.1.2.2.2.1,(d0.1.2.2.2.2.1,(d0.1.2.2.2.2.2.1,(d0.1.2.2.2.2.2.2.1,(d0.1.2.2.2.2.2.2.2.1,(d0.1.2.2.2.2.2.2.2.2.1,()))))))))),(d0.2.1.1,()))) fun(x1:Int)=>
 (bif (Z.ine x1 0)then some ((([]:List (List (List (Int)))),()),x1)
 else Z.loop (fun(s2:Int) k3=>
 (bif (Z.ilt s2 (Z.ofN (Z.len d0.2.2)))then if(Z.Ix s2 (Z.len d0.2.2))then Z.bnd (Z.get d0.2.2 (Z.toN s2) (0,(0,(0,(([]:List (Int)),()))))) fun(x6:(Int)×((Int)×((Int)×((List (Int))×(Unit)))))=>
 Z.bind (yYs ((d0.2.1.1,()),(x6.1,(x6.2.1,(x6.2.2.1,(x6.2.2.2.1,())))))) fun(x7:Bool)=>
 (bif (Z.bnot x7)then some ((([]:List (List (List (Int)))),()),2)
 else Z.bnd (Z.wrap .i64 (Z.add s2 1)) fun(x8:Int)=>
 k3 x8)
 else none
 else Z.bind (zJi (d0.2.1.1,())) fun(x9:((List (List (Int)))×((List (List (MixE (Int))))×(List (List (MixE (MixE (Int)))))))×((MixE (MixE (MixE (Int))))×(Unit)))=>
 Z.loop (fun(s10:(Int)×(List (List (Int)))) k11=>
 (bif (Z.ilt s10.1 (Z.ofN (Z.len d0.2.2)))then if(Z.Ix s10.1 (Z.len d0.2.2))then Z.bnd (Z.get d0.2.2 (Z.toN s10.1) (0,(0,(0,(([]:List (Int)),()))))) fun(x14:(Int)×((Int)×((Int)×((List (Int))×(Unit)))))=>
 (bif (Z.ieq x14.1 2)then if(Z.Ix x14.2.1 (Z.xlen x9.2.1))then if(Z.XPt x9.1.2.2 x9.2.1 (Z.toN x14.2.1))then if(Z.XPt x9.1.2.2 x9.2.1 (Z.toN x14.2.1))then Z.bnd (Z.xat x9.1.2.2 x9.2.1 (Z.toN x14.2.1) (MixE.nil:MixE (MixE (Int)))) fun(x21:MixE (MixE (Int)))=>
 Z.bnd (Z.wrap .i64 (Z.sub x14.2.2.1 1)) fun(x22:Int)=>
 if(Z.Ix x22 (Z.xlen x21))then if(Z.XPt x9.1.2.1 x21 (Z.toN x22))then if(Z.XPt x9.1.2.1 x21 (Z.toN x22))then Z.bnd (Z.xat x9.1.2.1 x21 (Z.toN x22) (MixE.nil:MixE (Int))) fun(x29:MixE (Int))=>
 if(Z.XW s10.2 x29)then Z.bnd (Z.xput s10.2 x29 (Z.take (Z.minN (Z.len x14.2.2.2.1) (Z.xlen x29)) x14.2.2.2.1)) fun(x32:List (List (Int)))=>
 Z.bnd (Z.wrap .i64 (Z.add s10.1 1)) fun(x33:Int)=>
 k11 (x33,x32)
 else none
 else none
 else none
 else none
 else none
 else none
 else none
 else Z.bnd (Z.wrap .i64 (Z.add s10.1 1)) fun(x34:Int)=>
 k11 (x34,s10.2))
 else none
 else if(Z.XOk x9.1.2.2 x9.2.1)then Z.bind (Z.mapO (fun(e37:MixE (MixE (Int)))=>
 if(Z.XOk x9.1.2.1 e37)then Z.bind (Z.mapO (fun(e40:MixE (Int))=>
 if(Z.XOk s10.2 e40)then Z.bnd (Z.xget s10.2 e40) fun(x43:List (Int))=>
 some x43
 else none) (Z.xget x9.1.2.1 e37)) fun(x44:List (List (Int)))=>
 some x44
 else none) (Z.xget x9.1.2.2 x9.2.1)) fun(x45:List (List (List (Int))))=>
 some ((x45,()),0)
 else none)) (0,x9.1.1))) 0)
def yJv:PFn:={args:=[(.pair (.int .i64) (.pair (.int .i64) (.pair (.int .i64) (.pair (.int .i64) (.pair (.int .i64) (.pair (.int .i64) (.pair (.int .i64) (.pair (.int .i64) (.pair (.int .i64) .unit))))))))),(.pair (.list (.list (.list (.int .u8)))) .unit),(.list (.pair (.int .u8) (.pair (.int .i64) (.pair (.int .i64) (.pair (.list (.int .u8)) .unit)))))],res:=[(.pair (.list (.list (.list (.int .u8)))) .unit),(.int .i64)],fn:=zZe}
def uQ2:List LSpec×List Nat:=([],[5])
def uQ3:List LSpec×List Nat:=([{id:=3300,known:=true,toks:=[(9000000,(.int .u8)),(9000000,(.mix 900000001 (.int .u8))),(7005000,(.mix 900000001 (.mix 900000002 (.int .u8))))],items:=[.slot 18 (.val (.int .i64)), .cells 1000004 [.val (.mix 2005000 (.mix 12005000 (.mix 22005000 (.int .u8))))], .rows 2005000 (.mix 12005000 (.mix 22005000 (.int .u8))), .rows 22005000 (.int .u8), .rows 12005000 (.mix 22005000 (.int .u8))],junk:=[19,20,21,22,5,6,23,24,25,26,27,28,29,30,31,32,33,34,35],tails:=[]}],[4000000001])
def uQ4:List LSpec×List Nat:=([{id:=2600,known:=true,toks:=[],items:=[.slot 23 (.val (.int .i64))],junk:=[24,25,26,10,27,28,29,30,31,7,32],tails:=[]},{id:=2601,known:=true,toks:=[],items:=[.slot 37 (.val (.int .i64)), .rows 23011000 (.int .u8)],junk:=[38,39,40,13,41,42,43,44,45,46,47,48,49,50,51,52],tails:=[]}],[])
def spt26:Tab (List LSpec×List Nat):=(.node (.node .leaf none (.node (.node (.node (.node (.node .leaf (some uQ2) .leaf) (some uQ3) .leaf) none .leaf) none .leaf) none .leaf)) none (.node .leaf none (.node (.node .leaf none (.node .leaf (some uQ4) .leaf)) none .leaf)))
def spf26(f:Nat):List LSpec×List Nat:=(spt26.get f).getD ([],[])
theorem xZ9:zXe Try.prog cfg 26 yJv:=fnDr spf26 [] (l:=[(23,yX2),(45,xXy)]) (lo:=[]) (lr:=[(33,zJ2)]) zX9 zWb (.cons yJs (.cons wWa .nil)) .nil (.cons zY2 .nil) (fun d=>by kernel_rfl)
def zJf(d0:(List ((Int)×((Int)×((Int)×((List (Int))×(Unit))))))×((Int)×(Int))):Option (List (List (Int))):=
 if(Z.EqN 0 (Z.len ([]:List (List (Int)))))then Z.loop (fun(s3:(Int)×(List (List (Int)))) k4=>
 (bif (Z.ilt s3.1 (Z.ofN (Z.len d0.1)))then if(Z.Ix s3.1 (Z.len d0.1))then Z.bnd (Z.get d0.1 (Z.toN s3.1) (0,(0,(0,(([]:List (Int)),()))))) fun(x7:(Int)×((Int)×((Int)×((List (Int))×(Unit)))))=>
 (bif (Z.ieq x7.1 2)then(bif (Z.zQh true (Z.ieq x7.2.1 d0.2.1) false)then(bif (Z.zQh true (Z.ieq x7.2.2.1 d0.2.2) false)then Z.bind (zXx x7.2.2.2.1) fun(x8:List (Int))=>
 if(Z.Le (Z.addN 0 1) (Z.len (x8::([]:List (List (Int))))))then if(Z.Big (Z.len s3.2) (Z.len (Z.seg (x8::([]:List (List (Int)))) 0 1)) 24)then none
 else if(Z.EqN (Z.len s3.2) (Z.len s3.2))then Z.bnd (Z.app s3.2 (Z.seg (x8::([]:List (List (Int)))) 0 1)) fun(x15:List (List (Int)))=>
 Z.bnd (Z.wrap .i64 (Z.add s3.1 1)) fun(x16:Int)=>
 if(Z.EqN (Z.len x15) (Z.len x15))then k4 (x16,x15)
 else none
 else none
 else none
 else Z.bnd (Z.wrap .i64 (Z.add s3.1 1)) fun(x19:Int)=>
 if(Z.EqN (Z.len s3.2) (Z.len s3.2))then k4 (x19,s3.2)
 else none)
 else Z.bnd (Z.wrap .i64 (Z.add s3.1 1)) fun(x22:Int)=>
 if(Z.EqN (Z.len s3.2) (Z.len s3.2))then k4 (x22,s3.2)
 else none)
 else Z.bnd (Z.wrap .i64 (Z.add s3.1 1)) fun(x25:Int)=>
 if(Z.EqN (Z.len s3.2) (Z.len s3.2))then k4 (x25,s3.2)
 else none)
 else none
 else some s3.2)) (0,([]:List (List (Int))))
 else none
def yQw:PFn:={args:=[(.list (.pair (.int .u8) (.pair (.int .i64) (.pair (.int .i64) (.pair (.list (.int .u8)) .unit))))),(.int .i64),(.int .i64)],res:=[(.list (.list (.int .u8)))],fn:=zJf}
def uWe:List LSpec×List Nat:=([],[5])
def uWg:List LSpec×List Nat:=([{id:=3300,known:=true,toks:=[(9000000,(.int .u8)),(9000000,(.mix 900000001 (.int .u8))),(7005000,(.mix 900000001 (.mix 900000002 (.int .u8))))],items:=[.slot 18 (.val (.int .i64)), .cells 1000004 [.val (.mix 2005000 (.mix 12005000 (.mix 22005000 (.int .u8))))], .rows 2005000 (.mix 12005000 (.mix 22005000 (.int .u8))), .rows 22005000 (.int .u8), .rows 12005000 (.mix 22005000 (.int .u8))],junk:=[19,20,21,22,5,6,23,24,25,26,27,28,29,30,31,32,33,34,35],tails:=[]}],[4000000001])
def uWf:List LSpec×List Nat:=([{id:=5900,known:=true,toks:=[(2000000,(.list (.int .u8)))],items:=[.slot 9 (.val (.int .i64)), .cells 0 [.slt (.list (.int .u8)) (some 2000000) false]],junk:=[10,11,12,6,13,14,15,16,17,18,19,20,21,22,23,24,25,26,27,28,29,30,31,32,33,34,35],tails:=[(2000000,2000000)]}],[])
def spt17:Tab (List LSpec×List Nat):=(.node (.node (.node .leaf none (.node .leaf none (.node .leaf none (.node .leaf (some uWf) .leaf)))) none (.node (.node (.node (.node (.node .leaf (some uWe) .leaf) (some uWg) .leaf) none .leaf) none .leaf) none .leaf)) none .leaf)
def spf17(f:Nat):List LSpec×List Nat:=(spt17.get f).getD ([],[])
theorem yJ9:zXe Try.prog cfg 17 yQw:=fnD spf17 (l:=[(39,zJc)]) zX9 zWb (.cons zYd .nil) (fun d=>by kernel_rfl)
def xK4(d0:((Int)×((Int)×((Int)×((Int)×((Int)×((Int)×((Int)×((Int)×((Int)×(Unit))))))))))×(((List (List (List (Int))))×(Unit))×((List ((Int)×((Int)×((Int)×((List (Int))×(Unit))))))×((Int)×((Int)×((Int)×((Int)×((Int)×((Int)×(Unit)))))))))):Option (((List (List (List (Int))))×(Unit))×(Int)):=
 Z.bind (zZe ((d0.1.1,(d0.1.2.1,(d0.1.2.2.1,(d0.1.2.2.2.1,(d0.1.2.2.2.2.1,(d0.1.2.2.2.2.2.1,(d0.1.2.2.2.2.2.2.1,(d0.1.2.2.2.2.2.2.2.1,(d0.1.2.2.2.2.2.2.2.2.1,()))))))))),((d0.2.1.1,()),d0.2.2.1))) fun(x1:((List (List (List (Int))))×(Unit))×(Int))=>
 (bif (Z.ine x1.2 0)then some ((([]:List (List (List (Int)))),()),x1.2)
 else(bif (Z.ieq d0.2.2.2.1 5)then if(Z.EqN 0 (Z.len ([]:List ((Int)×((Int)×((Int)×((List (Int))×(Unit))))))))then Z.loop (fun(s4:(List ((Int)×((Int)×((Int)×((List (Int))×(Unit))))))×(Int)) k5=>
 (bif (Z.ilt s4.2 (Z.ofN (Z.len d0.2.2.1)))then if(Z.Ix s4.2 (Z.len d0.2.2.1))then Z.bnd (Z.get d0.2.2.1 (Z.toN s4.2) (0,(0,(0,(([]:List (Int)),()))))) fun(x8:(Int)×((Int)×((Int)×((List (Int))×(Unit)))))=>
 (bif (Z.ieq x8.1 2)then if(Z.Le (Z.addN 0 1) (Z.len ((x8.1,(x8.2.1,(x8.2.2.1,(x8.2.2.2.1,()))))::([]:List ((Int)×((Int)×((Int)×((List (Int))×(Unit)))))))))then if(Z.Big (Z.len s4.1) (Z.len (Z.seg ((x8.1,(x8.2.1,(x8.2.2.1,(x8.2.2.2.1,()))))::([]:List ((Int)×((Int)×((Int)×((List (Int))×(Unit))))))) 0 1)) 48)then none
 else if(Z.EqN (Z.len s4.1) (Z.len s4.1))then Z.bnd (Z.app s4.1 (Z.seg ((x8.1,(x8.2.1,(x8.2.2.1,(x8.2.2.2.1,()))))::([]:List ((Int)×((Int)×((Int)×((List (Int))×(Unit))))))) 0 1)) fun(x15:List ((Int)×((Int)×((Int)×((List (Int))×(Unit))))))=>
 Z.bnd (Z.wrap .i64 (Z.add s4.2 1)) fun(x16:Int)=>
 if(Z.EqN (Z.len x15) (Z.len x15))then k5 (x15,x16)
 else none
 else none
 else none
 else Z.bnd (Z.wrap .i64 (Z.add s4.2 1)) fun(x19:Int)=>
 if(Z.EqN (Z.len s4.1) (Z.len s4.1))then k5 (s4.1,x19)
 else none)
 else none
 else(bif (Z.ige d0.2.2.2.2.2.2.2.1 0)then(bif (Z.bnot (Z.zQh true (Z.ile d0.2.2.2.2.2.2.2.1 (Z.ofN (Z.len s4.1))) false))then some ((([]:List (List (List (Int)))),()),2)
 else Z.bind (xWd (d0.1.1,(d0.1.2.1,(d0.1.2.2.1,(d0.1.2.2.2.1,(d0.1.2.2.2.2.1,(d0.1.2.2.2.2.2.1,(d0.1.2.2.2.2.2.2.1,(d0.1.2.2.2.2.2.2.2.1,(d0.1.2.2.2.2.2.2.2.2.1,())))))))))) fun(x22:((List (List (List (Int))))×(Unit))×(Int))=>
 (bif (Z.bnot (Z.ieq x22.2 0))then some ((([]:List (List (List (Int)))),()),2)
 else if(Z.Bd d0.2.2.2.2.2.2.2.1 (Z.len s4.1))then if(Z.EqN 0 0)then if(Z.EqN (Z.toN d0.2.2.2.2.2.2.2.1) (Z.len s4.1))then Z.bnd (Z.slice s4.1 0 (Z.toN d0.2.2.2.2.2.2.2.1)) fun(x29:List ((Int)×((Int)×((Int)×((List (Int))×(Unit))))))=>
 Z.bind (zZe ((d0.1.1,(d0.1.2.1,(d0.1.2.2.1,(d0.1.2.2.2.1,(d0.1.2.2.2.2.1,(d0.1.2.2.2.2.2.1,(d0.1.2.2.2.2.2.2.1,(d0.1.2.2.2.2.2.2.2.1,(d0.1.2.2.2.2.2.2.2.2.1,()))))))))),((x22.1.1,()),x29))) fun(x30:((List (List (List (Int))))×(Unit))×(Int))=>
 (bif (Z.bnot (Z.ieq x30.2 0))then some ((([]:List (List (List (Int)))),()),2)
 else some ((x30.1.1,()),0))
 else Z.bnd (Z.slice s4.1 0 (Z.toN d0.2.2.2.2.2.2.2.1)) fun(x31:List ((Int)×((Int)×((Int)×((List (Int))×(Unit))))))=>
 Z.bind (zZe ((d0.1.1,(d0.1.2.1,(d0.1.2.2.1,(d0.1.2.2.2.1,(d0.1.2.2.2.2.1,(d0.1.2.2.2.2.2.1,(d0.1.2.2.2.2.2.2.1,(d0.1.2.2.2.2.2.2.2.1,(d0.1.2.2.2.2.2.2.2.2.1,()))))))))),((x22.1.1,()),x31))) fun(x32:((List (List (List (Int))))×(Unit))×(Int))=>
 (bif (Z.bnot (Z.ieq x32.2 0))then some ((([]:List (List (List (Int)))),()),2)
 else some ((x32.1.1,()),0))
 else Z.bnd (Z.slice s4.1 0 (Z.toN d0.2.2.2.2.2.2.2.1)) fun(x33:List ((Int)×((Int)×((Int)×((List (Int))×(Unit))))))=>
 Z.bind (zZe ((d0.1.1,(d0.1.2.1,(d0.1.2.2.1,(d0.1.2.2.2.1,(d0.1.2.2.2.2.1,(d0.1.2.2.2.2.2.1,(d0.1.2.2.2.2.2.2.1,(d0.1.2.2.2.2.2.2.2.1,(d0.1.2.2.2.2.2.2.2.2.1,()))))))))),((x22.1.1,()),x33))) fun(x34:((List (List (List (Int))))×(Unit))×(Int))=>
 (bif (Z.bnot (Z.ieq x34.2 0))then some ((([]:List (List (List (Int)))),()),2)
 else some ((x34.1.1,()),0))
 else none))
 else some ((([]:List (List (List (Int)))),()),2)))) (([]:List ((Int)×((Int)×((Int)×((List (Int))×(Unit)))))),0)
 else none
 else Z.bind (zJi (d0.2.1.1,())) fun(x35:((List (List (Int)))×((List (List (MixE (Int))))×(List (List (MixE (MixE (Int)))))))×((MixE (MixE (MixE (Int))))×(Unit)))=>
 (bif (Z.ige d0.2.2.2.2.1 0)then(bif (Z.bnot (Z.zQh true (Z.ilt d0.2.2.2.2.1 (Z.ofN (Z.xlen x35.2.1))) false))then some ((([]:List (List (List (Int)))),()),2)
 else(bif (Z.ige d0.2.2.2.2.2.1 1)then if(Z.Ix d0.2.2.2.2.1 (Z.xlen x35.2.1))then if(Z.XPt x35.1.2.2 x35.2.1 (Z.toN d0.2.2.2.2.1))then if(Z.XPt x35.1.2.2 x35.2.1 (Z.toN d0.2.2.2.2.1))then Z.bnd (Z.xat x35.1.2.2 x35.2.1 (Z.toN d0.2.2.2.2.1) (MixE.nil:MixE (MixE (Int)))) fun(x42:MixE (MixE (Int)))=>
 (bif (Z.bnot (Z.zQh true (Z.ile d0.2.2.2.2.2.1 (Z.ofN (Z.xlen x42))) false))then some ((([]:List (List (List (Int)))),()),2)
 else if(Z.Ix d0.2.2.2.2.1 (Z.xlen x35.2.1))then if(Z.XPt x35.1.2.2 x35.2.1 (Z.toN d0.2.2.2.2.1))then if(Z.XPt x35.1.2.2 x35.2.1 (Z.toN d0.2.2.2.2.1))then Z.bnd (Z.xat x35.1.2.2 x35.2.1 (Z.toN d0.2.2.2.2.1) (MixE.nil:MixE (MixE (Int)))) fun(x49:MixE (MixE (Int)))=>
 Z.bnd (Z.wrap .i64 (Z.sub d0.2.2.2.2.2.1 1)) fun(x50:Int)=>
 if(Z.Ix x50 (Z.xlen x49))then if(Z.XPt x35.1.2.1 x49 (Z.toN x50))then if(Z.XPt x35.1.2.1 x49 (Z.toN x50))then Z.bnd (Z.xat x35.1.2.1 x49 (Z.toN x50) (MixE.nil:MixE (Int))) fun(x57:MixE (Int))=>
 Z.bind (zJf (d0.2.2.1,(d0.2.2.2.2.1,d0.2.2.2.2.2.1))) fun(x58:List (List (Int)))=>
 (bif (Z.ieq d0.2.2.2.1 1)then(bif (Z.ine d0.2.2.2.2.2.2.2.2.1 0)then(bif (Z.zQh true (Z.ige d0.2.2.2.2.2.2.2.1 0) false)then(bif (Z.bnot (Z.zQh true (Z.ilt d0.2.2.2.2.2.2.2.1 (Z.ofN (Z.xlen x57))) false))then some ((([]:List (List (List (Int)))),()),2)
 else if(Z.Ix d0.2.2.2.2.2.2.2.1 (Z.xlen x57))then if(Z.XPt x35.1.1 x57 (Z.toN d0.2.2.2.2.2.2.2.1))then if(Z.XPt x35.1.1 x57 (Z.toN d0.2.2.2.2.2.2.2.1))then Z.bnd (Z.xat x35.1.1 x57 (Z.toN d0.2.2.2.2.2.2.2.1) 0) fun(x65:Int)=>
 Z.bnd (Z.bxor .u8 x65 d0.2.2.2.2.2.2.2.2.1) fun(x66:Int)=>
 if(Z.Ix d0.2.2.2.2.2.2.2.1 (Z.xlen x57))then if(Z.XPt x35.1.1 x57 (Z.toN d0.2.2.2.2.2.2.2.1))then if(Z.XPt x35.1.1 x57 (Z.toN d0.2.2.2.2.2.2.2.1))then Z.bnd (Z.xset x35.1.1 x57 (Z.toN d0.2.2.2.2.2.2.2.1) x66) fun(x73:List (List (Int)))=>
 if(Z.XOk x35.1.2.2 x35.2.1)then Z.bind (Z.mapO (fun(e76:MixE (MixE (Int)))=>
 if(Z.XOk x35.1.2.1 e76)then Z.bind (Z.mapO (fun(e79:MixE (Int))=>
 if(Z.XOk x73 e79)then Z.bnd (Z.xget x73 e79) fun(x82:List (Int))=>
 some x82
 else none) (Z.xget x35.1.2.1 e76)) fun(x83:List (List (Int)))=>
 some x83
 else none) (Z.xget x35.1.2.2 x35.2.1)) fun(x84:List (List (List (Int))))=>
 some ((x84,()),0)
 else none
 else none
 else none
 else none
 else none
 else none
 else none)
 else some ((([]:List (List (List (Int)))),()),2))
 else some ((([]:List (List (List (Int)))),()),2))
 else(bif (Z.ieq d0.2.2.2.1 2)then(bif (Z.ige d0.2.2.2.2.1 0)then(bif (Z.bnot (Z.zQh true (Z.ilt d0.2.2.2.2.1 (Z.ofN (Z.xlen x35.2.1))) false))then some ((([]:List (List (List (Int)))),()),2)
 else(bif (Z.ige d0.2.2.2.2.2.2.1 1)then if(Z.Ix d0.2.2.2.2.1 (Z.xlen x35.2.1))then if(Z.XPt x35.1.2.2 x35.2.1 (Z.toN d0.2.2.2.2.1))then if(Z.XPt x35.1.2.2 x35.2.1 (Z.toN d0.2.2.2.2.1))then Z.bnd (Z.xat x35.1.2.2 x35.2.1 (Z.toN d0.2.2.2.2.1) (MixE.nil:MixE (MixE (Int)))) fun(x91:MixE (MixE (Int)))=>
 (bif (Z.bnot (Z.zQh true (Z.ile d0.2.2.2.2.2.2.1 (Z.ofN (Z.xlen x91))) false))then some ((([]:List (List (List (Int)))),()),2)
 else if(Z.Ix d0.2.2.2.2.1 (Z.xlen x35.2.1))then if(Z.XPt x35.1.2.2 x35.2.1 (Z.toN d0.2.2.2.2.1))then if(Z.XPt x35.1.2.2 x35.2.1 (Z.toN d0.2.2.2.2.1))then Z.bnd (Z.xat x35.1.2.2 x35.2.1 (Z.toN d0.2.2.2.2.1) (MixE.nil:MixE (MixE (Int)))) fun(x98:MixE (MixE (Int)))=>
 Z.bnd (Z.wrap .i64 (Z.sub d0.2.2.2.2.2.2.1 1)) fun(x99:Int)=>
 if(Z.Ix x99 (Z.xlen x98))then if(Z.XPt x35.1.2.1 x98 (Z.toN x99))then if(Z.XPt x35.1.2.1 x98 (Z.toN x99))then Z.bnd (Z.xat x35.1.2.1 x98 (Z.toN x99) (MixE.nil:MixE (Int))) fun(x106:MixE (Int))=>
 if(Z.XOk x35.1.1 x57)then Z.bnd (Z.xget x35.1.1 x57) fun(x109:List (Int))=>
 Z.bind (zXx x109) fun(x110:List (Int))=>
 Z.bnd (Z.app x35.1.1 (x110::([]:List (List (Int))))) fun(x111:List (List (Int)))=>
 if(Z.XOk x111 x106)then Z.bnd (Z.xget x111 x106) fun(x114:List (Int))=>
 if(Z.XW x111 x57)then Z.bnd (Z.xput x111 x57 (Z.take (Z.minN (Z.len x114) (Z.xlen x57)) x114)) fun(x117:List (List (Int)))=>
 if(Z.XOk x117 (Z.xrow (Z.len x35.1.1) x110))then Z.bnd (Z.xget x117 (Z.xrow (Z.len x35.1.1) x110)) fun(x120:List (Int))=>
 if(Z.XW x117 x106)then Z.bnd (Z.xput x117 x106 (Z.take (Z.minN (Z.len x120) (Z.xlen x106)) x120)) fun(x123:List (List (Int)))=>
 if(Z.XOk x35.1.2.2 x35.2.1)then Z.bind (Z.mapO (fun(e126:MixE (MixE (Int)))=>
 if(Z.XOk x35.1.2.1 e126)then Z.bind (Z.mapO (fun(e129:MixE (Int))=>
 if(Z.XOk x123 e129)then Z.bnd (Z.xget x123 e129) fun(x132:List (Int))=>
 some x132
 else none) (Z.xget x35.1.2.1 e126)) fun(x133:List (List (Int)))=>
 some x133
 else none) (Z.xget x35.1.2.2 x35.2.1)) fun(x134:List (List (List (Int))))=>
 some ((x134,()),0)
 else none
 else none
 else none
 else none
 else none
 else none
 else none
 else none
 else none
 else none
 else none
 else none)
 else none
 else none
 else none
 else some ((([]:List (List (List (Int)))),()),2)))
 else some ((([]:List (List (List (Int)))),()),2))
 else(bif (Z.ieq d0.2.2.2.1 4)then(bif (Z.ieq (Z.ofN (Z.len x58)) 1)then if(Z.XW x35.1.1 x57)then Z.bnd (Z.xput x35.1.1 x57 (Z.rep (α:=Int) (Z.xlen x57) 0)) fun(x137:List (List (Int)))=>
 if(Z.XOk x35.1.2.2 x35.2.1)then Z.bind (Z.mapO (fun(e140:MixE (MixE (Int)))=>
 if(Z.XOk x35.1.2.1 e140)then Z.bind (Z.mapO (fun(e143:MixE (Int))=>
 if(Z.XOk x137 e143)then Z.bnd (Z.xget x137 e143) fun(x146:List (Int))=>
 some x146
 else none) (Z.xget x35.1.2.1 e140)) fun(x147:List (List (Int)))=>
 some x147
 else none) (Z.xget x35.1.2.2 x35.2.1)) fun(x148:List (List (List (Int))))=>
 some ((x148,()),0)
 else none
 else none
 else Z.bnd (Z.wrap .i64 (Z.sub (Z.ofN (Z.len x58)) 2)) fun(x149:Int)=>
 (bif (Z.ige x149 0)then(bif (Z.bnot (Z.zQh true (Z.ilt x149 (Z.ofN (Z.len x58))) false))then some ((([]:List (List (List (Int)))),()),2)
 else if(Z.Ix x149 (Z.len x58))then Z.bnd (Z.get x58 (Z.toN x149) ([]:List (Int))) fun(x152:List (Int))=>
 if(Z.XW x35.1.1 x57)then Z.bnd (Z.xput x35.1.1 x57 (Z.take (Z.minN (Z.len x152) (Z.xlen x57)) x152)) fun(x155:List (List (Int)))=>
 if(Z.XOk x35.1.2.2 x35.2.1)then Z.bind (Z.mapO (fun(e158:MixE (MixE (Int)))=>
 if(Z.XOk x35.1.2.1 e158)then Z.bind (Z.mapO (fun(e161:MixE (Int))=>
 if(Z.XOk x155 e161)then Z.bnd (Z.xget x155 e161) fun(x164:List (Int))=>
 some x164
 else none) (Z.xget x35.1.2.1 e158)) fun(x165:List (List (Int)))=>
 some x165
 else none) (Z.xget x35.1.2.2 x35.2.1)) fun(x166:List (List (List (Int))))=>
 some ((x166,()),0)
 else none
 else none
 else none)
 else some ((([]:List (List (List (Int)))),()),2)))
 else(bif (Z.ieq d0.2.2.2.1 3)then(bif (Z.ige d0.2.2.2.2.2.2.2.1 0)then(bif (Z.bnot (Z.zQh true (Z.ilt d0.2.2.2.2.2.2.2.1 (Z.ofN (Z.len x58))) false))then some ((([]:List (List (List (Int)))),()),2)
 else if(Z.Ix d0.2.2.2.2.2.2.2.1 (Z.len x58))then Z.bnd (Z.get x58 (Z.toN d0.2.2.2.2.2.2.2.1) ([]:List (Int))) fun(x169:List (Int))=>
 if(Z.XW x35.1.1 x57)then Z.bnd (Z.xput x35.1.1 x57 (Z.take (Z.minN (Z.len x169) (Z.xlen x57)) x169)) fun(x172:List (List (Int)))=>
 if(Z.XOk x35.1.2.2 x35.2.1)then Z.bind (Z.mapO (fun(e175:MixE (MixE (Int)))=>
 if(Z.XOk x35.1.2.1 e175)then Z.bind (Z.mapO (fun(e178:MixE (Int))=>
 if(Z.XOk x172 e178)then Z.bnd (Z.xget x172 e178) fun(x181:List (Int))=>
 some x181
 else none) (Z.xget x35.1.2.1 e175)) fun(x182:List (List (Int)))=>
 some x182
 else none) (Z.xget x35.1.2.2 x35.2.1)) fun(x183:List (List (List (Int))))=>
 some ((x183,()),0)
 else none
 else none
 else none)
 else some ((([]:List (List (List (Int)))),()),2))
 else some ((([]:List (List (List (Int)))),()),2)))))
 else none
 else none
 else none
 else none
 else none
 else none)
 else none
 else none
 else none
 else some ((([]:List (List (List (Int)))),()),2)))
 else some ((([]:List (List (List (Int)))),()),2))))
def xYf:PFn:={args:=[(.pair (.int .i64) (.pair (.int .i64) (.pair (.int .i64) (.pair (.int .i64) (.pair (.int .i64) (.pair (.int .i64) (.pair (.int .i64) (.pair (.int .i64) (.pair (.int .i64) .unit))))))))),(.pair (.list (.list (.list (.int .u8)))) .unit),(.list (.pair (.int .u8) (.pair (.int .i64) (.pair (.int .i64) (.pair (.list (.int .u8)) .unit))))),(.pair (.int .u8) (.pair (.int .i64) (.pair (.int .i64) (.pair (.int .i64) (.pair (.int .i64) (.pair (.int .u8) .unit))))))],res:=[(.pair (.list (.list (.list (.int .u8)))) .unit),(.int .i64)],fn:=xK4}
def uWh:List LSpec×List Nat:=([],[5])
def uWi:List LSpec×List Nat:=([{id:=3300,known:=true,toks:=[(9000000,(.int .u8)),(9000000,(.mix 900000001 (.int .u8))),(7005000,(.mix 900000001 (.mix 900000002 (.int .u8))))],items:=[.slot 18 (.val (.int .i64)), .cells 1000004 [.val (.mix 2005000 (.mix 12005000 (.mix 22005000 (.int .u8))))], .rows 2005000 (.mix 12005000 (.mix 22005000 (.int .u8))), .rows 22005000 (.int .u8), .rows 12005000 (.mix 22005000 (.int .u8))],junk:=[19,20,21,22,5,6,23,24,25,26,27,28,29,30,31,32,33,34,35],tails:=[]}],[4000000001])
def uWj:List LSpec×List Nat:=([{id:=3200,known:=true,toks:=[(7,(.pair (.int .u8) (.pair (.int .i64) (.pair (.int .i64) (.pair (.list (.int .u8)) .unit)))))],items:=[.slot 7 (.slt (.pair (.int .u8) (.pair (.int .i64) (.pair (.int .i64) (.pair (.list (.int .u8)) .unit)))) (some 1000007) false), .slot 14 (.val (.int .i64))],junk:=[15,16,17,9,18,19,20,21,22,23,24,25],tails:=[(1000007,7)]}],[])
def spt15:Tab (List LSpec×List Nat):=(.node (.node .leaf none (.node (.node (.node (.node (.node .leaf (some uWh) .leaf) (some uWi) .leaf) none .leaf) none .leaf) none .leaf)) none (.node (.node (.node (.node (.node .leaf (some uWj) .leaf) none .leaf) none .leaf) none .leaf) none .leaf))
def spf15(f:Nat):List LSpec×List Nat:=(spt15.get f).getD ([],[])
theorem wKw:zXe Try.prog cfg 15 xYf:=fnDr spf15 [] (l:=[(26,yJv),(25,xQm),(17,yQw),(39,zJc)]) (lo:=[(39,yZ1)]) (lr:=[(33,zJ2)]) zX9 zWb (.cons xZ9 (.cons xXx (.cons yJ9 (.cons zYd .nil)))) (.cons xW8.1 .nil) (.cons zY2 .nil) (fun d=>by kernel_rfl)
def zXd(d0:(Int)×((Int)×((Int)×((Int)×((Int)×((Int)×(Unit))))))):Option ((List (Int))×(Int)):=
 Z.bind (yWa ()) fun(x1:(Int)×((Int)×((Int)×((Int)×((Int)×((Int)×((Int)×((Int)×((Int)×(Unit))))))))))=>
 Z.bind (xWd (x1.1,(x1.2.1,(x1.2.2.1,(x1.2.2.2.1,(x1.2.2.2.2.1,(x1.2.2.2.2.2.1,(x1.2.2.2.2.2.2.1,(x1.2.2.2.2.2.2.2.1,(x1.2.2.2.2.2.2.2.2.1,())))))))))) fun(x2:((List (List (List (Int))))×(Unit))×(Int))=>
 Z.bind (yWa ()) fun(x3:(Int)×((Int)×((Int)×((Int)×((Int)×((Int)×((Int)×((Int)×((Int)×(Unit))))))))))=>
 Z.bind (zXa 120) fun(x4:List (Int))=>
 Z.bind (zXa 121) fun(x5:List (Int))=>
 if(Z.Le (Z.addN 0 2) (Z.len (1::(1::([]:List (Int))))))then if(Z.Le (Z.addN 0 2) (Z.len (x4::(x5::([]:List (List (Int)))))))then Z.bind (yKf ((x3.1,(x3.2.1,(x3.2.2.1,(x3.2.2.2.1,(x3.2.2.2.2.1,(x3.2.2.2.2.2.1,(x3.2.2.2.2.2.2.1,(x3.2.2.2.2.2.2.2.1,(x3.2.2.2.2.2.2.2.2.1,()))))))))),((x2.1.1,()),(0,((Z.seg (1::(1::([]:List (Int)))) 0 2),(Z.seg (x4::(x5::([]:List (List (Int))))) 0 2)))))) fun(x10:((List (List (List (Int))))×(Unit))×((List ((Int)×((Int)×((Int)×((List (Int))×(Unit))))))×(Int)))=>
 Z.bind (yWa ()) fun(x11:(Int)×((Int)×((Int)×((Int)×((Int)×((Int)×((Int)×((Int)×((Int)×(Unit))))))))))=>
 Z.bind (xK4 ((x11.1,(x11.2.1,(x11.2.2.1,(x11.2.2.2.1,(x11.2.2.2.2.1,(x11.2.2.2.2.2.1,(x11.2.2.2.2.2.2.1,(x11.2.2.2.2.2.2.2.1,(x11.2.2.2.2.2.2.2.2.1,()))))))))),((x10.1.1,()),(x10.2.1,(d0.1,(d0.2.1,(d0.2.2.1,(d0.2.2.2.1,(d0.2.2.2.2.1,(d0.2.2.2.2.2.1,())))))))))) fun(x12:((List (List (List (Int))))×(Unit))×(Int))=>
 (bif (Z.ine x2.2 0)then some (([]:List (Int)),x12.2)
 else(bif (Z.zQh false true (Z.ine x10.2.2 0))then some (([]:List (Int)),x12.2)
 else(bif (Z.zQh false true (Z.ine x12.2 0))then some (([]:List (Int)),x12.2)
 else(bif (Z.zQh false true (Z.ine (Z.ofN (Z.len x12.1.1)) 1))then some (([]:List (Int)),x12.2)
 else if(Z.Ix 0 (Z.len x12.1.1))then Z.bnd (Z.get x12.1.1 (Z.toN 0) ([]:List (List (Int)))) fun(x15:List (List (Int)))=>
 (bif (Z.zQh false true (Z.ine (Z.ofN (Z.len x15)) 3))then some (([]:List (Int)),x12.2)
 else if(Z.Ix 0 (Z.len x12.1.1))then Z.bnd (Z.get x12.1.1 (Z.toN 0) ([]:List (List (Int)))) fun(x18:List (List (Int)))=>
 if(Z.Ix 0 (Z.len x18))then Z.bnd (Z.get x18 (Z.toN 0) ([]:List (Int))) fun(x21:List (Int))=>
 some (x21,0)
 else none
 else none)
 else none))))
 else none
 else none
def zY6:PFn:={args:=[(.pair (.int .u8) (.pair (.int .i64) (.pair (.int .i64) (.pair (.int .i64) (.pair (.int .i64) (.pair (.int .u8) .unit))))))],res:=[(.list (.int .u8)),(.int .i64)],fn:=zXd}
def sp7_65:List LSpec×List Nat:=([],[5])
def sp7_33:List LSpec×List Nat:=([{id:=3300,known:=true,toks:=[(9000000,(.int .u8)),(9000000,(.mix 900000001 (.int .u8))),(7005000,(.mix 900000001 (.mix 900000002 (.int .u8))))],items:=[.slot 18 (.val (.int .i64)), .cells 1000004 [.val (.mix 2005000 (.mix 12005000 (.mix 22005000 (.int .u8))))], .rows 2005000 (.mix 12005000 (.mix 22005000 (.int .u8))), .rows 22005000 (.int .u8), .rows 12005000 (.mix 22005000 (.int .u8))],junk:=[19,20,21,22,5,6,23,24,25,26,27,28,29,30,31,32,33,34,35],tails:=[]}],[4000000001])
def spt7:Tab (List LSpec×List Nat):=(.node (.node .leaf none (.node (.node (.node (.node (.node .leaf (some sp7_65) .leaf) (some sp7_33) .leaf) none .leaf) none .leaf) none .leaf)) none .leaf)
def spf7(f:Nat):List LSpec×List Nat:=(spt7.get f).getD ([],[])
theorem yXp:zXe Try.prog cfg 7 zY6:=fnD spf7 (l:=[(28,xQj),(25,xQm),(8,zJ3),(29,xQl),(15,xYf)]) zX9 zWb (.cons xYa (.cons xXx (.cons zY4 (.cons xYc (.cons wKw .nil))))) (fun d=>by kernel_rfl)
def yW4(d0:(List (Int))×(List (Int))):Option (Bool):=
 Z.bnd (Z.str d0.1) fun(x1:List (UInt8))=>
 Z.bnd (Z.str d0.2) fun(x2:List (UInt8))=>
 some (Z.seq x1 x2)
def yJt:PFn:={args:=[(.list (.int .u8)),(.list (.int .u8))],res:=[.bool],fn:=yW4}
def uQ8:List LSpec×List Nat:=([],[5])
def uQ9:List LSpec×List Nat:=([{id:=3300,known:=true,toks:=[(9000000,(.int .u8)),(9000000,(.mix 900000001 (.int .u8))),(7005000,(.mix 900000001 (.mix 900000002 (.int .u8))))],items:=[.slot 18 (.val (.int .i64)), .cells 1000004 [.val (.mix 2005000 (.mix 12005000 (.mix 22005000 (.int .u8))))], .rows 2005000 (.mix 12005000 (.mix 22005000 (.int .u8))), .rows 22005000 (.int .u8), .rows 12005000 (.mix 22005000 (.int .u8))],junk:=[19,20,21,22,5,6,23,24,25,26,27,28,29,30,31,32,33,34,35],tails:=[]}],[4000000001])
def spt24:Tab (List LSpec×List Nat):=(.node (.node .leaf none (.node (.node (.node (.node (.node .leaf (some uQ8) .leaf) (some uQ9) .leaf) none .leaf) none .leaf) none .leaf)) none .leaf)
def spf24(f:Nat):List LSpec×List Nat:=(spt24.get f).getD ([],[])
theorem xZ7:zXe Try.prog cfg 24 yJt:=fnD spf24 (l:=[]) zX9 zWb .nil (fun d=>by kernel_rfl)
def zQ5(d0:((Int)×((Int)×((Int)×((Int)×((Int)×((Int)×(Unit)))))))×(List (Int))):Option (Bool):=
 Z.bind (zXd (d0.1.1,(d0.1.2.1,(d0.1.2.2.1,(d0.1.2.2.2.1,(d0.1.2.2.2.2.1,(d0.1.2.2.2.2.2.1,()))))))) fun(x1:(List (Int))×(Int))=>
 (bif (Z.ieq x1.2 0)then Z.bind (yW4 (x1.1,d0.2)) fun(x2:Bool)=>
 some (Z.zQh true x2 false)
 else some false)
def zYe:PFn:={args:=[(.pair (.int .u8) (.pair (.int .i64) (.pair (.int .i64) (.pair (.int .i64) (.pair (.int .i64) (.pair (.int .u8) .unit)))))),(.list (.int .u8))],res:=[.bool],fn:=zQ5}
def sp9_65:List LSpec×List Nat:=([],[5])
def sp9_33:List LSpec×List Nat:=([{id:=3300,known:=true,toks:=[(9000000,(.int .u8)),(9000000,(.mix 900000001 (.int .u8))),(7005000,(.mix 900000001 (.mix 900000002 (.int .u8))))],items:=[.slot 18 (.val (.int .i64)), .cells 1000004 [.val (.mix 2005000 (.mix 12005000 (.mix 22005000 (.int .u8))))], .rows 2005000 (.mix 12005000 (.mix 22005000 (.int .u8))), .rows 22005000 (.int .u8), .rows 12005000 (.mix 22005000 (.int .u8))],junk:=[19,20,21,22,5,6,23,24,25,26,27,28,29,30,31,32,33,34,35],tails:=[]}],[4000000001])
def spt9:Tab (List LSpec×List Nat):=(.node (.node .leaf none (.node (.node (.node (.node (.node .leaf (some sp9_65) .leaf) (some sp9_33) .leaf) none .leaf) none .leaf) none .leaf)) none .leaf)
def spf9(f:Nat):List LSpec×List Nat:=(spt9.get f).getD ([],[])
theorem yQu:zXe Try.prog cfg 9 zYe:=fnD spf9 (l:=[(7,zY6),(24,yJt)]) zX9 zWb (.cons yXp (.cons xZ7 .nil)) (fun d=>by kernel_rfl)
def zWv(d0:Unit):Option (Bool):=
 Z.bind (zXa 120) fun(x1:List (Int))=>
 Z.bind (zQ5 ((3,(0,(1,(0,(0,(0,())))))),x1)) fun(x2:Bool)=>
 (bif x2 then Z.bind (zXa 120) fun(x3:List (Int))=>
 Z.bind (zQ5 ((4,(0,(1,(0,(0,(0,())))))),x3)) fun(x4:Bool)=>
 (bif (Z.zQh true x4 false)then Z.bind (zXa 120) fun(x5:List (Int))=>
 Z.bind (zQ5 ((5,(0,(0,(0,(1,(0,())))))),x5)) fun(x6:Bool)=>
 some (Z.zQh true x6 false)
 else some false)
 else some false)
def yZu:PFn:={args:=[],res:=[.bool],fn:=zWv}
def uWk:List LSpec×List Nat:=([],[5])
def uWl:List LSpec×List Nat:=([{id:=3300,known:=true,toks:=[(9000000,(.int .u8)),(9000000,(.mix 900000001 (.int .u8))),(7005000,(.mix 900000001 (.mix 900000002 (.int .u8))))],items:=[.slot 18 (.val (.int .i64)), .cells 1000004 [.val (.mix 2005000 (.mix 12005000 (.mix 22005000 (.int .u8))))], .rows 2005000 (.mix 12005000 (.mix 22005000 (.int .u8))), .rows 22005000 (.int .u8), .rows 12005000 (.mix 22005000 (.int .u8))],junk:=[19,20,21,22,5,6,23,24,25,26,27,28,29,30,31,32,33,34,35],tails:=[]}],[4000000001])
def spt10:Tab (List LSpec×List Nat):=(.node (.node .leaf none (.node (.node (.node (.node (.node .leaf (some uWk) .leaf) (some uWl) .leaf) none .leaf) none .leaf) none .leaf)) none .leaf)
def spf10(f:Nat):List LSpec×List Nat:=(spt10.get f).getD ([],[])
theorem xW3:zXe Try.prog cfg 10 yZu:=fnD spf10 (l:=[(8,zJ3),(9,zYe)]) zX9 zWb (.cons zY4 (.cons yQu .nil)) (fun d=>by kernel_rfl)
def zZ8(d0:Unit):Option (Bool):=
 Z.bind (zXd (3,(0,(1,(0,(2,(0,()))))))) fun(x1:(List (Int))×(Int))=>
 Z.bind (zXd (5,(0,(0,(0,(3,(0,()))))))) fun(x2:(List (Int))×(Int))=>
 Z.bind (zXd (1,(0,(1,(0,(0,(0,()))))))) fun(x3:(List (Int))×(Int))=>
 Z.bind (zXd (4,(0,(2,(0,(0,(0,()))))))) fun(x4:(List (Int))×(Int))=>
 Z.bind (zXd (6,(0,(1,(0,(0,(0,()))))))) fun(x5:(List (Int))×(Int))=>
 Z.bind (zXd (2,(0,(1,(4,(0,(0,()))))))) fun(x6:(List (Int))×(Int))=>
 Z.bind (zXa 121) fun(x7:List (Int))=>
 if(Z.EqN (Z.len x7) 0)then if(Z.Ix 80 (Z.len x7))then Z.bnd (Z.get x7 (Z.toN 80) 0) fun(x12:Int)=>
 Z.bnd (Z.bxor .u8 x12 3) fun(x13:Int)=>
 if(Z.Ix 80 (Z.len x7))then Z.bnd (Z.get x7 (Z.toN 80) 0) fun(x16:Int)=>
 none
 else none
 else none
 else if(Z.In 80 (Z.len x7))then if(Z.Lt (Z.addN 0 (Z.toN 80)) (Z.len x7))then Z.bnd (Z.get x7 (Z.addN 0 (Z.toN 80)) 0) fun(x21:Int)=>
 Z.bnd (Z.bxor .u8 x21 3) fun(x22:Int)=>
 if(Z.In 80 (Z.len x7))then if(Z.Lt (Z.addN 0 (Z.toN 80)) (Z.len x7))then Z.bnd (Z.set x7 (Z.addN 0 (Z.toN 80)) x22) fun(x27:List (Int))=>
 Z.bind (zXa 0) fun(x28:List (Int))=>
 if(Z.EqN (Z.len x28) 0)then Z.bind (zQ5 ((5,(0,(0,(0,(0,(0,())))))),x28)) fun(x31:Bool)=>
 (bif x31 then Z.bind (zXa 0) fun(x32:List (Int))=>
 if(Z.EqN (Z.len x32) 0)then Z.bind (zQ5 ((2,(0,(1,(3,(0,(0,())))))),x32)) fun(x35:Bool)=>
 (bif (Z.zQh true x35 false)then if(Z.Le (Z.addN 0 (Z.len x7)) (Z.len x27))then Z.bind (zQ5 ((1,(0,(1,(0,(80,(3,())))))),(Z.seg x27 0 (Z.len x7)))) fun(x38:Bool)=>
 Z.bind (zWv ()) fun(x39:Bool)=>
 (bif (Z.zQh true x39 false)then(bif (Z.zQh true (Z.ieq x1.2 2) false)then(bif (Z.zQh true (Z.ieq x2.2 2) false)then(bif (Z.zQh true (Z.ieq x3.2 2) false)then(bif (Z.zQh true (Z.ieq x4.2 2) false)then(bif (Z.zQh true (Z.ieq x5.2 2) false)then(bif (Z.zQh true (Z.ieq x6.2 2) false)then some (Z.zQh true (Z.zQh true x38 false) false)
 else some false)
 else some false)
 else some false)
 else some false)
 else some false)
 else some false)
 else some false)
 else none
 else Z.bind (zWv ()) fun(x40:Bool)=>
 (bif (Z.zQh true x40 false)then(bif (Z.zQh true (Z.ieq x1.2 2) false)then(bif (Z.zQh true (Z.ieq x2.2 2) false)then(bif (Z.zQh true (Z.ieq x3.2 2) false)then(bif (Z.zQh true (Z.ieq x4.2 2) false)then(bif (Z.zQh true (Z.ieq x5.2 2) false)then(bif (Z.zQh true (Z.ieq x6.2 2) false)then some (Z.zQh true false false)
 else some false)
 else some false)
 else some false)
 else some false)
 else some false)
 else some false)
 else some false))
 else if(Z.Le (Z.addN 0 (Z.len x32)) (Z.len x32))then Z.bind (zQ5 ((2,(0,(1,(3,(0,(0,())))))),(Z.seg x32 0 (Z.len x32)))) fun(x43:Bool)=>
 (bif (Z.zQh true x43 false)then if(Z.Le (Z.addN 0 (Z.len x7)) (Z.len x27))then Z.bind (zQ5 ((1,(0,(1,(0,(80,(3,())))))),(Z.seg x27 0 (Z.len x7)))) fun(x46:Bool)=>
 Z.bind (zWv ()) fun(x47:Bool)=>
 (bif (Z.zQh true x47 false)then(bif (Z.zQh true (Z.ieq x1.2 2) false)then(bif (Z.zQh true (Z.ieq x2.2 2) false)then(bif (Z.zQh true (Z.ieq x3.2 2) false)then(bif (Z.zQh true (Z.ieq x4.2 2) false)then(bif (Z.zQh true (Z.ieq x5.2 2) false)then(bif (Z.zQh true (Z.ieq x6.2 2) false)then some (Z.zQh true (Z.zQh true x46 false) false)
 else some false)
 else some false)
 else some false)
 else some false)
 else some false)
 else some false)
 else some false)
 else none
 else Z.bind (zWv ()) fun(x48:Bool)=>
 (bif (Z.zQh true x48 false)then(bif (Z.zQh true (Z.ieq x1.2 2) false)then(bif (Z.zQh true (Z.ieq x2.2 2) false)then(bif (Z.zQh true (Z.ieq x3.2 2) false)then(bif (Z.zQh true (Z.ieq x4.2 2) false)then(bif (Z.zQh true (Z.ieq x5.2 2) false)then(bif (Z.zQh true (Z.ieq x6.2 2) false)then some (Z.zQh true false false)
 else some false)
 else some false)
 else some false)
 else some false)
 else some false)
 else some false)
 else some false))
 else none
 else Z.bind (zWv ()) fun(x49:Bool)=>
 (bif (Z.zQh true x49 false)then(bif (Z.zQh true (Z.ieq x1.2 2) false)then(bif (Z.zQh true (Z.ieq x2.2 2) false)then(bif (Z.zQh true (Z.ieq x3.2 2) false)then(bif (Z.zQh true (Z.ieq x4.2 2) false)then(bif (Z.zQh true (Z.ieq x5.2 2) false)then(bif (Z.zQh true (Z.ieq x6.2 2) false)then some (Z.zQh true false false)
 else some false)
 else some false)
 else some false)
 else some false)
 else some false)
 else some false)
 else some false))
 else if(Z.Le (Z.addN 0 (Z.len x28)) (Z.len x28))then Z.bind (zQ5 ((5,(0,(0,(0,(0,(0,())))))),(Z.seg x28 0 (Z.len x28)))) fun(x52:Bool)=>
 (bif x52 then Z.bind (zXa 0) fun(x53:List (Int))=>
 if(Z.EqN (Z.len x53) 0)then Z.bind (zQ5 ((2,(0,(1,(3,(0,(0,())))))),x53)) fun(x56:Bool)=>
 (bif (Z.zQh true x56 false)then if(Z.Le (Z.addN 0 (Z.len x7)) (Z.len x27))then Z.bind (zQ5 ((1,(0,(1,(0,(80,(3,())))))),(Z.seg x27 0 (Z.len x7)))) fun(x59:Bool)=>
 Z.bind (zWv ()) fun(x60:Bool)=>
 (bif (Z.zQh true x60 false)then(bif (Z.zQh true (Z.ieq x1.2 2) false)then(bif (Z.zQh true (Z.ieq x2.2 2) false)then(bif (Z.zQh true (Z.ieq x3.2 2) false)then(bif (Z.zQh true (Z.ieq x4.2 2) false)then(bif (Z.zQh true (Z.ieq x5.2 2) false)then(bif (Z.zQh true (Z.ieq x6.2 2) false)then some (Z.zQh true (Z.zQh true x59 false) false)
 else some false)
 else some false)
 else some false)
 else some false)
 else some false)
 else some false)
 else some false)
 else none
 else Z.bind (zWv ()) fun(x61:Bool)=>
 (bif (Z.zQh true x61 false)then(bif (Z.zQh true (Z.ieq x1.2 2) false)then(bif (Z.zQh true (Z.ieq x2.2 2) false)then(bif (Z.zQh true (Z.ieq x3.2 2) false)then(bif (Z.zQh true (Z.ieq x4.2 2) false)then(bif (Z.zQh true (Z.ieq x5.2 2) false)then(bif (Z.zQh true (Z.ieq x6.2 2) false)then some (Z.zQh true false false)
 else some false)
 else some false)
 else some false)
 else some false)
 else some false)
 else some false)
 else some false))
 else if(Z.Le (Z.addN 0 (Z.len x53)) (Z.len x53))then Z.bind (zQ5 ((2,(0,(1,(3,(0,(0,())))))),(Z.seg x53 0 (Z.len x53)))) fun(x64:Bool)=>
 (bif (Z.zQh true x64 false)then if(Z.Le (Z.addN 0 (Z.len x7)) (Z.len x27))then Z.bind (zQ5 ((1,(0,(1,(0,(80,(3,())))))),(Z.seg x27 0 (Z.len x7)))) fun(x67:Bool)=>
 Z.bind (zWv ()) fun(x68:Bool)=>
 (bif (Z.zQh true x68 false)then(bif (Z.zQh true (Z.ieq x1.2 2) false)then(bif (Z.zQh true (Z.ieq x2.2 2) false)then(bif (Z.zQh true (Z.ieq x3.2 2) false)then(bif (Z.zQh true (Z.ieq x4.2 2) false)then(bif (Z.zQh true (Z.ieq x5.2 2) false)then(bif (Z.zQh true (Z.ieq x6.2 2) false)then some (Z.zQh true (Z.zQh true x67 false) false)
 else some false)
 else some false)
 else some false)
 else some false)
 else some false)
 else some false)
 else some false)
 else none
 else Z.bind (zWv ()) fun(x69:Bool)=>
 (bif (Z.zQh true x69 false)then(bif (Z.zQh true (Z.ieq x1.2 2) false)then(bif (Z.zQh true (Z.ieq x2.2 2) false)then(bif (Z.zQh true (Z.ieq x3.2 2) false)then(bif (Z.zQh true (Z.ieq x4.2 2) false)then(bif (Z.zQh true (Z.ieq x5.2 2) false)then(bif (Z.zQh true (Z.ieq x6.2 2) false)then some (Z.zQh true false false)
 else some false)
 else some false)
 else some false)
 else some false)
 else some false)
 else some false)
 else some false))
 else none
 else Z.bind (zWv ()) fun(x70:Bool)=>
 (bif (Z.zQh true x70 false)then(bif (Z.zQh true (Z.ieq x1.2 2) false)then(bif (Z.zQh true (Z.ieq x2.2 2) false)then(bif (Z.zQh true (Z.ieq x3.2 2) false)then(bif (Z.zQh true (Z.ieq x4.2 2) false)then(bif (Z.zQh true (Z.ieq x5.2 2) false)then(bif (Z.zQh true (Z.ieq x6.2 2) false)then some (Z.zQh true false false)
 else some false)
 else some false)
 else some false)
 else some false)
 else some false)
 else some false)
 else some false))
 else none
 else none
 else none
 else none
 else none
def zZb:PFn:={args:=[],res:=[.bool],fn:=zZ8}
def sp3_65:List LSpec×List Nat:=([],[5])
def sp3_33:List LSpec×List Nat:=([{id:=3300,known:=true,toks:=[(9000000,(.int .u8)),(9000000,(.mix 900000001 (.int .u8))),(7005000,(.mix 900000001 (.mix 900000002 (.int .u8))))],items:=[.slot 18 (.val (.int .i64)), .cells 1000004 [.val (.mix 2005000 (.mix 12005000 (.mix 22005000 (.int .u8))))], .rows 2005000 (.mix 12005000 (.mix 22005000 (.int .u8))), .rows 22005000 (.int .u8), .rows 12005000 (.mix 22005000 (.int .u8))],junk:=[19,20,21,22,5,6,23,24,25,26,27,28,29,30,31,32,33,34,35],tails:=[]}],[4000000001])
def spt3:Tab (List LSpec×List Nat):=(.node (.node .leaf none (.node (.node (.node (.node (.node .leaf (some sp3_65) .leaf) (some sp3_33) .leaf) none .leaf) none .leaf) none .leaf)) none .leaf)
def spf3(f:Nat):List LSpec×List Nat:=(spt3.get f).getD ([],[])
theorem yZq:zXe Try.prog cfg 3 zZb:=fnDa spf3 [] (l:=[(7,zY6),(8,zJ3),(9,zYe),(10,yZu)]) (lo:=[(8,yQ3)]) zX9 zWb (.cons yXp (.cons zY4 (.cons yQu (.cons xW3 .nil)))) (.cons yZ0.1 .nil) (fun d=>by kernel_rfl)
end
end Go.Proofs.Ytghnechjgchajaa
