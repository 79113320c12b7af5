/- The functions of the program, as functions on plain data. -/
import Derived.Test.YtnbmjkbbppcbcaaCfg
import Derived.Test.YtnbmjkbbppcbcaaM6
import Derived.ProofKit
import Derived.Test.YtnbmjkbbppcbcaaConfS
namespace Go.Proofs.Ytnbmjkbbppcbcaa
open Go.Eng
noncomputable section
set_option linter.unusedVariables false
set_option maxRecDepth 100000
def zYo(d0:(List (List (List (Int))))×(Unit)):Option (Bool):=
 Z.loop (fun(s1:(Int)×(Int)) k2=>
 (bif (Z.ilt s1.2 (Z.ofN (Z.len d0.1)))then(bif (Z.zQ3 true (Z.ilt s1.2 10) false)then Z.loop (fun(s3:(Int)×(Int)) k4=>
 if(Z.Ix s1.2 (Z.len d0.1))then Z.bnd (Z.get d0.1 (Z.toN s1.2) ([]:List (List (Int)))) fun(x7:List (List (Int)))=>
 (bif (Z.ilt s3.2 (Z.ofN (Z.len x7)))then(bif (Z.zQ3 true (Z.ilt s3.2 200) false)then if(Z.Ix s1.2 (Z.len d0.1))then Z.bnd (Z.get d0.1 (Z.toN s1.2) ([]:List (List (Int)))) fun(x10:List (List (Int)))=>
 if(Z.Ix s3.2 (Z.len x10))then Z.bnd (Z.get x10 (Z.toN s3.2) ([]:List (Int))) fun(x13:List (Int))=>
 Z.bnd (Z.wrap .i64 (Z.add s3.1 (Z.imax false (Z.ofN (Z.len x13)) 100000))) fun(x14:Int)=>
 Z.bnd (Z.wrap .i64 (Z.add s3.2 1)) fun(x15:Int)=>
 k4 (x14,x15)
 else none
 else none
 else if(Z.Ix s1.2 (Z.len d0.1))then Z.bnd (Z.get d0.1 (Z.toN s1.2) ([]:List (List (Int)))) fun(x18:List (List (Int)))=>
 (bif (Z.igt (Z.ofN (Z.len x18)) 150)then some true
 else Z.bnd (Z.wrap .i64 (Z.add s1.2 1)) fun(x19:Int)=>
 k2 (s3.1,x19))
 else none)
 else if(Z.Ix s1.2 (Z.len d0.1))then Z.bnd (Z.get d0.1 (Z.toN s1.2) ([]:List (List (Int)))) fun(x22:List (List (Int)))=>
 (bif (Z.igt (Z.ofN (Z.len x22)) 150)then some true
 else Z.bnd (Z.wrap .i64 (Z.add s1.2 1)) fun(x23:Int)=>
 k2 (s3.1,x23))
 else none)
 else none) (s1.1,0)
 else(bif (Z.igt (Z.ofN (Z.len d0.1)) 6)then some true
 else some (Z.zQ3 false true (Z.igt s1.1 40000))))
 else(bif (Z.igt (Z.ofN (Z.len d0.1)) 6)then some true
 else some (Z.zQ3 false true (Z.igt s1.1 40000))))) (0,0)
def yZz:PFn:={args:=[(.pair (.list (.list (.list (.int .u8)))) .unit)],res:=[.bool],fn:=zYo}
def uZ1:List LSpec×List Nat:=([{id:=1700,known:=true,toks:=[],items:=[.slot 3 (.val (.int .i64)), .slot 4 (.val (.int .i64))],junk:=[6,7,8,9,10,11,12,13,14,5,17,18,19,20,21,22,23,24,25,26,27,28,31,32,33,34,35,36,37,38,39,40,41,42,29,30,43,44,45,46,47,48,49,2,15,16],tails:=[]},{id:=1701,known:=true,toks:=[],items:=[.slot 3 (.val (.int .i64)), .slot 5 (.val (.int .i64))],junk:=[17,18,19,20,21,22,23,24,25,26,27,28,31,32,33,34,35,36,37,38,39,40,41,42,29,30],tails:=[]}],[])
def uZz:List LSpec×List Nat:=([{id:=4800,known:=false,toks:=[],items:=[],junk:=[],tails:=[]}],[9000000008])
def uZx:List LSpec×List Nat:=([],[5])
def uZ0:List LSpec×List Nat:=([{id:=2800,known:=true,toks:=[(9000000,(.int .u8)),(9000000,(.mix 900000001 (.int .u8))),(7005000,(.mix 900000001 (.mix 900000002 (.int .u8))))],items:=[.slot 18 (.val (.int .i64)), .cells 1000004 [.val (.mix 2005000 (.mix 12005000 (.mix 22005000 (.int .u8))))], .rows 2005000 (.mix 12005000 (.mix 22005000 (.int .u8))), .rows 22005000 (.int .u8), .rows 12005000 (.mix 22005000 (.int .u8))],junk:=[19,20,21,22,5,6,23,24,25,26,27,28,29,30,31,32,33,34,35],tails:=[]}],[4000000001])
def uZy:List LSpec×List Nat:=([{id:=4900,known:=false,toks:=[],items:=[],junk:=[],tails:=[]}],[6000000006,9000000007])
def spt17:Tab (List LSpec×List Nat):=(.node (.node .leaf none (.node (.node (.node .leaf (some uZ1) (.node .leaf (some uZy) .leaf)) none .leaf) none .leaf)) none (.node (.node (.node (.node .leaf none (.node .leaf (some uZz) .leaf)) none .leaf) none (.node (.node (.node (.node .leaf (some uZx) .leaf) none .leaf) none .leaf) none (.node .leaf (some uZ0) .leaf))) none .leaf))
def spf17(f:Nat):List LSpec×List Nat:=(spt17.get f).getD ([],[])
theorem xXb:zW3 Try.prog cfg 17 yZz:=fnD spf17 (l:=[]) zXj zQ2 .nil (fun d=>by kernel_rfl)
def zYz(d0:List (List (Int))):Option (Bool):=
 Z.loop (fun(s1:Int) k2=>
 (bif (Z.ilt s1 (Z.ofN (Z.len d0)))then(bif (Z.zQ3 true (Z.ilt s1 20) false)then if(Z.Ix s1 (Z.len d0))then Z.bnd (Z.get d0 (Z.toN s1) ([]:List (Int))) fun(x5:List (Int))=>
 (bif (Z.igt (Z.ofN (Z.len x5)) 1000)then some true
 else Z.bnd (Z.wrap .i64 (Z.add s1 1)) fun(x6:Int)=>
 k2 x6)
 else none
 else some (Z.igt (Z.ofN (Z.len d0)) 20))
 else some (Z.igt (Z.ofN (Z.len d0)) 20))) 0
def yZ0:PFn:={args:=[(.list (.list (.int .u8)))],res:=[.bool],fn:=zYz}
def uZw:List LSpec×List Nat:=([{id:=1800,known:=true,toks:=[],items:=[.slot 3 (.val (.int .i64))],junk:=[4,5,6,7,8,9,10,11,14,15,16,17,18,19,2,12,13],tails:=[]}],[])
def uZu:List LSpec×List Nat:=([{id:=4800,known:=false,toks:=[],items:=[],junk:=[],tails:=[]}],[9000000008])
def uZs:List LSpec×List Nat:=([],[5])
def uZv:List LSpec×List Nat:=([{id:=2800,known:=true,toks:=[(9000000,(.int .u8)),(9000000,(.mix 900000001 (.int .u8))),(7005000,(.mix 900000001 (.mix 900000002 (.int .u8))))],items:=[.slot 18 (.val (.int .i64)), .cells 1000004 [.val (.mix 2005000 (.mix 12005000 (.mix 22005000 (.int .u8))))], .rows 2005000 (.mix 12005000 (.mix 22005000 (.int .u8))), .rows 22005000 (.int .u8), .rows 12005000 (.mix 22005000 (.int .u8))],junk:=[19,20,21,22,5,6,23,24,25,26,27,28,29,30,31,32,33,34,35],tails:=[]}],[4000000001])
def uZt:List LSpec×List Nat:=([{id:=4900,known:=false,toks:=[],items:=[],junk:=[],tails:=[]}],[6000000006,9000000007])
def spt18:Tab (List LSpec×List Nat):=(.node (.node .leaf none (.node (.node (.node .leaf none (.node .leaf (some uZt) .leaf)) none .leaf) none .leaf)) none (.node (.node (.node (.node .leaf none (.node .leaf (some uZu) .leaf)) none .leaf) none (.node (.node (.node (.node .leaf (some uZs) .leaf) none .leaf) none .leaf) none (.node .leaf (some uZv) .leaf))) none (.node (.node (.node .leaf (some uZw) .leaf) none .leaf) none .leaf)))
def spf18(f:Nat):List LSpec×List Nat:=(spt18.get f).getD ([],[])
theorem xXc:zW3 Try.prog cfg 18 yZ0:=fnD spf18 (l:=[]) zXj zQ2 .nil (fun d=>by kernel_rfl)
def zXs(d0:List (List (Int))):Option (List (List (Int))):=
 Z.loop (fun(s1:(MixE (List (Int)))×((List (List (List (Int))))×(Int))) k2=>
 (bif (Z.ilt s1.2.2 (Z.ofN (Z.len d0)))then if(Z.Ix s1.2.2 (Z.len d0))then Z.bnd (Z.get d0 (Z.toN s1.2.2) ([]:List (Int))) fun(x5:List (Int))=>
 if(Z.Le (Z.addN 0 0) (Z.len ([]:List (Int))))then if(Z.Big (Z.len (Z.seg ([]:List (Int)) 0 0)) (Z.len x5) 1)then none
 else Z.bnd (Z.app (Z.seg ([]:List (Int)) 0 0) x5) fun(x10:List (Int))=>
 if(Z.Le (Z.addN 0 1) (Z.len (x10::([]:List (List (Int))))))then if(Z.XGr s1.2.1 s1.1)then if(Z.EqN (Z.len (Z.seg (x10::([]:List (List (Int)))) 0 1)) 0)then Z.bnd (Z.wrap .i64 (Z.add s1.2.2 1)) fun(x17:Int)=>
 k2 (s1.1,(s1.2.1,x17))
 else if(Z.Big (Z.xlen s1.1) (Z.len (Z.seg (x10::([]:List (List (Int)))) 0 1)) 24)then none
 else Z.bnd (Z.xapp s1.2.1 s1.1 (Z.seg (x10::([]:List (List (Int)))) 0 1)) fun(x20:List (List (List (Int))))=>
 Z.bnd (Z.wJa s1.1 (Z.len (Z.seg (x10::([]:List (List (Int)))) 0 1))) fun(x21:MixE (List (Int)))=>
 Z.bnd (Z.wrap .i64 (Z.add s1.2.2 1)) fun(x22:Int)=>
 k2 (x21,(x20,x22))
 else none
 else none
 else none
 else none
 else if(Z.XW s1.2.1 s1.1)then Z.bnd (Z.xget s1.2.1 s1.1) fun(x25:List (List (Int)))=>
 some x25
 else none)) ((Z.xnew (α:=List (Int)) 0 0),((([]:List (List (Int)))::([]:List (List (List (Int))))),0))
def zZx:PFn:={args:=[(.list (.list (.int .u8)))],res:=[(.list (.list (.int .u8)))],fn:=zXs}
def uZm:List LSpec×List Nat:=([{id:=2000,known:=true,toks:=[(8000003,(.list (.int .u8)))],items:=[.slot 3 (.val (.mix 1000003 (.list (.int .u8)))), .rows 1000003 (.list (.int .u8)), .slot 4 (.val (.int .i64))],junk:=[5,6,7,8,11,12,13,14,15,16,17,18,19,9,10],tails:=[]}],[])
def uZk:List LSpec×List Nat:=([{id:=4800,known:=false,toks:=[],items:=[],junk:=[],tails:=[]}],[9000000008])
def uZi:List LSpec×List Nat:=([],[5])
def uZl:List LSpec×List Nat:=([{id:=2800,known:=true,toks:=[(9000000,(.int .u8)),(9000000,(.mix 900000001 (.int .u8))),(7005000,(.mix 900000001 (.mix 900000002 (.int .u8))))],items:=[.slot 18 (.val (.int .i64)), .cells 1000004 [.val (.mix 2005000 (.mix 12005000 (.mix 22005000 (.int .u8))))], .rows 2005000 (.mix 12005000 (.mix 22005000 (.int .u8))), .rows 22005000 (.int .u8), .rows 12005000 (.mix 22005000 (.int .u8))],junk:=[19,20,21,22,5,6,23,24,25,26,27,28,29,30,31,32,33,34,35],tails:=[]}],[4000000001])
def uZj:List LSpec×List Nat:=([{id:=4900,known:=false,toks:=[],items:=[],junk:=[],tails:=[]}],[6000000006,9000000007])
def spt20:Tab (List LSpec×List Nat):=(.node (.node .leaf none (.node (.node (.node .leaf none (.node .leaf (some uZj) .leaf)) none .leaf) none .leaf)) none (.node (.node (.node (.node .leaf none (.node .leaf (some uZk) .leaf)) none .leaf) none (.node (.node (.node (.node .leaf (some uZi) .leaf) none .leaf) (some uZm) .leaf) none (.node .leaf (some uZl) .leaf))) none .leaf))
def spf20(f:Nat):List LSpec×List Nat:=(spt20.get f).getD ([],[])
def zJb:OFn:={args:=[(.list (.list (.int .u8)))],ores:=[(.own (.list (.int .u8)))],fn:=zXs}
theorem yQh:OwnD Try.prog cfg 20 zJb∧zW3 Try.prog cfg 20 zJb.pfn:=fnO spf20 [] (l:=[]) (lo:=[]) zXj zQ2 .nil .nil (fun d=>by kernel_rfl)
theorem zKp:zW3 Try.prog cfg 20 zZx:=yQh.2
def yWs(d0:(List (List (List (Int))))×(Unit)):Option ((List (List (List (Int))))×(Unit)):=
 if(Z.EqN 0 (Z.len ([]:List (List (List (Int))))))then Z.loop (fun(s3:(Int)×(List (List (List (Int))))) k4=>
 (bif (Z.ilt s3.1 (Z.ofN (Z.len d0.1)))then if(Z.Ix s3.1 (Z.len d0.1))then Z.bnd (Z.get d0.1 (Z.toN s3.1) ([]:List (List (Int)))) fun(x7:List (List (Int)))=>
 Z.bind (zXs x7) fun(x8:List (List (Int)))=>
 if(Z.Le (Z.addN 0 1) (Z.len (x8::([]:List (List (List (Int)))))))then if(Z.Big (Z.len s3.2) (Z.len (Z.seg (x8::([]:List (List (List (Int))))) 0 1)) 24)then none
 else if(Z.EqN (Z.len s3.2) (Z.len s3.2))then Z.bnd (Z.app s3.2 (Z.seg (x8::([]:List (List (List (Int))))) 0 1)) fun(x15:List (List (List (Int))))=>
 Z.bnd (Z.wrap .i64 (Z.add s3.1 1)) fun(x16:Int)=>
 if(Z.EqN (Z.len x15) (Z.len x15))then k4 (x16,x15)
 else none
 else none
 else none
 else none
 else some (s3.2,()))) (0,([]:List (List (List (Int)))))
 else none
def yJ0:PFn:={args:=[(.pair (.list (.list (.list (.int .u8)))) .unit)],res:=[(.pair (.list (.list (.list (.int .u8)))) .unit)],fn:=yWs}
def uZr:List LSpec×List Nat:=([{id:=1900,known:=true,toks:=[(2002000,(.list (.list (.int .u8))))],items:=[.slot 4 (.val (.int .i64)), .cells 1000003 [.slt (.list (.list (.int .u8))) (some 2002000) false]],junk:=[5,6,7,8,9,12,13,14,15,16,17,18,19,20,21,22,10,11],tails:=[(2002000,2002000)]}],[])
def uZp:List LSpec×List Nat:=([{id:=4800,known:=false,toks:=[],items:=[],junk:=[],tails:=[]}],[9000000008])
def uZn:List LSpec×List Nat:=([],[5])
def uZq:List LSpec×List Nat:=([{id:=2800,known:=true,toks:=[(9000000,(.int .u8)),(9000000,(.mix 900000001 (.int .u8))),(7005000,(.mix 900000001 (.mix 900000002 (.int .u8))))],items:=[.slot 18 (.val (.int .i64)), .cells 1000004 [.val (.mix 2005000 (.mix 12005000 (.mix 22005000 (.int .u8))))], .rows 2005000 (.mix 12005000 (.mix 22005000 (.int .u8))), .rows 22005000 (.int .u8), .rows 12005000 (.mix 22005000 (.int .u8))],junk:=[19,20,21,22,5,6,23,24,25,26,27,28,29,30,31,32,33,34,35],tails:=[]}],[4000000001])
def uZo:List LSpec×List Nat:=([{id:=4900,known:=false,toks:=[],items:=[],junk:=[],tails:=[]}],[6000000006,9000000007])
def spt19:Tab (List LSpec×List Nat):=(.node (.node (.node .leaf none (.node (.node .leaf (some uZr) .leaf) none .leaf)) none (.node (.node (.node .leaf none (.node .leaf (some uZo) .leaf)) none .leaf) none .leaf)) none (.node (.node (.node (.node .leaf none (.node .leaf (some uZp) .leaf)) none .leaf) none (.node (.node (.node (.node .leaf (some uZn) .leaf) none .leaf) none .leaf) none (.node .leaf (some uZq) .leaf))) none .leaf))
def spf19(f:Nat):List LSpec×List Nat:=(spt19.get f).getD ([],[])
theorem xKl:zW3 Try.prog cfg 19 yJ0:=fnD spf19 (l:=[(20,zZx)]) zXj zQ2 (.cons zKp .nil) (fun d=>by kernel_rfl)
def zJp(d0:(List (List (List (Int))))×(Unit)):Option (((List (List (List (Int))))×(List (List (MixE (List (Int))))))×((MixE (MixE (List (Int))))×(Unit))):=
 Z.loop (fun(s1:(Int)×((List (List (MixE (List (Int)))))×((List (List (List (Int))))×(MixE (MixE (List (Int))))))) k2=>
 (bif (Z.ilt s1.1 (Z.ofN (Z.len d0.1)))then if(Z.Ix s1.1 (Z.len d0.1))then Z.bnd (Z.get d0.1 (Z.toN s1.1) ([]:List (List (Int)))) fun(x5:List (List (Int)))=>
 Z.bind (zXs x5) fun(x6:List (List (Int)))=>
 Z.bnd (Z.app s1.2.2.1 (x6::([]:List (List (List (Int)))))) fun(x7:List (List (List (Int))))=>
 if(Z.XGr s1.2.1 s1.2.2.2)then if(Z.EqN (Z.len ((Z.xrow (Z.len s1.2.2.1) x6)::([]:List (MixE (List (Int)))))) 0)then Z.bnd (Z.wrap .i64 (Z.add s1.1 1)) fun(x12:Int)=>
 k2 (x12,(s1.2.1,(x7,s1.2.2.2)))
 else if(Z.Big (Z.xlen s1.2.2.2) (Z.len ((Z.xrow (Z.len s1.2.2.1) x6)::([]:List (MixE (List (Int)))))) 24)then none
 else Z.bnd (Z.xapp s1.2.1 s1.2.2.2 ((Z.xrow (Z.len s1.2.2.1) x6)::([]:List (MixE (List (Int)))))) fun(x15:List (List (MixE (List (Int)))))=>
 Z.bnd (Z.wJa s1.2.2.2 (Z.len ((Z.xrow (Z.len s1.2.2.1) x6)::([]:List (MixE (List (Int))))))) fun(x16:MixE (MixE (List (Int))))=>
 Z.bnd (Z.wrap .i64 (Z.add s1.1 1)) fun(x17:Int)=>
 k2 (x17,(x15,(x7,x16)))
 else none
 else none
 else some ((s1.2.2.1,s1.2.1),(s1.2.2.2,())))) (0,((([]:List (MixE (List (Int))))::([]:List (List (MixE (List (Int)))))),(([]:List (List (List (Int)))),(Z.xnew (α:=MixE (List (Int))) 0 0))))
def wWo:List LSpec×List Nat:=([{id:=1900,known:=true,toks:=[(9000000,(.list (.int .u8))),(7002000,(.mix 900000001 (.list (.int .u8))))],items:=[.slot 4 (.val (.int .i64)), .rows 2002000 (.mix 12002000 (.list (.int .u8))), .rows 12002000 (.list (.int .u8)), .cells 1000003 [.val (.mix 2002000 (.mix 12002000 (.list (.int .u8))))]],junk:=[5,6,7,8,9,12,13,14,15,16,17,18,19,20,21,22,10,11],tails:=[]}],[])
def wWl:List LSpec×List Nat:=([],[8000000001])
def wWk:List LSpec×List Nat:=([{id:=4800,known:=false,toks:=[],items:=[],junk:=[],tails:=[]}],[9000000008])
def wWi:List LSpec×List Nat:=([],[5])
def wWm:List LSpec×List Nat:=([{id:=3700,known:=false,toks:=[],items:=[],junk:=[],tails:=[]}],[888888])
def wWn:List LSpec×List Nat:=([{id:=2800,known:=true,toks:=[(9000000,(.int .u8)),(9000000,(.mix 900000001 (.int .u8))),(7005000,(.mix 900000001 (.mix 900000002 (.int .u8))))],items:=[.slot 18 (.val (.int .i64)), .cells 1000004 [.val (.mix 2005000 (.mix 12005000 (.mix 22005000 (.int .u8))))], .rows 2005000 (.mix 12005000 (.mix 22005000 (.int .u8))), .rows 22005000 (.int .u8), .rows 12005000 (.mix 22005000 (.int .u8))],junk:=[19,20,21,22,5,6,23,24,25,26,27,28,29,30,31,32,33,34,35],tails:=[]}],[4000000001])
def wWj:List LSpec×List Nat:=([{id:=4900,known:=false,toks:=[],items:=[],junk:=[],tails:=[]}],[6000000006,9000000007])
def vQk:Tab (List LSpec×List Nat):=(.node (.node (.node (.node .leaf none (.node (.node .leaf (some wWl) .leaf) none .leaf)) none (.node (.node .leaf (some wWo) .leaf) none .leaf)) none (.node (.node (.node .leaf none (.node .leaf (some wWj) .leaf)) none .leaf) none (.node (.node (.node .leaf (some wWm) .leaf) none .leaf) none .leaf))) none (.node (.node (.node (.node .leaf none (.node .leaf (some wWk) .leaf)) none .leaf) none (.node (.node (.node (.node .leaf (some wWi) .leaf) none .leaf) none .leaf) none (.node .leaf (some wWn) .leaf))) none .leaf))
def vQo(f:Nat):List LSpec×List Nat:=(vQk.get f).getD ([],[])
def yXi:RFn:={args:=[(.pair (.list (.list (.list (.int .u8)))) .unit)],objs:=[(.list (.int .u8)),(.mix 0 (.list (.int .u8)))],res:=[(.pair (.mix 1 (.mix 0 (.list (.int .u8)))) .unit)],fn:=zJp}
theorem xQk:OwnR Try.prog cfg 19 yXi:=fnR vQo [] (l:=[(20,zZx)]) (lo:=[(20,zJb)]) (lr:=[]) zXj zQ2 (.cons zKp .nil) (.cons yQh.1 .nil) .nil (fun d=>by kernel_rfl)
def zXl(d0:(Int)×((Int)×((Int)×(Unit)))):Option (Bool):=
 (bif (Z.ile d0.2.1 d0.1)then some (Z.zQ3 true (Z.ile d0.1 d0.2.2.1) false)
 else some false)
def zZ5:PFn:={args:=[(.pair (.int .i64) (.pair (.int .i64) (.pair (.int .i64) .unit)))],res:=[.bool],fn:=zXl}
def uQc:List LSpec×List Nat:=([{id:=4800,known:=false,toks:=[],items:=[],junk:=[],tails:=[]}],[9000000008])
def uQa:List LSpec×List Nat:=([],[5])
def uQd:List LSpec×List Nat:=([{id:=2800,known:=true,toks:=[(9000000,(.int .u8)),(9000000,(.mix 900000001 (.int .u8))),(7005000,(.mix 900000001 (.mix 900000002 (.int .u8))))],items:=[.slot 18 (.val (.int .i64)), .cells 1000004 [.val (.mix 2005000 (.mix 12005000 (.mix 22005000 (.int .u8))))], .rows 2005000 (.mix 12005000 (.mix 22005000 (.int .u8))), .rows 22005000 (.int .u8), .rows 12005000 (.mix 22005000 (.int .u8))],junk:=[19,20,21,22,5,6,23,24,25,26,27,28,29,30,31,32,33,34,35],tails:=[]}],[4000000001])
def uQb:List LSpec×List Nat:=([{id:=4900,known:=false,toks:=[],items:=[],junk:=[],tails:=[]}],[6000000006,9000000007])
def spt77:Tab (List LSpec×List Nat):=(.node (.node .leaf none (.node (.node (.node .leaf none (.node .leaf (some uQb) .leaf)) none .leaf) none .leaf)) none (.node (.node (.node (.node .leaf none (.node .leaf (some uQc) .leaf)) none .leaf) none (.node (.node (.node (.node .leaf (some uQa) .leaf) none .leaf) none .leaf) none (.node .leaf (some uQd) .leaf))) none .leaf))
def spf77(f:Nat):List LSpec×List Nat:=(spt77.get f).getD ([],[])
theorem zYs:zW3 Try.prog cfg 77 zZ5:=fnD spf77 (l:=[]) zXj zQ2 .nil (fun d=>by kernel_rfl)
def yWb(d0:Int):Option (Int):=
 (bif (Z.ilt d0 1)then some 2
 else(bif (Z.zQ3 false true (Z.igt d0 6))then some 2
 else some 0))
def yX0:PFn:={args:=[(.int .i64)],res:=[(.int .i64)],fn:=yWb}
def uQp:List LSpec×List Nat:=([{id:=4800,known:=false,toks:=[],items:=[],junk:=[],tails:=[]}],[9000000008])
def uQn:List LSpec×List Nat:=([],[5])
def uQq:List LSpec×List Nat:=([{id:=2800,known:=true,toks:=[(9000000,(.int .u8)),(9000000,(.mix 900000001 (.int .u8))),(7005000,(.mix 900000001 (.mix 900000002 (.int .u8))))],items:=[.slot 18 (.val (.int .i64)), .cells 1000004 [.val (.mix 2005000 (.mix 12005000 (.mix 22005000 (.int .u8))))], .rows 2005000 (.mix 12005000 (.mix 22005000 (.int .u8))), .rows 22005000 (.int .u8), .rows 12005000 (.mix 22005000 (.int .u8))],junk:=[19,20,21,22,5,6,23,24,25,26,27,28,29,30,31,32,33,34,35],tails:=[]}],[4000000001])
def uQo:List LSpec×List Nat:=([{id:=4900,known:=false,toks:=[],items:=[],junk:=[],tails:=[]}],[6000000006,9000000007])
def spt71:Tab (List LSpec×List Nat):=(.node (.node .leaf none (.node (.node (.node .leaf none (.node .leaf (some uQo) .leaf)) none .leaf) none .leaf)) none (.node (.node (.node (.node .leaf none (.node .leaf (some uQp) .leaf)) none .leaf) none (.node (.node (.node (.node .leaf (some uQn) .leaf) none .leaf) none .leaf) none (.node .leaf (some uQq) .leaf))) none .leaf))
def spf71(f:Nat):List LSpec×List Nat:=(spt71.get f).getD ([],[])
theorem yJy:zW3 Try.prog cfg 71 yX0:=fnD spf71 (l:=[]) zXj zQ2 .nil (fun d=>by kernel_rfl)
def yW1(d0:Int):Option ((Int)×(Int)):=
 Z.bind (yWb d0) fun(x1:Int)=>
 (bif (Z.ine x1 0)then some (0,x1)
 else if(Z.Neg d0)then none
 else Z.bnd (Z.shl .i64 1 d0) fun(x4:Int)=>
 some (x4,0))
def yJ4:PFn:={args:=[(.int .i64)],res:=[(.int .i64),(.int .i64)],fn:=yW1}
def vYv:List LSpec×List Nat:=([{id:=4800,known:=false,toks:=[],items:=[],junk:=[],tails:=[]}],[9000000008])
def vYt:List LSpec×List Nat:=([],[5])
def vYw:List LSpec×List Nat:=([{id:=2800,known:=true,toks:=[(9000000,(.int .u8)),(9000000,(.mix 900000001 (.int .u8))),(7005000,(.mix 900000001 (.mix 900000002 (.int .u8))))],items:=[.slot 18 (.val (.int .i64)), .cells 1000004 [.val (.mix 2005000 (.mix 12005000 (.mix 22005000 (.int .u8))))], .rows 2005000 (.mix 12005000 (.mix 22005000 (.int .u8))), .rows 22005000 (.int .u8), .rows 12005000 (.mix 22005000 (.int .u8))],junk:=[19,20,21,22,5,6,23,24,25,26,27,28,29,30,31,32,33,34,35],tails:=[]}],[4000000001])
def vYu:List LSpec×List Nat:=([{id:=4900,known:=false,toks:=[],items:=[],junk:=[],tails:=[]}],[6000000006,9000000007])
def spt82:Tab (List LSpec×List Nat):=(.node (.node .leaf none (.node (.node (.node .leaf none (.node .leaf (some vYu) .leaf)) none .leaf) none .leaf)) none (.node (.node (.node (.node .leaf none (.node .leaf (some vYv) .leaf)) none .leaf) none (.node (.node (.node (.node .leaf (some vYt) .leaf) none .leaf) none .leaf) none (.node .leaf (some vYw) .leaf))) none .leaf))
def spf82(f:Nat):List LSpec×List Nat:=(spt82.get f).getD ([],[])
theorem xKp:zW3 Try.prog cfg 82 yJ4:=fnD spf82 (l:=[(71,yX0)]) zXj zQ2 (.cons yJy .nil) (fun d=>by kernel_rfl)
def yKk(d0:Int):Option (Int):=
 Z.loop (fun(s1:Int) k2=>
 Z.bind (yW1 s1) fun(x3:(Int)×(Int))=>
 (bif (Z.ine x3.2 0)then some s1
 else(bif (Z.zQ3 false true (Z.ige x3.1 d0))then some s1
 else Z.bnd (Z.wrap .i64 (Z.add s1 1)) fun(x4:Int)=>
 k2 x4))) 1
def xQs:PFn:={args:=[(.int .i64)],res:=[(.int .i64)],fn:=yKk}
def vYx:List LSpec×List Nat:=([{id:=8100,known:=true,toks:=[],items:=[.slot 3 (.val (.int .i64))],junk:=[9,10,8,11,12,4,5,13,14,15,16,17,18,19,20,2,6,7],tails:=[]}],[])
def vY0:List LSpec×List Nat:=([{id:=4800,known:=false,toks:=[],items:=[],junk:=[],tails:=[]}],[9000000008])
def vYy:List LSpec×List Nat:=([],[5])
def vY1:List LSpec×List Nat:=([{id:=2800,known:=true,toks:=[(9000000,(.int .u8)),(9000000,(.mix 900000001 (.int .u8))),(7005000,(.mix 900000001 (.mix 900000002 (.int .u8))))],items:=[.slot 18 (.val (.int .i64)), .cells 1000004 [.val (.mix 2005000 (.mix 12005000 (.mix 22005000 (.int .u8))))], .rows 2005000 (.mix 12005000 (.mix 22005000 (.int .u8))), .rows 22005000 (.int .u8), .rows 12005000 (.mix 22005000 (.int .u8))],junk:=[19,20,21,22,5,6,23,24,25,26,27,28,29,30,31,32,33,34,35],tails:=[]}],[4000000001])
def vYz:List LSpec×List Nat:=([{id:=4900,known:=false,toks:=[],items:=[],junk:=[],tails:=[]}],[6000000006,9000000007])
def spt81:Tab (List LSpec×List Nat):=(.node (.node .leaf none (.node (.node (.node .leaf none (.node (.node .leaf (some vYx) .leaf) (some vYz) .leaf)) none .leaf) none .leaf)) none (.node (.node (.node (.node .leaf none (.node .leaf (some vY0) .leaf)) none .leaf) none (.node (.node (.node (.node .leaf (some vYy) .leaf) none .leaf) none .leaf) none (.node .leaf (some vY1) .leaf))) none .leaf))
def spf81(f:Nat):List LSpec×List Nat:=(spt81.get f).getD ([],[])
theorem xYr:zW3 Try.prog cfg 81 xQs:=fnD spf81 (l:=[(82,yJ4)]) zXj zQ2 (.cons xKp .nil) (fun d=>by kernel_rfl)
def zZf(d0:((Int)×((Int)×((Int)×((Int)×((Int)×((Int)×((Int)×((Int)×((Int)×(Unit))))))))))×((Int)×(Int))):Option ((Int)×((Int)×((Int)×((Int)×(Unit))))):=
 Z.bnd (Z.wrap .i64 (Z.add 8 d0.2.2)) fun(x1:Int)=>
 Z.bnd (Z.wrap .i64 (Z.mul d0.1.2.2.2.1 x1)) fun(x2:Int)=>
 Z.bnd (Z.wrap .i64 (Z.add x2 64)) fun(x3:Int)=>
 Z.bind (yKk d0.2.1) fun(x4:Int)=>
 some (d0.2.1,(d0.2.2,(x4,(x3,()))))
def yQx:PFn:={args:=[(.pair (.int .i64) (.pair (.int .i64) (.pair (.int .i64) (.pair (.int .i64) (.pair (.int .i64) (.pair (.int .i64) (.pair (.int .i64) (.pair (.int .i64) (.pair (.int .i64) .unit))))))))),(.int .i64),(.int .i64)],res:=[(.pair (.int .i64) (.pair (.int .i64) (.pair (.int .i64) (.pair (.int .i64) .unit))))],fn:=zZf}
def vY8:List LSpec×List Nat:=([{id:=4800,known:=false,toks:=[],items:=[],junk:=[],tails:=[]}],[9000000008])
def vY6:List LSpec×List Nat:=([],[5])
def vY9:List LSpec×List Nat:=([{id:=2800,known:=true,toks:=[(9000000,(.int .u8)),(9000000,(.mix 900000001 (.int .u8))),(7005000,(.mix 900000001 (.mix 900000002 (.int .u8))))],items:=[.slot 18 (.val (.int .i64)), .cells 1000004 [.val (.mix 2005000 (.mix 12005000 (.mix 22005000 (.int .u8))))], .rows 2005000 (.mix 12005000 (.mix 22005000 (.int .u8))), .rows 22005000 (.int .u8), .rows 12005000 (.mix 22005000 (.int .u8))],junk:=[19,20,21,22,5,6,23,24,25,26,27,28,29,30,31,32,33,34,35],tails:=[]}],[4000000001])
def vY7:List LSpec×List Nat:=([{id:=4900,known:=false,toks:=[],items:=[],junk:=[],tails:=[]}],[6000000006,9000000007])
def spt79:Tab (List LSpec×List Nat):=(.node (.node .leaf none (.node (.node (.node .leaf none (.node .leaf (some vY7) .leaf)) none .leaf) none .leaf)) none (.node (.node (.node (.node .leaf none (.node .leaf (some vY8) .leaf)) none .leaf) none (.node (.node (.node (.node .leaf (some vY6) .leaf) none .leaf) none .leaf) none (.node .leaf (some vY9) .leaf))) none .leaf))
def spf79(f:Nat):List LSpec×List Nat:=(spt79.get f).getD ([],[])
theorem yZx:zW3 Try.prog cfg 79 yQx:=fnD spf79 (l:=[(81,xQs)]) zXj zQ2 (.cons xYr .nil) (fun d=>by kernel_rfl)
def zY8(d0:((Int)×((Int)×((Int)×((Int)×((Int)×((Int)×((Int)×((Int)×((Int)×(Unit))))))))))×((Int)×((Int)×((Int)×((Int)×(Unit)))))):Option (Bool):=
 some (Z.ile d0.2.1 d0.1.2.2.2.2.2.2.2.2.1)
def zYu:PFn:={args:=[(.pair (.int .i64) (.pair (.int .i64) (.pair (.int .i64) (.pair (.int .i64) (.pair (.int .i64) (.pair (.int .i64) (.pair (.int .i64) (.pair (.int .i64) (.pair (.int .i64) .unit))))))))),(.pair (.int .i64) (.pair (.int .i64) (.pair (.int .i64) (.pair (.int .i64) .unit))))],res:=[.bool],fn:=zY8}
def vY4:List LSpec×List Nat:=([{id:=4800,known:=false,toks:=[],items:=[],junk:=[],tails:=[]}],[9000000008])
def vY2:List LSpec×List Nat:=([],[5])
def vY5:List LSpec×List Nat:=([{id:=2800,known:=true,toks:=[(9000000,(.int .u8)),(9000000,(.mix 900000001 (.int .u8))),(7005000,(.mix 900000001 (.mix 900000002 (.int .u8))))],items:=[.slot 18 (.val (.int .i64)), .cells 1000004 [.val (.mix 2005000 (.mix 12005000 (.mix 22005000 (.int .u8))))], .rows 2005000 (.mix 12005000 (.mix 22005000 (.int .u8))), .rows 22005000 (.int .u8), .rows 12005000 (.mix 22005000 (.int .u8))],junk:=[19,20,21,22,5,6,23,24,25,26,27,28,29,30,31,32,33,34,35],tails:=[]}],[4000000001])
def vY3:List LSpec×List Nat:=([{id:=4900,known:=false,toks:=[],items:=[],junk:=[],tails:=[]}],[6000000006,9000000007])
def spt80:Tab (List LSpec×List Nat):=(.node (.node .leaf none (.node (.node (.node .leaf none (.node .leaf (some vY3) .leaf)) none .leaf) none .leaf)) none (.node (.node (.node (.node .leaf none (.node .leaf (some vY4) .leaf)) none .leaf) none (.node (.node (.node (.node .leaf (some vY2) .leaf) none .leaf) none .leaf) none (.node .leaf (some vY5) .leaf))) none .leaf))
def spf80(f:Nat):List LSpec×List Nat:=(spt80.get f).getD ([],[])
theorem yXk:zW3 Try.prog cfg 80 zYu:=fnD spf80 (l:=[]) zXj zQ2 .nil (fun d=>by kernel_rfl)
def zYf(d0:(Int)×((Int)×((Int)×((Int)×((Int)×((Int)×((Int)×((Int)×((Int)×(Unit)))))))))):Option (Int):=
 Z.bind (yZa (d0.1,(d0.2.1,(d0.2.2.1,(d0.2.2.2.1,(d0.2.2.2.2.1,(d0.2.2.2.2.2.1,(d0.2.2.2.2.2.2.1,(d0.2.2.2.2.2.2.2.1,(d0.2.2.2.2.2.2.2.2.1,())))))))))) fun(x1:List ((Int)×((Int)×((Int)×(Unit)))))=>
 Z.loop (fun(s2:Int) k3=>
 (bif (Z.ilt s2 9)then if(Z.In s2 9)then Z.bnd (Z.get x1 (Z.toN s2) (0,(0,(0,())))) fun(x6:(Int)×((Int)×((Int)×(Unit))))=>
 Z.bind (zXl (x6.1,(x6.2.1,(x6.2.2.1,())))) fun(x7:Bool)=>
 (bif (Z.bnot x7)then some 8
 else Z.bnd (Z.wrap .i64 (Z.add s2 1)) fun(x8:Int)=>
 k3 x8)
 else none
 else Z.bind (zZf ((d0.1,(d0.2.1,(d0.2.2.1,(d0.2.2.2.1,(d0.2.2.2.2.1,(d0.2.2.2.2.2.1,(d0.2.2.2.2.2.2.1,(d0.2.2.2.2.2.2.2.1,(d0.2.2.2.2.2.2.2.2.1,()))))))))),(d0.1,d0.2.1))) fun(x9:(Int)×((Int)×((Int)×((Int)×(Unit)))))=>
 Z.loop (fun(s10:((Int)×((Int)×((Int)×(Int))))×(Int)) k11=>
 Z.bnd (Z.wrap .i64 (Z.add s10.2 1)) fun(x12:Int)=>
 Z.bind (zY8 ((d0.1,(d0.2.1,(d0.2.2.1,(d0.2.2.2.1,(d0.2.2.2.2.1,(d0.2.2.2.2.2.1,(d0.2.2.2.2.2.2.1,(d0.2.2.2.2.2.2.2.1,(d0.2.2.2.2.2.2.2.2.1,()))))))))),(s10.1.1,(s10.1.2.1,(s10.1.2.2.1,(s10.1.2.2.2,())))))) fun(x13:Bool)=>
 (bif (Z.zQ3 true (Z.bnot x13) false)then Z.bnd (Z.wrap .i64 (Z.add s10.1.1 d0.2.2.1)) fun(x14:Int)=>
 Z.bnd (Z.wrap .i64 (Z.sub x14 1)) fun(x15:Int)=>
 if(Z.IsZ d0.2.2.1)then none
 else Z.bnd (Z.wrap .i64 (Z.tdiv x15 d0.2.2.1)) fun(x18:Int)=>
 Z.bnd (Z.wrap .i64 (Z.mul 4 d0.2.2.1)) fun(x19:Int)=>
 Z.bind (zZf ((d0.1,(d0.2.1,(d0.2.2.1,(d0.2.2.2.1,(d0.2.2.2.2.1,(d0.2.2.2.2.2.1,(d0.2.2.2.2.2.2.1,(d0.2.2.2.2.2.2.2.1,(d0.2.2.2.2.2.2.2.2.1,()))))))))),(x18,x19))) fun(x20:(Int)×((Int)×((Int)×((Int)×(Unit)))))=>
 k11 ((x20.1,(x20.2.1,(x20.2.2.1,x20.2.2.2.1))),x12)
 else(bif (Z.igt x12 4)then some 8
 else some 0))) ((x9.1,(x9.2.1,(x9.2.2.1,x9.2.2.2.1))),0))) 0
def yJ6:PFn:={args:=[(.pair (.int .i64) (.pair (.int .i64) (.pair (.int .i64) (.pair (.int .i64) (.pair (.int .i64) (.pair (.int .i64) (.pair (.int .i64) (.pair (.int .i64) (.pair (.int .i64) .unit)))))))))],res:=[(.int .i64)],fn:=zYf}
def uQr:List LSpec×List Nat:=([{id:=7800,known:=true,toks:=[],items:=[.cells 1000003 [.val (.int .i64), .val (.int .i64), .val (.int .i64), .val (.int .i64)], .cells 1 [.val (.int .i64)]],junk:=[10,11,12,13,14,15,16,17,18,19,20,21,22,23,24,25,26,27,28,29,30,31,32],tails:=[]}],[])
def uQs:List LSpec×List Nat:=([{id:=6900,known:=true,toks:=[],items:=[.slot 8 (.val (.int .i64))],junk:=[9,10,4,11,12,13,2,14],tails:=[]}],[])
def uQv:List LSpec×List Nat:=([{id:=4800,known:=false,toks:=[],items:=[],junk:=[],tails:=[]}],[9000000008])
def uQt:List LSpec×List Nat:=([],[5])
def uQw:List LSpec×List Nat:=([{id:=2800,known:=true,toks:=[(9000000,(.int .u8)),(9000000,(.mix 900000001 (.int .u8))),(7005000,(.mix 900000001 (.mix 900000002 (.int .u8))))],items:=[.slot 18 (.val (.int .i64)), .cells 1000004 [.val (.mix 2005000 (.mix 12005000 (.mix 22005000 (.int .u8))))], .rows 2005000 (.mix 12005000 (.mix 22005000 (.int .u8))), .rows 22005000 (.int .u8), .rows 12005000 (.mix 22005000 (.int .u8))],junk:=[19,20,21,22,5,6,23,24,25,26,27,28,29,30,31,32,33,34,35],tails:=[]}],[4000000001])
def uQu:List LSpec×List Nat:=([{id:=4900,known:=false,toks:=[],items:=[],junk:=[],tails:=[]}],[6000000006,9000000007])
def spt69:Tab (List LSpec×List Nat):=(.node (.node .leaf none (.node (.node (.node .leaf none (.node .leaf (some uQu) .leaf)) none .leaf) none (.node (.node (.node (.node .leaf (some uQs) .leaf) none .leaf) none .leaf) none .leaf))) none (.node (.node (.node (.node .leaf none (.node .leaf (some uQv) .leaf)) none .leaf) none (.node (.node (.node (.node .leaf (some uQt) .leaf) none .leaf) none .leaf) none (.node .leaf (some uQw) .leaf))) none (.node .leaf none (.node .leaf none (.node (.node (.node .leaf (some uQr) .leaf) none .leaf) none .leaf)))))
def spf69(f:Nat):List LSpec×List Nat:=(spt69.get f).getD ([],[])
theorem xKr:zW3 Try.prog cfg 69 yJ6:=fnD spf69 (l:=[(76,yZ2),(77,zZ5),(79,yQx),(80,zYu)]) zXj zQ2 (.cons xXe (.cons zYs (.cons yZx (.cons yXk .nil)))) (fun d=>by kernel_rfl)
def zY9(d0:(Int)×((Int)×((Int)×((Int)×((Int)×((Int)×((Int)×((Int)×((Int)×(Unit)))))))))):Option ((List ((Int)×((Int)×((Int)×((Int)×(Unit))))))×(Int)):=
 Z.bind (zYf (d0.1,(d0.2.1,(d0.2.2.1,(d0.2.2.2.1,(d0.2.2.2.2.1,(d0.2.2.2.2.2.1,(d0.2.2.2.2.2.2.1,(d0.2.2.2.2.2.2.2.1,(d0.2.2.2.2.2.2.2.2.1,())))))))))) fun(x1:Int)=>
 (bif (Z.ine x1 0)then some (([]:List ((Int)×((Int)×((Int)×((Int)×(Unit)))))),x1)
 else if(Z.MkOk 0 4 32)then Z.bind (zZf ((d0.1,(d0.2.1,(d0.2.2.1,(d0.2.2.2.1,(d0.2.2.2.2.1,(d0.2.2.2.2.2.1,(d0.2.2.2.2.2.2.1,(d0.2.2.2.2.2.2.2.1,(d0.2.2.2.2.2.2.2.2.1,()))))))))),(d0.1,d0.2.1))) fun(x4:(Int)×((Int)×((Int)×((Int)×(Unit)))))=>
 if(Z.EqN (Z.toN 0) 0)then if(Z.EqN 0 (Z.len ([]:List ((Int)×((Int)×((Int)×((Int)×(Unit))))))))then Z.loop (fun(s9:((Int)×((Int)×((Int)×(Int))))×(List ((Int)×((Int)×((Int)×((Int)×(Unit))))))) k10=>
 if(Z.Le (Z.addN 0 1) (Z.len ((s9.1.1,(s9.1.2.1,(s9.1.2.2.1,(s9.1.2.2.2,()))))::([]:List ((Int)×((Int)×((Int)×((Int)×(Unit)))))))))then if(Z.Big (Z.len s9.2) (Z.len (Z.seg ((s9.1.1,(s9.1.2.1,(s9.1.2.2.1,(s9.1.2.2.2,()))))::([]:List ((Int)×((Int)×((Int)×((Int)×(Unit))))))) 0 1)) 32)then none
 else if(Z.EqN (Z.len s9.2) (Z.len s9.2))then Z.bnd (Z.app s9.2 (Z.seg ((s9.1.1,(s9.1.2.1,(s9.1.2.2.1,(s9.1.2.2.2,()))))::([]:List ((Int)×((Int)×((Int)×((Int)×(Unit))))))) 0 1)) fun(x17:List ((Int)×((Int)×((Int)×((Int)×(Unit))))))=>
 Z.bind (zY8 ((d0.1,(d0.2.1,(d0.2.2.1,(d0.2.2.2.1,(d0.2.2.2.2.1,(d0.2.2.2.2.2.1,(d0.2.2.2.2.2.2.1,(d0.2.2.2.2.2.2.2.1,(d0.2.2.2.2.2.2.2.2.1,()))))))))),(s9.1.1,(s9.1.2.1,(s9.1.2.2.1,(s9.1.2.2.2,())))))) fun(x18:Bool)=>
 (bif (Z.zQ3 true (Z.bnot x18) false)then Z.bnd (Z.wrap .i64 (Z.add s9.1.1 d0.2.2.1)) fun(x19:Int)=>
 Z.bnd (Z.wrap .i64 (Z.sub x19 1)) fun(x20:Int)=>
 if(Z.IsZ d0.2.2.1)then none
 else Z.bnd (Z.wrap .i64 (Z.tdiv x20 d0.2.2.1)) fun(x23:Int)=>
 Z.bnd (Z.wrap .i64 (Z.mul 4 d0.2.2.1)) fun(x24:Int)=>
 Z.bind (zZf ((d0.1,(d0.2.1,(d0.2.2.1,(d0.2.2.2.1,(d0.2.2.2.2.1,(d0.2.2.2.2.2.1,(d0.2.2.2.2.2.2.1,(d0.2.2.2.2.2.2.2.1,(d0.2.2.2.2.2.2.2.2.1,()))))))))),(x23,x24))) fun(x25:(Int)×((Int)×((Int)×((Int)×(Unit)))))=>
 if(Z.EqN (Z.len x17) (Z.len x17))then k10 ((x25.1,(x25.2.1,(x25.2.2.1,x25.2.2.2.1))),x17)
 else none
 else some (x17,0))
 else none
 else none) ((x4.1,(x4.2.1,(x4.2.2.1,x4.2.2.2.1))),([]:List ((Int)×((Int)×((Int)×((Int)×(Unit)))))))
 else none
 else none
 else none)
def yZ3:PFn:={args:=[(.pair (.int .i64) (.pair (.int .i64) (.pair (.int .i64) (.pair (.int .i64) (.pair (.int .i64) (.pair (.int .i64) (.pair (.int .i64) (.pair (.int .i64) (.pair (.int .i64) .unit)))))))))],res:=[(.list (.pair (.int .i64) (.pair (.int .i64) (.pair (.int .i64) (.pair (.int .i64) .unit))))),(.int .i64)],fn:=zY9}
def uWf:List LSpec×List Nat:=([{id:=7800,known:=true,toks:=[(2002000,(.pair (.int .i64) (.pair (.int .i64) (.pair (.int .i64) (.pair (.int .i64) .unit)))))],items:=[.cells 1000003 [.val (.int .i64), .val (.int .i64), .val (.int .i64), .val (.int .i64)], .cells 2 [.slt (.pair (.int .i64) (.pair (.int .i64) (.pair (.int .i64) (.pair (.int .i64) .unit)))) (some 2002000) false]],junk:=[10,11,12,13,14,15,16,17,18,19,20,21,22,23,24,25,26,27,28,29,30,31,32],tails:=[(2002000,2002000)]}],[])
def uWi:List LSpec×List Nat:=([{id:=4800,known:=false,toks:=[],items:=[],junk:=[],tails:=[]}],[9000000008])
def uWg:List LSpec×List Nat:=([],[5])
def uWj:List LSpec×List Nat:=([{id:=2800,known:=true,toks:=[(9000000,(.int .u8)),(9000000,(.mix 900000001 (.int .u8))),(7005000,(.mix 900000001 (.mix 900000002 (.int .u8))))],items:=[.slot 18 (.val (.int .i64)), .cells 1000004 [.val (.mix 2005000 (.mix 12005000 (.mix 22005000 (.int .u8))))], .rows 2005000 (.mix 12005000 (.mix 22005000 (.int .u8))), .rows 22005000 (.int .u8), .rows 12005000 (.mix 22005000 (.int .u8))],junk:=[19,20,21,22,5,6,23,24,25,26,27,28,29,30,31,32,33,34,35],tails:=[]}],[4000000001])
def uWh:List LSpec×List Nat:=([{id:=4900,known:=false,toks:=[],items:=[],junk:=[],tails:=[]}],[6000000006,9000000007])
def spt60:Tab (List LSpec×List Nat):=(.node (.node .leaf none (.node (.node (.node .leaf none (.node .leaf (some uWh) .leaf)) none .leaf) none .leaf)) none (.node (.node (.node (.node .leaf none (.node .leaf (some uWi) .leaf)) none .leaf) none (.node (.node (.node (.node .leaf (some uWg) .leaf) none .leaf) none .leaf) none (.node .leaf (some uWj) .leaf))) none (.node .leaf none (.node .leaf none (.node (.node (.node .leaf (some uWf) .leaf) none .leaf) none .leaf)))))
def spf60(f:Nat):List LSpec×List Nat:=(spt60.get f).getD ([],[])
theorem xXf:zW3 Try.prog cfg 60 yZ3:=fnD spf60 (l:=[(69,yJ6),(79,yQx),(80,zYu)]) zXj zQ2 (.cons xKr (.cons yZx (.cons yXk .nil))) (fun d=>by kernel_rfl)
def zY3(d0:Int):Option ((Int)×(Int)):=
 Z.bind (yWb d0) fun(x1:Int)=>
 (bif (Z.ine x1 0)then some (0,x1)
 else if(Z.Neg d0)then none
 else Z.bnd (Z.shl .i64 2 d0) fun(x4:Int)=>
 Z.bnd (Z.wrap .i64 (Z.sub x4 1)) fun(x5:Int)=>
 some (x5,0))
def yZ1:PFn:={args:=[(.int .i64)],res:=[(.int .i64),(.int .i64)],fn:=zY3}
def uWd:List LSpec×List Nat:=([{id:=4800,known:=false,toks:=[],items:=[],junk:=[],tails:=[]}],[9000000008])
def uWb:List LSpec×List Nat:=([],[5])
def uWe:List LSpec×List Nat:=([{id:=2800,known:=true,toks:=[(9000000,(.int .u8)),(9000000,(.mix 900000001 (.int .u8))),(7005000,(.mix 900000001 (.mix 900000002 (.int .u8))))],items:=[.slot 18 (.val (.int .i64)), .cells 1000004 [.val (.mix 2005000 (.mix 12005000 (.mix 22005000 (.int .u8))))], .rows 2005000 (.mix 12005000 (.mix 22005000 (.int .u8))), .rows 22005000 (.int .u8), .rows 12005000 (.mix 22005000 (.int .u8))],junk:=[19,20,21,22,5,6,23,24,25,26,27,28,29,30,31,32,33,34,35],tails:=[]}],[4000000001])
def uWc:List LSpec×List Nat:=([{id:=4900,known:=false,toks:=[],items:=[],junk:=[],tails:=[]}],[6000000006,9000000007])
def spt61:Tab (List LSpec×List Nat):=(.node (.node .leaf none (.node (.node (.node .leaf none (.node .leaf (some uWc) .leaf)) none .leaf) none .leaf)) none (.node (.node (.node (.node .leaf none (.node .leaf (some uWd) .leaf)) none .leaf) none (.node (.node (.node (.node .leaf (some uWb) .leaf) none .leaf) none .leaf) none (.node .leaf (some uWe) .leaf))) none .leaf))
def spf61(f:Nat):List LSpec×List Nat:=(spt61.get f).getD ([],[])
theorem xXd:zW3 Try.prog cfg 61 yZ1:=fnD spf61 (l:=[(71,yX0)]) zXj zQ2 (.cons yJy .nil) (fun d=>by kernel_rfl)
def yW5(d0:(Int)×((Int)×((Int)×((Int)×((Int)×((Int)×((Int)×((Int)×((Int)×(Unit)))))))))):Option ((List ((Int)×((Int)×(Unit))))×(Int)):=
 Z.bind (zY9 (d0.1,(d0.2.1,(d0.2.2.1,(d0.2.2.2.1,(d0.2.2.2.2.1,(d0.2.2.2.2.2.1,(d0.2.2.2.2.2.2.1,(d0.2.2.2.2.2.2.2.1,(d0.2.2.2.2.2.2.2.2.1,())))))))))) fun(x1:(List ((Int)×((Int)×((Int)×((Int)×(Unit))))))×(Int))=>
 (bif (Z.ine x1.2 0)then some (([]:List ((Int)×((Int)×(Unit)))),x1.2)
 else if(Z.MkOk (Z.ofN (Z.len x1.1)) (Z.ofN (Z.len x1.1)) 16)then Z.loop (fun(s4:(Int)×(List ((Int)×((Int)×(Unit))))) k5=>
 (bif (Z.ilt s4.1 (Z.ofN (Z.len x1.1)))then if(Z.Ix s4.1 (Z.len x1.1))then Z.bnd (Z.get x1.1 (Z.toN s4.1) (0,(0,(0,(0,()))))) fun(x8:(Int)×((Int)×((Int)×((Int)×(Unit)))))=>
 Z.bind (zY3 x8.2.2.1) fun(x9:(Int)×(Int))=>
 (bif (Z.ine x9.2 0)then some (([]:List ((Int)×((Int)×(Unit)))),x9.2)
 else Z.bnd (Z.wrap .i64 (Z.add 8 x8.2.2.2.1)) fun(x10:Int)=>
 if(Z.In s4.1 (Z.toN (Z.ofN (Z.len x1.1))))then if(Z.Lt (Z.addN 0 (Z.toN s4.1)) (Z.len s4.2))then Z.bnd (Z.set s4.2 (Z.addN 0 (Z.toN s4.1)) (x9.1,(x10,()))) fun(x15:List ((Int)×((Int)×(Unit))))=>
 Z.bnd (Z.wrap .i64 (Z.add s4.1 1)) fun(x16:Int)=>
 k5 (x16,x15)
 else none
 else none)
 else none
 else if(Z.Le (Z.addN 0 (Z.toN (Z.ofN (Z.len x1.1)))) (Z.len s4.2))then some ((Z.seg s4.2 0 (Z.toN (Z.ofN (Z.len x1.1)))),0)
 else none)) (0,(Z.rep (α:=(Int)×((Int)×(Unit))) (Z.toN (Z.ofN (Z.len x1.1))) (0,(0,()))))
 else none)
def yJ5:PFn:={args:=[(.pair (.int .i64) (.pair (.int .i64) (.pair (.int .i64) (.pair (.int .i64) (.pair (.int .i64) (.pair (.int .i64) (.pair (.int .i64) (.pair (.int .i64) (.pair (.int .i64) .unit)))))))))],res:=[(.list (.pair (.int .i64) (.pair (.int .i64) .unit))),(.int .i64)],fn:=yW5}
def uXo:List LSpec×List Nat:=([{id:=3500,known:=true,toks:=[],items:=[.slot 24 (.val (.int .i64)), .vec 1000006 (.pair (.int .i64) (.pair (.int .i64) .unit))],junk:=[25,26,27,28,8,7,30,31,32,29,33,34,9,10,35,36,37,2,3,38,39,40,41,42,43,44,45,46],tails:=[]}],[])
def uXn:List LSpec×List Nat:=([{id:=4800,known:=false,toks:=[],items:=[],junk:=[],tails:=[]}],[9000000008])
def uXl:List LSpec×List Nat:=([],[5])
def uXp:List LSpec×List Nat:=([{id:=2800,known:=true,toks:=[(9000000,(.int .u8)),(9000000,(.mix 900000001 (.int .u8))),(7005000,(.mix 900000001 (.mix 900000002 (.int .u8))))],items:=[.slot 18 (.val (.int .i64)), .cells 1000004 [.val (.mix 2005000 (.mix 12005000 (.mix 22005000 (.int .u8))))], .rows 2005000 (.mix 12005000 (.mix 22005000 (.int .u8))), .rows 22005000 (.int .u8), .rows 12005000 (.mix 22005000 (.int .u8))],junk:=[19,20,21,22,5,6,23,24,25,26,27,28,29,30,31,32,33,34,35],tails:=[]}],[4000000001])
def uXm:List LSpec×List Nat:=([{id:=4900,known:=false,toks:=[],items:=[],junk:=[],tails:=[]}],[6000000006,9000000007])
def spt35:Tab (List LSpec×List Nat):=(.node (.node (.node .leaf none (.node (.node (.node .leaf (some uXo) .leaf) none .leaf) none .leaf)) none (.node (.node (.node .leaf none (.node .leaf (some uXm) .leaf)) none .leaf) none .leaf)) none (.node (.node (.node (.node .leaf none (.node .leaf (some uXn) .leaf)) none .leaf) none (.node (.node (.node (.node .leaf (some uXl) .leaf) none .leaf) none .leaf) none (.node .leaf (some uXp) .leaf))) none .leaf))
def spf35(f:Nat):List LSpec×List Nat:=(spt35.get f).getD ([],[])
theorem xKq:zW3 Try.prog cfg 35 yJ5:=fnD spf35 (l:=[(60,yZ3),(61,yZ1)]) zXj zQ2 (.cons xXf (.cons xXd .nil)) (fun d=>by kernel_rfl)
def yWi(d0:((Int)×((Int)×((Int)×((Int)×((Int)×((Int)×((Int)×((Int)×((Int)×(Unit))))))))))×((List (List (List (Int))))×(Unit))):Option (Int):=
 Z.bind (yW5 (d0.1.1,(d0.1.2.1,(d0.1.2.2.1,(d0.1.2.2.2.1,(d0.1.2.2.2.2.1,(d0.1.2.2.2.2.2.1,(d0.1.2.2.2.2.2.2.1,(d0.1.2.2.2.2.2.2.2.1,(d0.1.2.2.2.2.2.2.2.2.1,())))))))))) fun(x1:(List ((Int)×((Int)×(Unit))))×(Int))=>
 (bif (Z.ine x1.2 0)then some x1.2
 else(bif (Z.ine (Z.ofN (Z.len d0.2.1)) (Z.ofN (Z.len x1.1)))then some 8
 else Z.loop (fun(s2:Int) k3=>
 (bif (Z.ilt s2 (Z.ofN (Z.len x1.1)))then if(Z.Ix s2 (Z.len x1.1))then Z.bnd (Z.get x1.1 (Z.toN s2) (0,(0,()))) fun(x6:(Int)×((Int)×(Unit)))=>
 if(Z.Ix s2 (Z.len d0.2.1))then Z.bnd (Z.get d0.2.1 (Z.toN s2) ([]:List (List (Int)))) fun(x9:List (List (Int)))=>
 (bif (Z.ine (Z.ofN (Z.len x9)) x6.1)then some 8
 else Z.bnd (Z.wrap .i64 (Z.add s2 1)) fun(x10:Int)=>
 k3 x10)
 else none
 else none
 else Z.loop (fun(s11:Int) k12=>
 (bif (Z.ilt s11 (Z.ofN (Z.len d0.2.1)))then if(Z.Ix s11 (Z.len d0.2.1))then Z.bnd (Z.get d0.2.1 (Z.toN s11) ([]:List (List (Int)))) fun(x15:List (List (Int)))=>
 Z.loop (fun(s16:Int) k17=>
 (bif (Z.ilt s16 (Z.ofN (Z.len x15)))then if(Z.Ix s16 (Z.len x15))then Z.bnd (Z.get x15 (Z.toN s16) ([]:List (Int))) fun(x20:List (Int))=>
 if(Z.Ix s11 (Z.len x1.1))then Z.bnd (Z.get x1.1 (Z.toN s11) (0,(0,()))) fun(x23:(Int)×((Int)×(Unit)))=>
 (bif (Z.bnot (Z.ieq (Z.ofN (Z.len x20)) x23.2.1))then some 8
 else Z.bnd (Z.wrap .i64 (Z.add s16 1)) fun(x24:Int)=>
 k17 x24)
 else none
 else none
 else Z.bnd (Z.wrap .i64 (Z.add s11 1)) fun(x25:Int)=>
 k12 x25)) 0
 else none
 else some 0)) 0)) 0))
def yX1:PFn:={args:=[(.pair (.int .i64) (.pair (.int .i64) (.pair (.int .i64) (.pair (.int .i64) (.pair (.int .i64) (.pair (.int .i64) (.pair (.int .i64) (.pair (.int .i64) (.pair (.int .i64) .unit))))))))),(.pair (.list (.list (.list (.int .u8)))) .unit)],res:=[(.int .i64)],fn:=yWi}
def uZ5:List LSpec×List Nat:=([{id:=4400,known:=true,toks:=[],items:=[.slot 11 (.val (.int .i64))],junk:=[12,13,14,15,5,6,16,17,18,19,20,21,8,22,23,24,25,26,4,27,28],tails:=[]},{id:=4401,known:=true,toks:=[],items:=[.slot 18 (.val (.int .i64))],junk:=[19,20,21,8,22,23,24,25,26,4,27],tails:=[]}],[])
def uZ7:List LSpec×List Nat:=([{id:=1600,known:=true,toks:=[],items:=[.slot 25 (.val (.int .i64))],junk:=[26,27,28,29,8,7,30,31,32,33,34,35,36,37,38,4,39],tails:=[]}],[])
def uZ4:List LSpec×List Nat:=([{id:=4800,known:=false,toks:=[],items:=[],junk:=[],tails:=[]}],[9000000008])
def uZ2:List LSpec×List Nat:=([],[5])
def uZ6:List LSpec×List Nat:=([{id:=2800,known:=true,toks:=[(9000000,(.int .u8)),(9000000,(.mix 900000001 (.int .u8))),(7005000,(.mix 900000001 (.mix 900000002 (.int .u8))))],items:=[.slot 18 (.val (.int .i64)), .cells 1000004 [.val (.mix 2005000 (.mix 12005000 (.mix 22005000 (.int .u8))))], .rows 2005000 (.mix 12005000 (.mix 22005000 (.int .u8))), .rows 22005000 (.int .u8), .rows 12005000 (.mix 22005000 (.int .u8))],junk:=[19,20,21,22,5,6,23,24,25,26,27,28,29,30,31,32,33,34,35],tails:=[]}],[4000000001])
def uZ3:List LSpec×List Nat:=([{id:=4900,known:=false,toks:=[],items:=[],junk:=[],tails:=[]}],[6000000006,9000000007])
def spt16:Tab (List LSpec×List Nat):=(.node (.node .leaf none (.node (.node (.node .leaf none (.node .leaf (some uZ3) .leaf)) none .leaf) none .leaf)) none (.node (.node (.node (.node .leaf (some uZ7) (.node .leaf (some uZ4) .leaf)) none .leaf) none (.node (.node (.node (.node .leaf (some uZ2) .leaf) none .leaf) none .leaf) none (.node (.node .leaf (some uZ5) .leaf) (some uZ6) .leaf))) none .leaf))
def spf16(f:Nat):List LSpec×List Nat:=(spt16.get f).getD ([],[])
theorem yJz:zW3 Try.prog cfg 16 yX1:=fnD spf16 (l:=[(35,yJ5)]) zXj zQ2 (.cons xKq .nil) (fun d=>by kernel_rfl)
def zYd(d0:((List (List (List (Int))))×(Unit))×((Int)×(List (Int)))):Option (Bool):=
 (bif (Z.ilt d0.2.1 0)then some false
 else(bif (Z.zQ3 false true (Z.ige d0.2.1 (Z.ofN (Z.len d0.1.1))))then some false
 else Z.loop (fun(s1:Int) k2=>
 (bif (Z.ilt s1 (Z.ofN 1))then if(Z.In s1 1)then if(Z.Lt (Z.addN 0 (Z.toN s1)) (Z.len (d0.2.2::([]:List (List (Int))))))then Z.bnd (Z.get (d0.2.2::([]:List (List (Int)))) (Z.addN 0 (Z.toN s1)) ([]:List (Int))) fun(x7:List (Int))=>
 Z.loop (fun(s8:Int) k9=>
 (bif (Z.ilt s8 (Z.ofN (Z.len x7)))then if(Z.Ix s8 (Z.len x7))then Z.bnd (Z.get x7 (Z.toN s8) 0) fun(x12:Int)=>
 (bif (Z.ige x12 1)then if(Z.Ix d0.2.1 (Z.len d0.1.1))then Z.bnd (Z.get d0.1.1 (Z.toN d0.2.1) ([]:List (List (Int)))) fun(x15:List (List (Int)))=>
 (bif (Z.bnot (Z.zQ3 true (Z.ile x12 (Z.ofN (Z.len x15))) false))then some false
 else Z.bnd (Z.wrap .i64 (Z.add s8 1)) fun(x16:Int)=>
 k9 x16)
 else none
 else some false)
 else none
 else Z.bnd (Z.wrap .i64 (Z.add s1 1)) fun(x17:Int)=>
 k2 x17)) 0
 else none
 else none
 else some true)) 0))
def yQw:PFn:={args:=[(.pair (.list (.list (.list (.int .u8)))) .unit),(.int .i64),(.list (.int .i64))],res:=[.bool],fn:=zYd}
def uXh:List LSpec×List Nat:=([{id:=6300,known:=true,toks:=[],items:=[.slot 11 (.val (.int .i64))],junk:=[12,13,14,15,5,6,16,17,18,19,20,21,8,22,23,24,25,26,4,27,28],tails:=[]},{id:=6301,known:=true,toks:=[],items:=[.slot 18 (.val (.int .i64))],junk:=[19,20,21,8,22,23,24,25,26,4,27],tails:=[]}],[])
def uXj:List LSpec×List Nat:=([{id:=4800,known:=false,toks:=[],items:=[],junk:=[],tails:=[]}],[9000000008])
def uXg:List LSpec×List Nat:=([],[5])
def uXk:List LSpec×List Nat:=([{id:=2800,known:=true,toks:=[(9000000,(.int .u8)),(9000000,(.mix 900000001 (.int .u8))),(7005000,(.mix 900000001 (.mix 900000002 (.int .u8))))],items:=[.slot 18 (.val (.int .i64)), .cells 1000004 [.val (.mix 2005000 (.mix 12005000 (.mix 22005000 (.int .u8))))], .rows 2005000 (.mix 12005000 (.mix 22005000 (.int .u8))), .rows 22005000 (.int .u8), .rows 12005000 (.mix 22005000 (.int .u8))],junk:=[19,20,21,22,5,6,23,24,25,26,27,28,29,30,31,32,33,34,35],tails:=[]}],[4000000001])
def uXi:List LSpec×List Nat:=([{id:=4900,known:=false,toks:=[],items:=[],junk:=[],tails:=[]}],[6000000006,9000000007])
def spt38:Tab (List LSpec×List Nat):=(.node (.node (.node (.node (.node (.node (.node .leaf (some uXh) .leaf) none .leaf) none .leaf) none .leaf) none .leaf) none (.node (.node (.node .leaf none (.node .leaf (some uXi) .leaf)) none .leaf) none .leaf)) none (.node (.node (.node (.node .leaf none (.node .leaf (some uXj) .leaf)) none .leaf) none (.node (.node (.node (.node .leaf (some uXg) .leaf) none .leaf) none .leaf) none (.node .leaf (some uXk) .leaf))) none .leaf))
def spf38(f:Nat):List LSpec×List Nat:=(spt38.get f).getD ([],[])
theorem yZw:zW3 Try.prog cfg 38 yQw:=fnD spf38 (l:=[]) zXj zQ2 .nil (fun d=>by kernel_rfl)
def zXh(d0:List (Int)):Option (List (Int)):=
 if(Z.Le (Z.addN 0 0) (Z.len ([]:List (Int))))then if(Z.EqN (Z.len d0) 0)then if(Z.Le (Z.addN 0 0) (Z.len ([]:List (Int))))then some (Z.seg ([]:List (Int)) 0 0)
 else none
 else if(Z.Big (Z.len (Z.seg ([]:List (Int)) 0 0)) (Z.len d0) 1)then none
 else Z.bnd (Z.app (Z.seg ([]:List (Int)) 0 0) d0) fun(x9:List (Int))=>
 if(Z.Le (Z.addN 0 (Z.len x9)) (Z.len x9))then some (Z.seg x9 0 (Z.len x9))
 else none
 else none
def zYv:PFn:={args:=[(.list (.int .u8))],res:=[(.list (.int .u8))],fn:=zXh}
def cx40 : CloneX Try.prog cfg 40 5 (.int .u8) := clx xf40 5 (xf40.body.cOps.getD 0 ⟨none, .move (.tmp 0), 0, "", #[], none⟩) (xf40.body.cOps.getD 1 ⟨none, .move (.tmp 0), 0, "", #[], none⟩) (by kernel_rfl) (by kernel_rfl) (by kernel_rfl) (by kernel_rfl) (by kernel_rfl) (by kernel_rfl) (by kernel_rfl) (by kernel_rfl) (by kernel_rfl)
def uXe:List LSpec×List Nat:=([],[3])
def uXd:List LSpec×List Nat:=([{id:=4800,known:=false,toks:=[],items:=[],junk:=[],tails:=[]}],[9000000008])
def uXb:List LSpec×List Nat:=([],[5])
def uXf:List LSpec×List Nat:=([{id:=2800,known:=true,toks:=[(9000000,(.int .u8)),(9000000,(.mix 900000001 (.int .u8))),(7005000,(.mix 900000001 (.mix 900000002 (.int .u8))))],items:=[.slot 18 (.val (.int .i64)), .cells 1000004 [.val (.mix 2005000 (.mix 12005000 (.mix 22005000 (.int .u8))))], .rows 2005000 (.mix 12005000 (.mix 22005000 (.int .u8))), .rows 22005000 (.int .u8), .rows 12005000 (.mix 22005000 (.int .u8))],junk:=[19,20,21,22,5,6,23,24,25,26,27,28,29,30,31,32,33,34,35],tails:=[]}],[4000000001])
def uXc:List LSpec×List Nat:=([{id:=4900,known:=false,toks:=[],items:=[],junk:=[],tails:=[]}],[6000000006,9000000007])
def spt40:Tab (List LSpec×List Nat):=(.node (.node .leaf none (.node (.node (.node .leaf none (.node .leaf (some uXc) .leaf)) none .leaf) none .leaf)) none (.node (.node (.node (.node .leaf none (.node .leaf (some uXd) .leaf)) none (.node (.node .leaf (some uXe) .leaf) none .leaf)) none (.node (.node (.node (.node .leaf (some uXb) .leaf) none .leaf) none .leaf) none (.node .leaf (some uXf) .leaf))) none .leaf))
def spf40(f:Nat):List LSpec×List Nat:=(spt40.get f).getD ([],[])
theorem yXl:zW3 Try.prog cfg 40 zYv:=cloneD spf40 zXj zQ2 cx40 (of_decide_eq_true (by kernel_rfl)) (by kernel_rfl) (by kernel_rfl) (by kernel_rfl) (fun d=>by kernel_rfl) (fun d=>by kernel_rfl) (by kernel_rfl) (fun d r h=>by
  unfold zXh at h;split at h
  · split at h
    · rename_i e
      have h1:=Option.some.inj h;rw[←h1];exact(Qp.1 e).symm
    · split at h
      ·cases h
      · simp only[Z.bnd]at h
        split at h
        · have h1:(d.drop 0).take d.length=r:=Option.some.inj h
          rw[←h1];simp
        ·cases h
  ·cases h)
def yZ5:OFn:={args:=[(.list (.int .u8))],ores:=[(.own (.int .u8))],fn:=zXh}
theorem xXh:OwnD Try.prog cfg 40 yZ5∧True:=⟨cloneO spf40 zXj zQ2 cx40 (of_decide_eq_true (by kernel_rfl)) (by kernel_rfl) (by kernel_rfl) (by kernel_rfl) (fun d=>by kernel_rfl) (fun d=>by kernel_rfl) (by kernel_rfl) (fun d r h=>by
  unfold zXh at h;split at h
  · split at h
    · rename_i e
      have h1:=Option.some.inj h;rw[←h1];exact(Qp.1 e).symm
    · split at h
      ·cases h
      · simp only[Z.bnd]at h
        split at h
        · have h1:(d.drop 0).take d.length=r:=Option.some.inj h
          rw[←h1];simp
        ·cases h
  ·cases h),trivial⟩
def yW7(d0:((Int)×((Int)×((Int)×((Int)×((Int)×((Int)×((Int)×((Int)×((Int)×(Unit))))))))))×(((List (List (List (Int))))×(Unit))×((Int)×(List (Int))))):Option (((List (List (Int)))×(List (List (MixE (Int)))))×((MixE (MixE (Int)))×((List ((Int)×((Int)×((Int)×((List (Int))×(Unit))))))×(Int)))):=
 Z.bind (yWi ((d0.1.1,(d0.1.2.1,(d0.1.2.2.1,(d0.1.2.2.2.1,(d0.1.2.2.2.2.1,(d0.1.2.2.2.2.2.1,(d0.1.2.2.2.2.2.2.1,(d0.1.2.2.2.2.2.2.2.1,(d0.1.2.2.2.2.2.2.2.2.1,()))))))))),(d0.2.1.1,()))) fun(x1:Int)=>
 (bif (Z.ine x1 0)then some ((([]:List (List (Int))),([]:List (List (MixE (Int))))),((Z.xnil (α:=MixE (Int))),(([]:List ((Int)×((Int)×((Int)×((List (Int))×(Unit)))))),x1)))
 else Z.bind (zYd ((d0.2.1.1,()),(d0.2.2.1,d0.2.2.2))) fun(x2:Bool)=>
 (bif (Z.bnot x2)then some ((([]:List (List (Int))),([]:List (List (MixE (Int))))),((Z.xnil (α:=MixE (Int))),(([]:List ((Int)×((Int)×((Int)×((List (Int))×(Unit)))))),2)))
 else if(Z.EqN 0 (Z.len ([]:List ((Int)×((Int)×((Int)×((List (Int))×(Unit))))))))then Z.loop (fun(s5:(Int)×((List ((Int)×((Int)×((Int)×((List (Int))×(Unit))))))×((List (List (MixE (Int))))×((List (List (Int)))×(MixE (MixE (Int))))))) k6=>
 (bif (Z.ilt s5.1 (Z.ofN (Z.len d0.2.2.2)))then if(Z.Ix s5.1 (Z.len d0.2.2.2))then Z.bnd (Z.get d0.2.2.2 (Z.toN s5.1) 0) fun(x9:Int)=>
 if(Z.Ix d0.2.2.1 (Z.len d0.2.1.1))then Z.bnd (Z.get d0.2.1.1 (Z.toN d0.2.2.1) ([]:List (List (Int)))) fun(x12:List (List (Int)))=>
 Z.bnd (Z.wrap .i64 (Z.sub x9 1)) fun(x13:Int)=>
 if(Z.Ix x13 (Z.len x12))then Z.bnd (Z.get x12 (Z.toN x13) ([]:List (Int))) fun(x16:List (Int))=>
 Z.bind (zXh x16) fun(x17:List (Int))=>
 Z.bnd (Z.app s5.2.2.2.1 (x17::([]:List (List (Int))))) fun(x18:List (List (Int)))=>
 if(Z.XGr s5.2.2.1 s5.2.2.2.2)then if(Z.EqN (Z.len ((Z.xrow (Z.len s5.2.2.2.1) x17)::([]:List (MixE (Int))))) 0)then Z.bind (zXh x16) fun(x23:List (Int))=>
 if(Z.Le (Z.addN 0 1) (Z.len ((1,(d0.2.2.1,(x9,(x23,()))))::([]:List ((Int)×((Int)×((Int)×((List (Int))×(Unit)))))))))then if(Z.Big (Z.len s5.2.1) (Z.len (Z.seg ((1,(d0.2.2.1,(x9,(x23,()))))::([]:List ((Int)×((Int)×((Int)×((List (Int))×(Unit))))))) 0 1)) 48)then none
 else if(Z.EqN (Z.len s5.2.1) (Z.len s5.2.1))then Z.bnd (Z.app s5.2.1 (Z.seg ((1,(d0.2.2.1,(x9,(x23,()))))::([]:List ((Int)×((Int)×((Int)×((List (Int))×(Unit))))))) 0 1)) fun(x30:List ((Int)×((Int)×((Int)×((List (Int))×(Unit))))))=>
 Z.bnd (Z.wrap .i64 (Z.add s5.1 1)) fun(x31:Int)=>
 if(Z.EqN (Z.len x30) (Z.len x30))then k6 (x31,(x30,(s5.2.2.1,(x18,s5.2.2.2.2))))
 else none
 else none
 else none
 else if(Z.Big (Z.xlen s5.2.2.2.2) (Z.len ((Z.xrow (Z.len s5.2.2.2.1) x17)::([]:List (MixE (Int))))) 24)then none
 else Z.bnd (Z.xapp s5.2.2.1 s5.2.2.2.2 ((Z.xrow (Z.len s5.2.2.2.1) x17)::([]:List (MixE (Int))))) fun(x36:List (List (MixE (Int))))=>
 Z.bnd (Z.wJa s5.2.2.2.2 (Z.len ((Z.xrow (Z.len s5.2.2.2.1) x17)::([]:List (MixE (Int)))))) fun(x37:MixE (MixE (Int)))=>
 Z.bind (zXh x16) fun(x38:List (Int))=>
 if(Z.Le (Z.addN 0 1) (Z.len ((1,(d0.2.2.1,(x9,(x38,()))))::([]:List ((Int)×((Int)×((Int)×((List (Int))×(Unit)))))))))then if(Z.Big (Z.len s5.2.1) (Z.len (Z.seg ((1,(d0.2.2.1,(x9,(x38,()))))::([]:List ((Int)×((Int)×((Int)×((List (Int))×(Unit))))))) 0 1)) 48)then none
 else if(Z.EqN (Z.len s5.2.1) (Z.len s5.2.1))then Z.bnd (Z.app s5.2.1 (Z.seg ((1,(d0.2.2.1,(x9,(x38,()))))::([]:List ((Int)×((Int)×((Int)×((List (Int))×(Unit))))))) 0 1)) fun(x45:List ((Int)×((Int)×((Int)×((List (Int))×(Unit))))))=>
 Z.bnd (Z.wrap .i64 (Z.add s5.1 1)) fun(x46:Int)=>
 if(Z.EqN (Z.len x45) (Z.len x45))then k6 (x46,(x45,(x36,(x18,x37))))
 else none
 else none
 else none
 else none
 else none
 else none
 else none
 else some ((s5.2.2.2.1,s5.2.2.1),(s5.2.2.2.2,(s5.2.1,0))))) (0,(([]:List ((Int)×((Int)×((Int)×((List (Int))×(Unit)))))),((([]:List (MixE (Int)))::([]:List (List (MixE (Int))))),(([]:List (List (Int))),(Z.xnew (α:=MixE (Int)) 0 0)))))
 else none))
def wWz:List LSpec×List Nat:=([],[8000000001])
def wW2:List LSpec×List Nat:=([{id:=1100,known:=true,toks:=[(2004000,(.pair (.int .u8) (.pair (.int .i64) (.pair (.int .i64) (.pair (.list (.int .u8)) .unit))))),(9000000,(.int .u8)),(7003000,(.mix 900000001 (.int .u8)))],items:=[.slot 29 (.val (.int .i64)), .cells 1000009 [.slt (.pair (.int .u8) (.pair (.int .i64) (.pair (.int .i64) (.pair (.list (.int .u8)) .unit)))) (some 2004000) false], .rows 2003000 (.mix 12003000 (.int .u8)), .rows 12003000 (.int .u8), .cells 1000008 [.val (.mix 2003000 (.mix 12003000 (.int .u8)))]],junk:=[30,31,32,14,33,34,35,36,37,38,39,40,41,42,43,44,45],tails:=[(2004000,2004000)]}],[])
def wWy:List LSpec×List Nat:=([{id:=4800,known:=false,toks:=[],items:=[],junk:=[],tails:=[]}],[9000000008])
def wWw:List LSpec×List Nat:=([],[5])
def wW0:List LSpec×List Nat:=([{id:=3700,known:=false,toks:=[],items:=[],junk:=[],tails:=[]}],[888888])
def wW1:List LSpec×List Nat:=([{id:=2800,known:=true,toks:=[(9000000,(.int .u8)),(9000000,(.mix 900000001 (.int .u8))),(7005000,(.mix 900000001 (.mix 900000002 (.int .u8))))],items:=[.slot 18 (.val (.int .i64)), .cells 1000004 [.val (.mix 2005000 (.mix 12005000 (.mix 22005000 (.int .u8))))], .rows 2005000 (.mix 12005000 (.mix 22005000 (.int .u8))), .rows 22005000 (.int .u8), .rows 12005000 (.mix 22005000 (.int .u8))],junk:=[19,20,21,22,5,6,23,24,25,26,27,28,29,30,31,32,33,34,35],tails:=[]}],[4000000001])
def wWx:List LSpec×List Nat:=([{id:=4900,known:=false,toks:=[],items:=[],junk:=[],tails:=[]}],[6000000006,9000000007])
def vQm:Tab (List LSpec×List Nat):=(.node (.node (.node (.node .leaf none (.node (.node .leaf (some wWz) .leaf) none .leaf)) none (.node .leaf (some wW2) .leaf)) none (.node (.node (.node .leaf none (.node .leaf (some wWx) .leaf)) none .leaf) none (.node (.node (.node .leaf (some wW0) .leaf) none .leaf) none .leaf))) none (.node (.node (.node (.node .leaf none (.node .leaf (some wWy) .leaf)) none .leaf) none (.node (.node (.node (.node .leaf (some wWw) .leaf) none .leaf) none .leaf) none (.node .leaf (some wW1) .leaf))) none .leaf))
def vQq(f:Nat):List LSpec×List Nat:=(vQm.get f).getD ([],[])
def yJv:RFn:={args:=[(.pair (.int .i64) (.pair (.int .i64) (.pair (.int .i64) (.pair (.int .i64) (.pair (.int .i64) (.pair (.int .i64) (.pair (.int .i64) (.pair (.int .i64) (.pair (.int .i64) .unit))))))))),(.pair (.list (.list (.list (.int .u8)))) .unit),(.int .i64),(.list (.int .i64))],objs:=[(.int .u8),(.mix 0 (.int .u8))],res:=[(.mix 1 (.mix 0 (.int .u8))),(.list (.pair (.int .u8) (.pair (.int .i64) (.pair (.int .i64) (.pair (.list (.int .u8)) .unit))))),(.int .i64)],fn:=yW7}
theorem xKj:OwnR Try.prog cfg 11 yJv:=fnR vQq [] (l:=[(16,yX1),(38,yQw),(40,zYv)]) (lo:=[(40,yZ5)]) (lr:=[]) zXj zQ2 (.cons yJz (.cons yZw (.cons yXl .nil))) (.cons xXh.1 .nil) .nil (fun d=>by kernel_rfl)
def zZk(d0:(Int)×((Int)×(Int))):Option (Bool):=
 (bif (Z.ige d0.1 d0.2.1)then some (Z.zQ3 true (Z.ile d0.1 d0.2.2) false)
 else some false)
def xZa:PFn:={args:=[(.int .i64),(.int .i64),(.int .i64)],res:=[.bool],fn:=zZk}
def uQg:List LSpec×List Nat:=([{id:=4800,known:=false,toks:=[],items:=[],junk:=[],tails:=[]}],[9000000008])
def uQe:List LSpec×List Nat:=([],[5])
def uQh:List LSpec×List Nat:=([{id:=2800,known:=true,toks:=[(9000000,(.int .u8)),(9000000,(.mix 900000001 (.int .u8))),(7005000,(.mix 900000001 (.mix 900000002 (.int .u8))))],items:=[.slot 18 (.val (.int .i64)), .cells 1000004 [.val (.mix 2005000 (.mix 12005000 (.mix 22005000 (.int .u8))))], .rows 2005000 (.mix 12005000 (.mix 22005000 (.int .u8))), .rows 22005000 (.int .u8), .rows 12005000 (.mix 22005000 (.int .u8))],junk:=[19,20,21,22,5,6,23,24,25,26,27,28,29,30,31,32,33,34,35],tails:=[]}],[4000000001])
def uQf:List LSpec×List Nat:=([{id:=4900,known:=false,toks:=[],items:=[],junk:=[],tails:=[]}],[6000000006,9000000007])
def spt75:Tab (List LSpec×List Nat):=(.node (.node .leaf none (.node (.node (.node .leaf none (.node .leaf (some uQf) .leaf)) none .leaf) none .leaf)) none (.node (.node (.node (.node .leaf none (.node .leaf (some uQg) .leaf)) none .leaf) none (.node (.node (.node (.node .leaf (some uQe) .leaf) none .leaf) none .leaf) none (.node .leaf (some uQh) .leaf))) none .leaf))
def spf75(f:Nat):List LSpec×List Nat:=(spt75.get f).getD ([],[])
theorem wW6:zW3 Try.prog cfg 75 xZa:=fnD spf75 (l:=[]) zXj zQ2 .nil (fun d=>by kernel_rfl)
def zK1(d0:(Int)×((Int)×((Int)×((Int)×((Int)×((Int)×((Int)×((Int)×((Int)×(Unit)))))))))):Option (Bool):=
 Z.bind (zZk (d0.1,(1,64))) fun(x1:Bool)=>
 (bif x1 then Z.bind (zZk (d0.2.1,(1,32))) fun(x2:Bool)=>
 (bif (Z.zQ3 true x2 false)then Z.bind (zZk (d0.2.2.1,(2,8))) fun(x3:Bool)=>
 (bif (Z.zQ3 true x3 false)then Z.bind (zZk (d0.2.2.2.1,(1,4))) fun(x4:Bool)=>
 (bif (Z.zQ3 true x4 false)then Z.bind (zZk (d0.2.2.2.2.1,(1,64))) fun(x5:Bool)=>
 (bif (Z.zQ3 true x5 false)then Z.bind (zZk (d0.2.2.2.2.2.1,(1,8))) fun(x6:Bool)=>
 (bif (Z.zQ3 true x6 false)then Z.bind (zZk (d0.2.2.2.2.2.2.1,(1,4))) fun(x7:Bool)=>
 (bif (Z.zQ3 true x7 false)then Z.bind (zZk (d0.2.2.2.2.2.2.2.1,(1,16))) fun(x8:Bool)=>
 (bif (Z.zQ3 true x8 false)then Z.bind (zZk (d0.2.2.2.2.2.2.2.2.1,(1,16))) fun(x9:Bool)=>
 some (Z.zQ3 true x9 false)
 else some false)
 else some false)
 else some false)
 else some false)
 else some false)
 else some false)
 else some false)
 else some false)
def yQt:PFn:={args:=[(.pair (.int .i64) (.pair (.int .i64) (.pair (.int .i64) (.pair (.int .i64) (.pair (.int .i64) (.pair (.int .i64) (.pair (.int .i64) (.pair (.int .i64) (.pair (.int .i64) .unit)))))))))],res:=[.bool],fn:=zK1}
def uQz:List LSpec×List Nat:=([{id:=4800,known:=false,toks:=[],items:=[],junk:=[],tails:=[]}],[9000000008])
def uQx:List LSpec×List Nat:=([],[5])
def uQ0:List LSpec×List Nat:=([{id:=2800,known:=true,toks:=[(9000000,(.int .u8)),(9000000,(.mix 900000001 (.int .u8))),(7005000,(.mix 900000001 (.mix 900000002 (.int .u8))))],items:=[.slot 18 (.val (.int .i64)), .cells 1000004 [.val (.mix 2005000 (.mix 12005000 (.mix 22005000 (.int .u8))))], .rows 2005000 (.mix 12005000 (.mix 22005000 (.int .u8))), .rows 22005000 (.int .u8), .rows 12005000 (.mix 22005000 (.int .u8))],junk:=[19,20,21,22,5,6,23,24,25,26,27,28,29,30,31,32,33,34,35],tails:=[]}],[4000000001])
def uQy:List LSpec×List Nat:=([{id:=4900,known:=false,toks:=[],items:=[],junk:=[],tails:=[]}],[6000000006,9000000007])
def spt67:Tab (List LSpec×List Nat):=(.node (.node .leaf none (.node (.node (.node .leaf none (.node .leaf (some uQy) .leaf)) none .leaf) none .leaf)) none (.node (.node (.node (.node .leaf none (.node .leaf (some uQz) .leaf)) none .leaf) none (.node (.node (.node (.node .leaf (some uQx) .leaf) none .leaf) none .leaf) none (.node .leaf (some uQ0) .leaf))) none .leaf))
def spf67(f:Nat):List LSpec×List Nat:=(spt67.get f).getD ([],[])
theorem yYj:zW3 Try.prog cfg 67 yQt:=fnD spf67 (l:=[(75,xZa)]) zXj zQ2 (.cons wW6 .nil) (fun d=>by kernel_rfl)
def zJ6(d0:Int):Option (Int):=
 Z.loop (fun(s1:(Int)×(Int)) k2=>
 (bif (Z.ilt s1.2 d0)then Z.bnd (Z.wrap .i64 (Z.mul 2 s1.1)) fun(x3:Int)=>
 Z.bnd (Z.wrap .i64 (Z.add s1.2 1)) fun(x4:Int)=>
 k2 (x3,x4)
 else some s1.1)) (1,0)
def yQu:PFn:={args:=[(.int .i64)],res:=[(.int .i64)],fn:=zJ6}
def uQ2:List LSpec×List Nat:=([{id:=6600,known:=true,toks:=[],items:=[.slot 3 (.val (.int .i64)), .slot 4 (.val (.int .i64))],junk:=[5,6,7,10,11,8,9],tails:=[]}],[])
def uQ4:List LSpec×List Nat:=([{id:=4800,known:=false,toks:=[],items:=[],junk:=[],tails:=[]}],[9000000008])
def uQ1:List LSpec×List Nat:=([],[5])
def uQ5:List LSpec×List Nat:=([{id:=2800,known:=true,toks:=[(9000000,(.int .u8)),(9000000,(.mix 900000001 (.int .u8))),(7005000,(.mix 900000001 (.mix 900000002 (.int .u8))))],items:=[.slot 18 (.val (.int .i64)), .cells 1000004 [.val (.mix 2005000 (.mix 12005000 (.mix 22005000 (.int .u8))))], .rows 2005000 (.mix 12005000 (.mix 22005000 (.int .u8))), .rows 22005000 (.int .u8), .rows 12005000 (.mix 22005000 (.int .u8))],junk:=[19,20,21,22,5,6,23,24,25,26,27,28,29,30,31,32,33,34,35],tails:=[]}],[4000000001])
def uQ3:List LSpec×List Nat:=([{id:=4900,known:=false,toks:=[],items:=[],junk:=[],tails:=[]}],[6000000006,9000000007])
def spt66:Tab (List LSpec×List Nat):=(.node (.node .leaf none (.node (.node (.node .leaf none (.node .leaf (some uQ3) .leaf)) none .leaf) none .leaf)) none (.node (.node (.node (.node .leaf none (.node .leaf (some uQ4) .leaf)) none .leaf) none (.node (.node (.node (.node .leaf (some uQ1) .leaf) none .leaf) none .leaf) none (.node .leaf (some uQ5) .leaf))) none (.node (.node (.node (.node (.node .leaf (some uQ2) .leaf) none .leaf) none .leaf) none .leaf) none .leaf)))
def spf66(f:Nat):List LSpec×List Nat:=(spt66.get f).getD ([],[])
theorem yZu:zW3 Try.prog cfg 66 yQu:=fnD spf66 (l:=[]) zXj zQ2 .nil (fun d=>by kernel_rfl)
def yWu(d0:Int):Option (Int):=
 Z.loop (fun(s1:Int) k2=>
 Z.bind (zJ6 s1) fun(x3:Int)=>
 (bif (Z.ilt x3 d0)then Z.bnd (Z.wrap .i64 (Z.add s1 1)) fun(x4:Int)=>
 k2 x4
 else some s1)) 1
def yJ3:PFn:={args:=[(.int .i64)],res:=[(.int .i64)],fn:=yWu}
def uQi:List LSpec×List Nat:=([{id:=7400,known:=true,toks:=[],items:=[.slot 3 (.val (.int .i64))],junk:=[4,5,6,7,8,9],tails:=[]}],[])
def uQl:List LSpec×List Nat:=([{id:=4800,known:=false,toks:=[],items:=[],junk:=[],tails:=[]}],[9000000008])
def uQj:List LSpec×List Nat:=([],[5])
def uQm:List LSpec×List Nat:=([{id:=2800,known:=true,toks:=[(9000000,(.int .u8)),(9000000,(.mix 900000001 (.int .u8))),(7005000,(.mix 900000001 (.mix 900000002 (.int .u8))))],items:=[.slot 18 (.val (.int .i64)), .cells 1000004 [.val (.mix 2005000 (.mix 12005000 (.mix 22005000 (.int .u8))))], .rows 2005000 (.mix 12005000 (.mix 22005000 (.int .u8))), .rows 22005000 (.int .u8), .rows 12005000 (.mix 22005000 (.int .u8))],junk:=[19,20,21,22,5,6,23,24,25,26,27,28,29,30,31,32,33,34,35],tails:=[]}],[4000000001])
def uQk:List LSpec×List Nat:=([{id:=4900,known:=false,toks:=[],items:=[],junk:=[],tails:=[]}],[6000000006,9000000007])
def spt74:Tab (List LSpec×List Nat):=(.node (.node .leaf none (.node (.node (.node .leaf none (.node .leaf (some uQk) .leaf)) none .leaf) none .leaf)) none (.node (.node (.node (.node .leaf none (.node .leaf (some uQl) .leaf)) none .leaf) none (.node (.node (.node (.node .leaf (some uQj) .leaf) none .leaf) none .leaf) none (.node .leaf (some uQm) .leaf))) none (.node (.node .leaf none (.node (.node (.node .leaf (some uQi) .leaf) none .leaf) none .leaf)) none .leaf)))
def spf74(f:Nat):List LSpec×List Nat:=(spt74.get f).getD ([],[])
theorem xKo:zW3 Try.prog cfg 74 yJ3:=fnD spf74 (l:=[(66,yQu)]) zXj zQ2 (.cons yZu .nil) (fun d=>by kernel_rfl)
def yQq(d0:(Int)×((Int)×((Int)×((Int)×((Int)×((Int)×((Int)×((Int)×((Int)×(Unit)))))))))):Option (List ((Int)×((Int)×((Int)×((Int)×(Unit)))))):=
 if(Z.EqN 0 (Z.len ([]:List ((Int)×((Int)×((Int)×((Int)×(Unit))))))))then Z.loop (fun(s3:(List ((Int)×((Int)×((Int)×((Int)×(Unit))))))×((Int)×(Int))) k4=>
 Z.bnd (Z.wrap .i64 (Z.add 8 s3.2.2)) fun(x5:Int)=>
 Z.bnd (Z.wrap .i64 (Z.mul d0.2.2.2.1 x5)) fun(x6:Int)=>
 Z.bnd (Z.wrap .i64 (Z.add x6 64)) fun(x7:Int)=>
 Z.bind (yWu s3.2.1) fun(x8:Int)=>
 if(Z.Le (Z.addN 0 1) (Z.len ((s3.2.1,(s3.2.2,(x8,(x7,()))))::([]:List ((Int)×((Int)×((Int)×((Int)×(Unit)))))))))then if(Z.Big (Z.len s3.1) (Z.len (Z.seg ((s3.2.1,(s3.2.2,(x8,(x7,()))))::([]:List ((Int)×((Int)×((Int)×((Int)×(Unit))))))) 0 1)) 32)then none
 else if(Z.EqN (Z.len s3.1) (Z.len s3.1))then Z.bnd (Z.app s3.1 (Z.seg ((s3.2.1,(s3.2.2,(x8,(x7,()))))::([]:List ((Int)×((Int)×((Int)×((Int)×(Unit))))))) 0 1)) fun(x15:List ((Int)×((Int)×((Int)×((Int)×(Unit))))))=>
 (bif (Z.ile s3.2.1 d0.2.2.2.2.2.2.2.2.1)then some x15
 else Z.bnd (Z.wrap .i64 (Z.add s3.2.1 d0.2.2.1)) fun(x16:Int)=>
 Z.bnd (Z.wrap .i64 (Z.sub x16 1)) fun(x17:Int)=>
 if(Z.IsZ d0.2.2.1)then none
 else Z.bnd (Z.wrap .i64 (Z.tdiv x17 d0.2.2.1)) fun(x20:Int)=>
 Z.bnd (Z.wrap .i64 (Z.mul 4 d0.2.2.1)) fun(x21:Int)=>
 if(Z.EqN (Z.len x15) (Z.len x15))then k4 (x15,(x20,x21))
 else none)
 else none
 else none) (([]:List ((Int)×((Int)×((Int)×((Int)×(Unit)))))),(d0.1,d0.2.1))
 else none
def yXz:PFn:={args:=[(.pair (.int .i64) (.pair (.int .i64) (.pair (.int .i64) (.pair (.int .i64) (.pair (.int .i64) (.pair (.int .i64) (.pair (.int .i64) (.pair (.int .i64) (.pair (.int .i64) .unit)))))))))],res:=[(.list (.pair (.int .i64) (.pair (.int .i64) (.pair (.int .i64) (.pair (.int .i64) .unit)))))],fn:=yQq}
def uQ7:List LSpec×List Nat:=([{id:=6500,known:=true,toks:=[(3,(.pair (.int .i64) (.pair (.int .i64) (.pair (.int .i64) (.pair (.int .i64) .unit)))))],items:=[.slot 3 (.slt (.pair (.int .i64) (.pair (.int .i64) (.pair (.int .i64) (.pair (.int .i64) .unit)))) (some 1000003) false), .slot 4 (.val (.int .i64)), .slot 5 (.val (.int .i64))],junk:=[10,11,12,13,14,15,16,17,18,19,20,21,22,23,24,25,26,27,28,2,29,30,31,32,33,34,35,36,37,38,39],tails:=[(1000003,3)]}],[])
def uQ9:List LSpec×List Nat:=([{id:=4800,known:=false,toks:=[],items:=[],junk:=[],tails:=[]}],[9000000008])
def uQ6:List LSpec×List Nat:=([],[5])
def uWa:List LSpec×List Nat:=([{id:=2800,known:=true,toks:=[(9000000,(.int .u8)),(9000000,(.mix 900000001 (.int .u8))),(7005000,(.mix 900000001 (.mix 900000002 (.int .u8))))],items:=[.slot 18 (.val (.int .i64)), .cells 1000004 [.val (.mix 2005000 (.mix 12005000 (.mix 22005000 (.int .u8))))], .rows 2005000 (.mix 12005000 (.mix 22005000 (.int .u8))), .rows 22005000 (.int .u8), .rows 12005000 (.mix 22005000 (.int .u8))],junk:=[19,20,21,22,5,6,23,24,25,26,27,28,29,30,31,32,33,34,35],tails:=[]}],[4000000001])
def uQ8:List LSpec×List Nat:=([{id:=4900,known:=false,toks:=[],items:=[],junk:=[],tails:=[]}],[6000000006,9000000007])
def spt65:Tab (List LSpec×List Nat):=(.node (.node .leaf none (.node (.node (.node (.node (.node .leaf (some uQ7) .leaf) none .leaf) none (.node .leaf (some uQ8) .leaf)) none .leaf) none .leaf)) none (.node (.node (.node (.node .leaf none (.node .leaf (some uQ9) .leaf)) none .leaf) none (.node (.node (.node (.node .leaf (some uQ6) .leaf) none .leaf) none .leaf) none (.node .leaf (some uWa) .leaf))) none .leaf))
def spf65(f:Nat):List LSpec×List Nat:=(spt65.get f).getD ([],[])
theorem yJx:zW3 Try.prog cfg 65 yXz:=fnD spf65 (l:=[(74,yJ3)]) zXj zQ2 (.cons xKo .nil) (fun d=>by kernel_rfl)
def yZq(d0:(Int)×((Int)×((Int)×((Int)×((Int)×((Int)×((Int)×((Int)×((Int)×(Unit)))))))))):Option (Bool):=
 Z.bind (zK1 (d0.1,(d0.2.1,(d0.2.2.1,(d0.2.2.2.1,(d0.2.2.2.2.1,(d0.2.2.2.2.2.1,(d0.2.2.2.2.2.2.1,(d0.2.2.2.2.2.2.2.1,(d0.2.2.2.2.2.2.2.2.1,())))))))))) fun(x1:Bool)=>
 (bif x1 then Z.bind (yQq (d0.1,(d0.2.1,(d0.2.2.1,(d0.2.2.2.1,(d0.2.2.2.2.1,(d0.2.2.2.2.2.1,(d0.2.2.2.2.2.2.1,(d0.2.2.2.2.2.2.2.1,(d0.2.2.2.2.2.2.2.2.1,())))))))))) fun(x2:List ((Int)×((Int)×((Int)×((Int)×(Unit))))))=>
 some (Z.zQ3 true (Z.ile (Z.ofN (Z.len x2)) 4) false)
 else some false)
def xQr:PFn:={args:=[(.pair (.int .i64) (.pair (.int .i64) (.pair (.int .i64) (.pair (.int .i64) (.pair (.int .i64) (.pair (.int .i64) (.pair (.int .i64) (.pair (.int .i64) (.pair (.int .i64) .unit)))))))))],res:=[.bool],fn:=yZq}
def uWr:List LSpec×List Nat:=([{id:=4800,known:=false,toks:=[],items:=[],junk:=[],tails:=[]}],[9000000008])
def uWp:List LSpec×List Nat:=([],[5])
def uWs:List LSpec×List Nat:=([{id:=2800,known:=true,toks:=[(9000000,(.int .u8)),(9000000,(.mix 900000001 (.int .u8))),(7005000,(.mix 900000001 (.mix 900000002 (.int .u8))))],items:=[.slot 18 (.val (.int .i64)), .cells 1000004 [.val (.mix 2005000 (.mix 12005000 (.mix 22005000 (.int .u8))))], .rows 2005000 (.mix 12005000 (.mix 22005000 (.int .u8))), .rows 22005000 (.int .u8), .rows 12005000 (.mix 22005000 (.int .u8))],junk:=[19,20,21,22,5,6,23,24,25,26,27,28,29,30,31,32,33,34,35],tails:=[]}],[4000000001])
def uWq:List LSpec×List Nat:=([{id:=4900,known:=false,toks:=[],items:=[],junk:=[],tails:=[]}],[6000000006,9000000007])
def spt50:Tab (List LSpec×List Nat):=(.node (.node .leaf none (.node (.node (.node .leaf none (.node .leaf (some uWq) .leaf)) none .leaf) none .leaf)) none (.node (.node (.node (.node .leaf none (.node .leaf (some uWr) .leaf)) none .leaf) none (.node (.node (.node (.node .leaf (some uWp) .leaf) none .leaf) none .leaf) none (.node .leaf (some uWs) .leaf))) none .leaf))
def spf50(f:Nat):List LSpec×List Nat:=(spt50.get f).getD ([],[])
theorem xYq:zW3 Try.prog cfg 50 xQr:=fnD spf50 (l:=[(67,yQt),(65,yXz)]) zXj zQ2 (.cons yYj (.cons yJx .nil)) (fun d=>by kernel_rfl)
def yQp(d0:((Int)×((Int)×((Int)×((Int)×((Int)×((Int)×((Int)×((Int)×((Int)×(Unit))))))))))×((List (List (List (Int))))×(Unit))):Option (Bool):=
 Z.bind (yZq (d0.1.1,(d0.1.2.1,(d0.1.2.2.1,(d0.1.2.2.2.1,(d0.1.2.2.2.2.1,(d0.1.2.2.2.2.2.1,(d0.1.2.2.2.2.2.2.1,(d0.1.2.2.2.2.2.2.2.1,(d0.1.2.2.2.2.2.2.2.2.1,())))))))))) fun(x1:Bool)=>
 (bif (Z.bnot x1)then some false
 else Z.bind (yQq (d0.1.1,(d0.1.2.1,(d0.1.2.2.1,(d0.1.2.2.2.1,(d0.1.2.2.2.2.1,(d0.1.2.2.2.2.2.1,(d0.1.2.2.2.2.2.2.1,(d0.1.2.2.2.2.2.2.2.1,(d0.1.2.2.2.2.2.2.2.2.1,())))))))))) fun(x2:List ((Int)×((Int)×((Int)×((Int)×(Unit))))))=>
 (bif (Z.ine (Z.ofN (Z.len d0.2.1)) (Z.ofN (Z.len x2)))then some false
 else Z.loop (fun(s3:Int) k4=>
 (bif (Z.ilt s3 (Z.ofN (Z.len x2)))then if(Z.Ix s3 (Z.len d0.2.1))then Z.bnd (Z.get d0.2.1 (Z.toN s3) ([]:List (List (Int)))) fun(x7:List (List (Int)))=>
 if(Z.Ix s3 (Z.len x2))then Z.bnd (Z.get x2 (Z.toN s3) (0,(0,(0,(0,()))))) fun(x10:(Int)×((Int)×((Int)×((Int)×(Unit)))))=>
 Z.bind (zJ6 x10.2.2.1) fun(x11:Int)=>
 Z.bnd (Z.wrap .i64 (Z.mul 2 x11)) fun(x12:Int)=>
 Z.bnd (Z.wrap .i64 (Z.sub x12 1)) fun(x13:Int)=>
 (bif (Z.ine (Z.ofN (Z.len x7)) x13)then some false
 else Z.loop (fun(s14:Int) k15=>
 if(Z.Ix s3 (Z.len d0.2.1))then Z.bnd (Z.get d0.2.1 (Z.toN s3) ([]:List (List (Int)))) fun(x18:List (List (Int)))=>
 (bif (Z.ilt s14 (Z.ofN (Z.len x18)))then if(Z.Ix s3 (Z.len d0.2.1))then Z.bnd (Z.get d0.2.1 (Z.toN s3) ([]:List (List (Int)))) fun(x21:List (List (Int)))=>
 if(Z.Ix s14 (Z.len x21))then Z.bnd (Z.get x21 (Z.toN s14) ([]:List (Int))) fun(x24:List (Int))=>
 if(Z.Ix s3 (Z.len x2))then Z.bnd (Z.get x2 (Z.toN s3) (0,(0,(0,(0,()))))) fun(x27:(Int)×((Int)×((Int)×((Int)×(Unit)))))=>
 Z.bnd (Z.wrap .i64 (Z.add 8 x27.2.2.2.1)) fun(x28:Int)=>
 (bif (Z.ine (Z.ofN (Z.len x24)) x28)then some false
 else Z.bnd (Z.wrap .i64 (Z.add s14 1)) fun(x29:Int)=>
 k15 x29)
 else none
 else none
 else none
 else Z.bnd (Z.wrap .i64 (Z.add s3 1)) fun(x30:Int)=>
 k4 x30)
 else none) 0)
 else none
 else none
 else some true)) 0))
def yXy:PFn:={args:=[(.pair (.int .i64) (.pair (.int .i64) (.pair (.int .i64) (.pair (.int .i64) (.pair (.int .i64) (.pair (.int .i64) (.pair (.int .i64) (.pair (.int .i64) (.pair (.int .i64) .unit))))))))),(.pair (.list (.list (.list (.int .u8)))) .unit)],res:=[.bool],fn:=yQp}
def uW9:List LSpec×List Nat:=([{id:=4600,known:=true,toks:=[],items:=[.slot 6 (.val (.int .i64))],junk:=[19,20,21,22,25,26,27,28,29,30,31,32,33,34,35,36,37,38,39,4,7,40,41,42,43,44,45,46,47,50,51,52,53,54,55,56,57,58,59,60,61,62,63,64,65,48,49,23,24],tails:=[]},{id:=4601,known:=true,toks:=[],items:=[.slot 7 (.val (.int .i64))],junk:=[40,41,42,43,44,45,46,47,50,51,52,53,54,55,56,57,58,59,60,61,62,63,64,65,4,48,49],tails:=[]}],[])
def uW8:List LSpec×List Nat:=([{id:=4800,known:=false,toks:=[],items:=[],junk:=[],tails:=[]}],[9000000008])
def uW6:List LSpec×List Nat:=([],[5])
def uXa:List LSpec×List Nat:=([{id:=2800,known:=true,toks:=[(9000000,(.int .u8)),(9000000,(.mix 900000001 (.int .u8))),(7005000,(.mix 900000001 (.mix 900000002 (.int .u8))))],items:=[.slot 18 (.val (.int .i64)), .cells 1000004 [.val (.mix 2005000 (.mix 12005000 (.mix 22005000 (.int .u8))))], .rows 2005000 (.mix 12005000 (.mix 22005000 (.int .u8))), .rows 22005000 (.int .u8), .rows 12005000 (.mix 22005000 (.int .u8))],junk:=[19,20,21,22,5,6,23,24,25,26,27,28,29,30,31,32,33,34,35],tails:=[]}],[4000000001])
def uW7:List LSpec×List Nat:=([{id:=4900,known:=false,toks:=[],items:=[],junk:=[],tails:=[]}],[6000000006,9000000007])
def spt46:Tab (List LSpec×List Nat):=(.node (.node .leaf none (.node (.node (.node .leaf none (.node .leaf (some uW7) .leaf)) none .leaf) none .leaf)) none (.node (.node (.node (.node .leaf none (.node .leaf (some uW8) .leaf)) none .leaf) none (.node (.node (.node (.node .leaf (some uW6) .leaf) none .leaf) none .leaf) none (.node .leaf (some uXa) .leaf))) none (.node .leaf none (.node .leaf none (.node (.node .leaf (some uW9) .leaf) none .leaf)))))
def spf46(f:Nat):List LSpec×List Nat:=(spt46.get f).getD ([],[])
theorem yJw:zW3 Try.prog cfg 46 yXy:=fnD spf46 (l:=[(50,xQr),(65,yXz),(66,yQu)]) zXj zQ2 (.cons xYq (.cons yJx (.cons yZu .nil))) (fun d=>by kernel_rfl)
def zK8(d0:((List (List (List (Int))))×(Unit))×((Int)×(List (Int)))):Option (Bool):=
 (bif (Z.ilt d0.2.1 0)then some false
 else(bif (Z.zQ3 false true (Z.ige d0.2.1 (Z.ofN (Z.len d0.1.1))))then some false
 else Z.loop (fun(s1:Int) k2=>
 (bif (Z.ilt s1 (Z.ofN (Z.len d0.2.2)))then if(Z.Ix s1 (Z.len d0.2.2))then Z.bnd (Z.get d0.2.2 (Z.toN s1) 0) fun(x5:Int)=>
 (bif (Z.ilt x5 1)then some false
 else if(Z.Ix s1 (Z.len d0.2.2))then Z.bnd (Z.get d0.2.2 (Z.toN s1) 0) fun(x8:Int)=>
 if(Z.Ix d0.2.1 (Z.len d0.1.1))then Z.bnd (Z.get d0.1.1 (Z.toN d0.2.1) ([]:List (List (Int)))) fun(x11:List (List (Int)))=>
 (bif (Z.zQ3 false true (Z.igt x8 (Z.ofN (Z.len x11))))then some false
 else Z.bnd (Z.wrap .i64 (Z.add s1 1)) fun(x12:Int)=>
 k2 x12)
 else none
 else none)
 else none
 else some true)) 0))
def zYt:PFn:={args:=[(.pair (.list (.list (.list (.int .u8)))) .unit),(.int .i64),(.list (.int .i64))],res:=[.bool],fn:=zK8}
def uW4:List LSpec×List Nat:=([{id:=4700,known:=true,toks:=[],items:=[.slot 7 (.val (.int .i64))],junk:=[17,18,19,20,23,24,25,26,27,28,29,30,31,32,33,34,35,36,37,38,39,40,6,21,22],tails:=[]}],[])
def uW3:List LSpec×List Nat:=([{id:=4800,known:=false,toks:=[],items:=[],junk:=[],tails:=[]}],[9000000008])
def uW1:List LSpec×List Nat:=([],[5])
def uW5:List LSpec×List Nat:=([{id:=2800,known:=true,toks:=[(9000000,(.int .u8)),(9000000,(.mix 900000001 (.int .u8))),(7005000,(.mix 900000001 (.mix 900000002 (.int .u8))))],items:=[.slot 18 (.val (.int .i64)), .cells 1000004 [.val (.mix 2005000 (.mix 12005000 (.mix 22005000 (.int .u8))))], .rows 2005000 (.mix 12005000 (.mix 22005000 (.int .u8))), .rows 22005000 (.int .u8), .rows 12005000 (.mix 22005000 (.int .u8))],junk:=[19,20,21,22,5,6,23,24,25,26,27,28,29,30,31,32,33,34,35],tails:=[]}],[4000000001])
def uW2:List LSpec×List Nat:=([{id:=4900,known:=false,toks:=[],items:=[],junk:=[],tails:=[]}],[6000000006,9000000007])
def spt47:Tab (List LSpec×List Nat):=(.node (.node (.node (.node (.node .leaf none (.node .leaf (some uW4) .leaf)) none .leaf) none .leaf) none (.node (.node (.node .leaf none (.node .leaf (some uW2) .leaf)) none .leaf) none .leaf)) none (.node (.node (.node (.node .leaf none (.node .leaf (some uW3) .leaf)) none .leaf) none (.node (.node (.node (.node .leaf (some uW1) .leaf) none .leaf) none .leaf) none (.node .leaf (some uW5) .leaf))) none .leaf))
def spf47(f:Nat):List LSpec×List Nat:=(spt47.get f).getD ([],[])
theorem yXj:zW3 Try.prog cfg 47 zYt:=fnD spf47 (l:=[]) zXj zQ2 .nil (fun d=>by kernel_rfl)
def yZo(d0:((List (List (List (Int))))×(Unit))×((Int)×(List (Int)))):Option ((List (List (Int)))×(List ((Int)×((Int)×((Int)×((List (Int))×(Unit))))))):=
 if(Z.EqN 0 (Z.len ([]:List (List (Int)))))then if(Z.EqN 0 (Z.len ([]:List ((Int)×((Int)×((Int)×((List (Int))×(Unit))))))))then Z.loop (fun(s5:(List (List (Int)))×((List ((Int)×((Int)×((Int)×((List (Int))×(Unit))))))×(Int))) k6=>
 (bif (Z.ilt s5.2.2 (Z.ofN (Z.len d0.2.2)))then if(Z.Ix d0.2.1 (Z.len d0.1.1))then Z.bnd (Z.get d0.1.1 (Z.toN d0.2.1) ([]:List (List (Int)))) fun(x9:List (List (Int)))=>
 if(Z.Ix s5.2.2 (Z.len d0.2.2))then Z.bnd (Z.get d0.2.2 (Z.toN s5.2.2) 0) fun(x12:Int)=>
 Z.bnd (Z.wrap .i64 (Z.sub x12 1)) fun(x13:Int)=>
 if(Z.Ix x13 (Z.len x9))then Z.bnd (Z.get x9 (Z.toN x13) ([]:List (Int))) fun(x16:List (Int))=>
 if(Z.Le (Z.addN 0 0) (Z.len ([]:List (Int))))then if(Z.Big (Z.len (Z.seg ([]:List (Int)) 0 0)) (Z.len x16) 1)then none
 else Z.bnd (Z.app (Z.seg ([]:List (Int)) 0 0) x16) fun(x21:List (Int))=>
 if(Z.Le (Z.addN 0 1) (Z.len (x21::([]:List (List (Int))))))then if(Z.Big (Z.len s5.1) (Z.len (Z.seg (x21::([]:List (List (Int)))) 0 1)) 24)then none
 else if(Z.EqN (Z.len s5.1) (Z.len s5.1))then Z.bnd (Z.app s5.1 (Z.seg (x21::([]:List (List (Int)))) 0 1)) fun(x28:List (List (Int)))=>
 if(Z.Ix s5.2.2 (Z.len d0.2.2))then Z.bnd (Z.get d0.2.2 (Z.toN s5.2.2) 0) fun(x31:Int)=>
 if(Z.Le (Z.addN 0 0) (Z.len ([]:List (Int))))then if(Z.EqN (Z.len x16) 0)then if(Z.Le (Z.addN 0 0) (Z.len ([]:List (Int))))then if(Z.Big (Z.len s5.2.1) (Z.len ((1,(d0.2.1,(x31,((Z.seg ([]:List (Int)) 0 0),()))))::([]:List ((Int)×((Int)×((Int)×((List (Int))×(Unit)))))))) 48)then none
 else if(Z.EqN (Z.len s5.2.1) (Z.len s5.2.1))then Z.bnd (Z.app s5.2.1 ((1,(d0.2.1,(x31,((Z.seg ([]:List (Int)) 0 0),()))))::([]:List ((Int)×((Int)×((Int)×((List (Int))×(Unit)))))))) fun(x42:List ((Int)×((Int)×((Int)×((List (Int))×(Unit))))))=>
 Z.bnd (Z.wrap .i64 (Z.add s5.2.2 1)) fun(x43:Int)=>
 if(Z.EqN (Z.len x28) (Z.len x28))then if(Z.EqN (Z.len x42) (Z.len x42))then k6 (x28,(x42,x43))
 else none
 else none
 else none
 else none
 else if(Z.Big (Z.len (Z.seg ([]:List (Int)) 0 0)) (Z.len x16) 1)then none
 else Z.bnd (Z.app (Z.seg ([]:List (Int)) 0 0) x16) fun(x50:List (Int))=>
 if(Z.Le (Z.addN 0 (Z.len x50)) (Z.len x50))then if(Z.Big (Z.len s5.2.1) (Z.len ((1,(d0.2.1,(x31,((Z.seg x50 0 (Z.len x50)),()))))::([]:List ((Int)×((Int)×((Int)×((List (Int))×(Unit)))))))) 48)then none
 else if(Z.EqN (Z.len s5.2.1) (Z.len s5.2.1))then Z.bnd (Z.app s5.2.1 ((1,(d0.2.1,(x31,((Z.seg x50 0 (Z.len x50)),()))))::([]:List ((Int)×((Int)×((Int)×((List (Int))×(Unit)))))))) fun(x57:List ((Int)×((Int)×((Int)×((List (Int))×(Unit))))))=>
 Z.bnd (Z.wrap .i64 (Z.add s5.2.2 1)) fun(x58:Int)=>
 if(Z.EqN (Z.len x28) (Z.len x28))then if(Z.EqN (Z.len x57) (Z.len x57))then k6 (x28,(x57,x58))
 else none
 else none
 else none
 else none
 else none
 else none
 else none
 else none
 else none
 else none
 else none
 else none
 else some (s5.1,s5.2.1))) (([]:List (List (Int))),(([]:List ((Int)×((Int)×((Int)×((List (Int))×(Unit)))))),0))
 else none
 else none
def xQq:PFn:={args:=[(.pair (.list (.list (.list (.int .u8)))) .unit),(.int .i64),(.list (.int .i64))],res:=[(.list (.list (.int .u8))),(.list (.pair (.int .u8) (.pair (.int .i64) (.pair (.int .i64) (.pair (.list (.int .u8)) .unit)))))],fn:=yZo}
def uWz:List LSpec×List Nat:=([{id:=4800,known:=true,toks:=[(8,(.list (.int .u8))),(9,(.pair (.int .u8) (.pair (.int .i64) (.pair (.int .i64) (.pair (.list (.int .u8)) .unit)))))],items:=[.slot 8 (.slt (.list (.int .u8)) (some 1000008) false), .slot 9 (.slt (.pair (.int .u8) (.pair (.int .i64) (.pair (.int .i64) (.pair (.list (.int .u8)) .unit)))) (some 1000009) false), .slot 10 (.val (.int .i64))],junk:=[12,13,14,15,18,19,20,21,22,23,24,25,26,27,28,29,11,30,31,32,33,34,35,36,37,38,39,40,41,42,43,44,45,46,47,16,17],tails:=[(1000008,8),(1000009,9)]}],[9000000008])
def uWx:List LSpec×List Nat:=([],[5])
def uW0:List LSpec×List Nat:=([{id:=2800,known:=true,toks:=[(9000000,(.int .u8)),(9000000,(.mix 900000001 (.int .u8))),(7005000,(.mix 900000001 (.mix 900000002 (.int .u8))))],items:=[.slot 18 (.val (.int .i64)), .cells 1000004 [.val (.mix 2005000 (.mix 12005000 (.mix 22005000 (.int .u8))))], .rows 2005000 (.mix 12005000 (.mix 22005000 (.int .u8))), .rows 22005000 (.int .u8), .rows 12005000 (.mix 22005000 (.int .u8))],junk:=[19,20,21,22,5,6,23,24,25,26,27,28,29,30,31,32,33,34,35],tails:=[]}],[4000000001])
def uWy:List LSpec×List Nat:=([{id:=4900,known:=false,toks:=[],items:=[],junk:=[],tails:=[]}],[6000000006,9000000007])
def spt48:Tab (List LSpec×List Nat):=(.node (.node .leaf none (.node (.node (.node .leaf none (.node .leaf (some uWy) .leaf)) none .leaf) none .leaf)) none (.node (.node (.node (.node .leaf none (.node .leaf (some uWz) .leaf)) none .leaf) none (.node (.node (.node (.node .leaf (some uWx) .leaf) none .leaf) none .leaf) none (.node .leaf (some uW0) .leaf))) none .leaf))
def spf48(f:Nat):List LSpec×List Nat:=(spt48.get f).getD ([],[])
theorem xYp:zW3 Try.prog cfg 48 xQq:=fnD spf48 (l:=[]) zXj zQ2 .nil (fun d=>by kernel_rfl)
def yWt(d0:((Int)×((Int)×((Int)×((Int)×((Int)×((Int)×((Int)×((Int)×((Int)×(Unit))))))))))×(((List (List (List (Int))))×(Unit))×((Int)×(List (Int))))):Option ((List (List (Int)))×((List ((Int)×((Int)×((Int)×((List (Int))×(Unit))))))×(Int))):=
 Z.bind (yQp ((d0.1.1,(d0.1.2.1,(d0.1.2.2.1,(d0.1.2.2.2.1,(d0.1.2.2.2.2.1,(d0.1.2.2.2.2.2.1,(d0.1.2.2.2.2.2.2.1,(d0.1.2.2.2.2.2.2.2.1,(d0.1.2.2.2.2.2.2.2.2.1,()))))))))),(d0.2.1.1,()))) fun(x1:Bool)=>
 (bif (Z.bnot x1)then some (([]:List (List (Int))),(([]:List ((Int)×((Int)×((Int)×((List (Int))×(Unit)))))),8))
 else Z.bind (zK8 ((d0.2.1.1,()),(d0.2.2.1,d0.2.2.2))) fun(x2:Bool)=>
 (bif (Z.bnot x2)then some (([]:List (List (Int))),(([]:List ((Int)×((Int)×((Int)×((List (Int))×(Unit)))))),2))
 else Z.bind (yZo ((d0.2.1.1,()),(d0.2.2.1,d0.2.2.2))) fun(x3:(List (List (Int)))×(List ((Int)×((Int)×((Int)×((List (Int))×(Unit)))))))=>
 some (x3.1,(x3.2,0))))
def yJ2:PFn:={args:=[(.pair (.int .i64) (.pair (.int .i64) (.pair (.int .i64) (.pair (.int .i64) (.pair (.int .i64) (.pair (.int .i64) (.pair (.int .i64) (.pair (.int .i64) (.pair (.int .i64) .unit))))))))),(.pair (.list (.list (.list (.int .u8)))) .unit),(.int .i64),(.list (.int .i64))],res:=[(.list (.list (.int .u8))),(.list (.pair (.int .u8) (.pair (.int .i64) (.pair (.int .i64) (.pair (.list (.int .u8)) .unit))))),(.int .i64)],fn:=yWt}
def uZg:List LSpec×List Nat:=([{id:=4800,known:=false,toks:=[],items:=[],junk:=[],tails:=[]}],[9000000008])
def uZe:List LSpec×List Nat:=([],[5])
def uZh:List LSpec×List Nat:=([{id:=2800,known:=true,toks:=[(9000000,(.int .u8)),(9000000,(.mix 900000001 (.int .u8))),(7005000,(.mix 900000001 (.mix 900000002 (.int .u8))))],items:=[.slot 18 (.val (.int .i64)), .cells 1000004 [.val (.mix 2005000 (.mix 12005000 (.mix 22005000 (.int .u8))))], .rows 2005000 (.mix 12005000 (.mix 22005000 (.int .u8))), .rows 22005000 (.int .u8), .rows 12005000 (.mix 22005000 (.int .u8))],junk:=[19,20,21,22,5,6,23,24,25,26,27,28,29,30,31,32,33,34,35],tails:=[]}],[4000000001])
def uZf:List LSpec×List Nat:=([{id:=4900,known:=false,toks:=[],items:=[],junk:=[],tails:=[]}],[6000000006,9000000007])
def spt21:Tab (List LSpec×List Nat):=(.node (.node .leaf none (.node (.node (.node .leaf none (.node .leaf (some uZf) .leaf)) none .leaf) none .leaf)) none (.node (.node (.node (.node .leaf none (.node .leaf (some uZg) .leaf)) none .leaf) none (.node (.node (.node (.node .leaf (some uZe) .leaf) none .leaf) none .leaf) none (.node .leaf (some uZh) .leaf))) none .leaf))
def spf21(f:Nat):List LSpec×List Nat:=(spt21.get f).getD ([],[])
theorem xKn:zW3 Try.prog cfg 21 yJ2:=fnD spf21 (l:=[(46,yXy),(47,zYt),(48,xQq)]) zXj zQ2 (.cons yJw (.cons yXj (.cons xYp .nil))) (fun d=>by kernel_rfl)
def zWj(d0:List (List (Int))):Option (List (Int)):=
 Z.loop (fun(s1:(Int)×(Int)) k2=>
 (bif (Z.ilt s1.2 (Z.ofN (Z.len d0)))then if(Z.Ix s1.2 (Z.len d0))then Z.bnd (Z.get d0 (Z.toN s1.2) ([]:List (Int))) fun(x5:List (Int))=>
 Z.bnd (Z.wrap .i64 (Z.add s1.1 (Z.ofN (Z.len x5)))) fun(x6:Int)=>
 (bif (Z.ilt x6 0)then none
 else Z.bnd (Z.wrap .i64 (Z.add s1.2 1)) fun(x7:Int)=>
 k2 (x6,x7))
 else none
 else(bif (Z.ilt s1.1 0)then none
 else Z.bnd (Z.wrap .i64 (Z.sub 0 0)) fun(x8:Int)=>
 Z.bnd (Z.wrap .i64 (Z.sub s1.1 x8)) fun(x9:Int)=>
 (bif (Z.igt x9 0)then if(Z.Bd 0 0)then if(Z.ZOk x9 1)then Z.bnd (Z.rep (α:=Int) (Z.toN x9) 0) fun(x14:List (Int))=>
 if(Z.EqN (Z.len x14) 0)then none
 else if(Z.Big (Z.len ([]:List (Int))) (Z.len x14) 1)then none
 else Z.bnd (Z.app ([]:List (Int)) x14) fun(x19:List (Int))=>
 if(Z.Bd 0 (Z.len x19))then if(Z.Lt 0 (Z.len x19))then if(Z.EqN (Z.subN (Z.toN 0) 0) 0)then if(Z.EqN 0 (Z.len ([]:List (Int))))then Z.loop (fun(s28:(List (Int))×(Int)) k29=>
 (bif (Z.ilt s28.2 (Z.ofN (Z.len d0)))then if(Z.Ix s28.2 (Z.len d0))then Z.bnd (Z.get d0 (Z.toN s28.2) ([]:List (Int))) fun(x32:List (Int))=>
 if(Z.Big (Z.len s28.1) (Z.len x32) 1)then none
 else if(Z.EqN (Z.len s28.1) (Z.len s28.1))then Z.bnd (Z.app s28.1 x32) fun(x37:List (Int))=>
 Z.bnd (Z.wrap .i64 (Z.add s28.2 1)) fun(x38:Int)=>
 if(Z.EqN (Z.len x37) (Z.len x37))then k29 (x37,x38)
 else none
 else none
 else none
 else if(Z.EqN (Z.len s28.1) (Z.len s28.1))then some s28.1
 else none)) (([]:List (Int)),0)
 else none
 else none
 else none
 else none
 else none
 else none
 else if(Z.EqN 0 (Z.len ([]:List (Int))))then Z.loop (fun(s45:(List (Int))×(Int)) k46=>
 (bif (Z.ilt s45.2 (Z.ofN (Z.len d0)))then if(Z.Ix s45.2 (Z.len d0))then Z.bnd (Z.get d0 (Z.toN s45.2) ([]:List (Int))) fun(x49:List (Int))=>
 if(Z.Big (Z.len s45.1) (Z.len x49) 1)then none
 else if(Z.EqN (Z.len s45.1) (Z.len s45.1))then Z.bnd (Z.app s45.1 x49) fun(x54:List (Int))=>
 Z.bnd (Z.wrap .i64 (Z.add s45.2 1)) fun(x55:Int)=>
 if(Z.EqN (Z.len x54) (Z.len x54))then k46 (x54,x55)
 else none
 else none
 else none
 else if(Z.EqN (Z.len s45.1) (Z.len s45.1))then some s45.1
 else none)) (([]:List (Int)),0)
 else none)))) (0,0)
def zZi:PFn:={args:=[(.list (.list (.int .u8)))],res:=[(.list (.int .u8))],fn:=zWj}
def uWn:List LSpec×List Nat:=([{id:=4800,known:=false,toks:=[],items:=[],junk:=[],tails:=[]}],[9000000008])
def uWk:List LSpec×List Nat:=([],[5])
def uWl:List LSpec×List Nat:=([{id:=5300,known:=true,toks:=[],items:=[.slot 3 (.val (.int .i64)), .slot 11 (.val (.int .i64))],junk:=[12,13,14,5,15,16,17,18,19,20,21,22],tails:=[]},{id:=5301,known:=true,toks:=[(6,(.int .u8))],items:=[.slot 6 (.slt (.int .u8) (some 1000006) false), .slot 27 (.val (.int .i64))],junk:=[28,29,30,8,31,32,33,34],tails:=[(1000006,6)]}],[])
def uWo:List LSpec×List Nat:=([{id:=2800,known:=true,toks:=[(9000000,(.int .u8)),(9000000,(.mix 900000001 (.int .u8))),(7005000,(.mix 900000001 (.mix 900000002 (.int .u8))))],items:=[.slot 18 (.val (.int .i64)), .cells 1000004 [.val (.mix 2005000 (.mix 12005000 (.mix 22005000 (.int .u8))))], .rows 2005000 (.mix 12005000 (.mix 22005000 (.int .u8))), .rows 22005000 (.int .u8), .rows 12005000 (.mix 22005000 (.int .u8))],junk:=[19,20,21,22,5,6,23,24,25,26,27,28,29,30,31,32,33,34,35],tails:=[]}],[4000000001])
def uWm:List LSpec×List Nat:=([{id:=4900,known:=false,toks:=[],items:=[],junk:=[],tails:=[]}],[6000000006,9000000007])
def spt53:Tab (List LSpec×List Nat):=(.node (.node .leaf none (.node (.node (.node .leaf none (.node .leaf (some uWm) .leaf)) none .leaf) none (.node (.node .leaf none (.node .leaf (some uWl) .leaf)) none .leaf))) none (.node (.node (.node (.node .leaf none (.node .leaf (some uWn) .leaf)) none .leaf) none (.node (.node (.node (.node .leaf (some uWk) .leaf) none .leaf) none .leaf) none (.node .leaf (some uWo) .leaf))) none .leaf))
def spf53(f:Nat):List LSpec×List Nat:=(spt53.get f).getD ([],[])
def zXg:OFn:={args:=[(.list (.list (.int .u8)))],ores:=[(.own (.int .u8))],fn:=zWj}
theorem zZh:OwnD Try.prog cfg 53 zXg∧zW3 Try.prog cfg 53 zXg.pfn:=fnO spf53 [] (l:=[]) (lo:=[]) zXj zQ2 .nil .nil (fun d=>by kernel_rfl)
theorem zJk:zW3 Try.prog cfg 53 zZi:=zZh.2
def yW6(d0:(List (List (List (Int))))×(Unit)):Option (((List (List (Int)))×((List (List (MixE (Int))))×(List (List (MixE (MixE (Int)))))))×((MixE (MixE (MixE (Int))))×(Unit))):=
 if(Z.MkOk (Z.ofN (Z.len d0.1)) (Z.ofN (Z.len d0.1)) 24)then Z.loop (fun(s3:(Int)×((List (MixE (Int)))×(List (List (Int))))) k4=>
 (bif (Z.ilt s3.1 (Z.ofN (Z.len d0.1)))then if(Z.Ix s3.1 (Z.len d0.1))then Z.bnd (Z.get d0.1 (Z.toN s3.1) ([]:List (List (Int)))) fun(x7:List (List (Int)))=>
 Z.loop (fun(s8:(Int)×((List (MixE (Int)))×(List (List (Int))))) k9=>
 (bif (Z.ilt s8.1 (Z.ofN (Z.len x7)))then if(Z.Ix s8.1 (Z.len x7))then Z.bnd (Z.get x7 (Z.toN s8.1) ([]:List (Int))) fun(x12:List (Int))=>
 if(Z.In s3.1 (Z.toN (Z.ofN (Z.len d0.1))))then if(Z.Lt (Z.addN 0 (Z.toN s3.1)) (Z.len s8.2.1))then Z.bnd (Z.get s8.2.1 (Z.addN 0 (Z.toN s3.1)) (MixE.nil:MixE (Int))) fun(x17:MixE (Int))=>
 if(Z.Le (Z.addN 0 1) (Z.len ((Z.ofN (Z.len x12))::([]:List (Int)))))then if(Z.XGr s8.2.2 x17)then if(Z.EqN (Z.len (Z.seg ((Z.ofN (Z.len x12))::([]:List (Int))) 0 1)) 0)then if(Z.In s3.1 (Z.toN (Z.ofN (Z.len d0.1))))then if(Z.Lt (Z.addN 0 (Z.toN s3.1)) (Z.len s8.2.1))then Z.bnd (Z.set s8.2.1 (Z.addN 0 (Z.toN s3.1)) x17) fun(x28:List (MixE (Int)))=>
 Z.bnd (Z.wrap .i64 (Z.add s8.1 1)) fun(x29:Int)=>
 k9 (x29,(x28,s8.2.2))
 else none
 else none
 else if(Z.Big (Z.xlen x17) (Z.len (Z.seg ((Z.ofN (Z.len x12))::([]:List (Int))) 0 1)) 8)then none
 else Z.bnd (Z.xapp s8.2.2 x17 (Z.seg ((Z.ofN (Z.len x12))::([]:List (Int))) 0 1)) fun(x32:List (List (Int)))=>
 Z.bnd (Z.wJa x17 (Z.len (Z.seg ((Z.ofN (Z.len x12))::([]:List (Int))) 0 1))) fun(x33:MixE (Int))=>
 if(Z.In s3.1 (Z.toN (Z.ofN (Z.len d0.1))))then if(Z.Lt (Z.addN 0 (Z.toN s3.1)) (Z.len s8.2.1))then Z.bnd (Z.set s8.2.1 (Z.addN 0 (Z.toN s3.1)) x33) fun(x38:List (MixE (Int)))=>
 Z.bnd (Z.wrap .i64 (Z.add s8.1 1)) fun(x39:Int)=>
 k9 (x39,(x38,x32))
 else none
 else none
 else none
 else none
 else none
 else none
 else none
 else Z.bnd (Z.wrap .i64 (Z.add s3.1 1)) fun(x40:Int)=>
 k4 (x40,(s8.2.1,s8.2.2)))) (0,(s3.2.1,s3.2.2))
 else none
 else Z.loop (fun(s41:(Int)×((MixE (MixE (MixE (Int))))×((List (List (MixE (MixE (Int)))))×((List (List (Int)))×(List (List (MixE (Int)))))))) k42=>
 (bif (Z.ilt s41.1 (Z.ofN (Z.len d0.1)))then if(Z.Ix s41.1 (Z.len d0.1))then Z.bnd (Z.get d0.1 (Z.toN s41.1) ([]:List (List (Int)))) fun(x45:List (List (Int)))=>
 if(Z.In s41.1 (Z.toN (Z.ofN (Z.len d0.1))))then if(Z.Lt (Z.addN 0 (Z.toN s41.1)) (Z.len s3.2.1))then Z.bnd (Z.get s3.2.1 (Z.addN 0 (Z.toN s41.1)) (MixE.nil:MixE (Int))) fun(x50:MixE (Int))=>
 Z.bind (zWj x45) fun(x51:List (Int))=>
 Z.bnd (Z.app s41.2.2.2.1 (x51::([]:List (List (Int))))) fun(x52:List (List (Int)))=>
 if(Z.MkOk (Z.ofN (Z.xlen x50)) (Z.ofN (Z.xlen x50)) 24)then Z.bind (Z.mapO (fun(e55:List (Int))=>
 some (Z.yXs e55)) (Z.rep (α:=List (Int)) (Z.toN (Z.ofN (Z.xlen x50))) ([]:List (Int)))) fun(x56:List (MixE (Int)))=>
 Z.loop (fun(s57:(List (MixE (Int)))×((Int)×(Int))) k58=>
 (bif (Z.ilt s57.2.2 (Z.ofN (Z.xlen x50)))then if(Z.Ix s57.2.2 (Z.xlen x50))then if(Z.XPt s3.2.2 x50 (Z.toN s57.2.2))then if(Z.XPt s3.2.2 x50 (Z.toN s57.2.2))then Z.bnd (Z.xat s3.2.2 x50 (Z.toN s57.2.2) 0) fun(x65:Int)=>
 Z.bnd (Z.wrap .i64 (Z.add s57.2.1 x65)) fun(x66:Int)=>
 Z.bnd (Z.wrap .i64 (Z.add s57.2.1 x65)) fun(x67:Int)=>
 if(Z.XCut x52 (Z.xrow (Z.len s41.2.2.2.1) x51))then if(Z.Bd x67 (Z.xlen (Z.xrow (Z.len s41.2.2.2.1) x51)))then if(Z.Bd x66 (Z.toN x67))then if(Z.Bd s57.2.1 (Z.toN x66))then Z.bnd (Z.xcut (Z.xrow (Z.len s41.2.2.2.1) x51) (Z.toN s57.2.1) (Z.toN x66)) fun(x76:MixE (Int))=>
 if(Z.In s57.2.2 (Z.toN (Z.ofN (Z.xlen x50))))then if(Z.Lt (Z.addN 0 (Z.toN s57.2.2)) (Z.len s57.1))then Z.bnd (Z.set s57.1 (Z.addN 0 (Z.toN s57.2.2)) x76) fun(x81:List (MixE (Int)))=>
 Z.bnd (Z.wrap .i64 (Z.add s57.2.1 x65)) fun(x82:Int)=>
 Z.bnd (Z.wrap .i64 (Z.add s57.2.2 1)) fun(x83:Int)=>
 k58 (x81,(x82,x83))
 else none
 else none
 else none
 else none
 else none
 else none
 else none
 else none
 else none
 else if(Z.EqN 0 0)then if(Z.EqN (Z.toN (Z.ofN (Z.xlen x50))) (Z.len s57.1))then Z.bnd (Z.app s41.2.2.2.2 (s57.1::([]:List (List (MixE (Int)))))) fun(x88:List (List (MixE (Int))))=>
 if(Z.XGr s41.2.2.1 s41.2.1)then if(Z.EqN (Z.len ((Z.xnew (α:=MixE (Int)) (Z.len s41.2.2.2.2) (Z.toN (Z.ofN (Z.xlen x50))))::([]:List (MixE (MixE (Int)))))) 0)then Z.bnd (Z.wrap .i64 (Z.add s41.1 1)) fun(x93:Int)=>
 k42 (x93,(s41.2.1,(s41.2.2.1,(x52,x88))))
 else if(Z.Big (Z.xlen s41.2.1) (Z.len ((Z.xnew (α:=MixE (Int)) (Z.len s41.2.2.2.2) (Z.toN (Z.ofN (Z.xlen x50))))::([]:List (MixE (MixE (Int)))))) 24)then none
 else Z.bnd (Z.xapp s41.2.2.1 s41.2.1 ((Z.xnew (α:=MixE (Int)) (Z.len s41.2.2.2.2) (Z.toN (Z.ofN (Z.xlen x50))))::([]:List (MixE (MixE (Int)))))) fun(x96:List (List (MixE (MixE (Int)))))=>
 Z.bnd (Z.wJa s41.2.1 (Z.len ((Z.xnew (α:=MixE (Int)) (Z.len s41.2.2.2.2) (Z.toN (Z.ofN (Z.xlen x50))))::([]:List (MixE (MixE (Int))))))) fun(x97:MixE (MixE (MixE (Int))))=>
 Z.bnd (Z.wrap .i64 (Z.add s41.1 1)) fun(x98:Int)=>
 k42 (x98,(x97,(x96,(x52,x88))))
 else none
 else none
 else none)) (x56,(0,0))
 else none
 else none
 else none
 else none
 else some ((s41.2.2.2.1,(s41.2.2.2.2,s41.2.2.1)),(s41.2.1,())))) (0,((Z.xnew (α:=MixE (MixE (Int))) 0 0),((([]:List (MixE (MixE (Int))))::([]:List (List (MixE (MixE (Int)))))),(([]:List (List (Int))),([]:List (List (MixE (Int)))))))))) (0,((Z.wQ2 (α:=Int) (Z.toN (Z.ofN (Z.len d0.1)))),(Z.rep (α:=List (Int)) (Z.toN (Z.ofN (Z.len d0.1))) ([]:List (Int)))))
 else none
def wWe:List LSpec×List Nat:=([{id:=4400,known:=true,toks:=[],items:=[.slot 11 (.val (.int .i64)), .vec 2004000 (.mix 3 (.int .i64)), .rows 3 (.int .i64)],junk:=[12,13,14,15,5,6,16,17,18,19,20,21,8,22,23,24,25,26,4,27,28],tails:=[]},{id:=4401,known:=true,toks:=[],items:=[.slot 18 (.val (.int .i64)), .vec 2004000 (.mix 3 (.int .i64)), .rows 3 (.int .i64)],junk:=[19,20,21,8,22,23,24,25,26,4,27],tails:=[]}],[])
def wWf:List LSpec×List Nat:=([],[8000000001])
def wWd:List LSpec×List Nat:=([{id:=4800,known:=false,toks:=[],items:=[],junk:=[],tails:=[]}],[9000000008])
def wWb:List LSpec×List Nat:=([],[5])
def wWg:List LSpec×List Nat:=([{id:=3700,known:=true,toks:=[(5500005,(.mix 1000000 (.int .u8)))],items:=[.vec 1000005 (.mix 1000000 (.int .u8)), .slot 6 (.val (.int .i64)), .slot 14 (.val (.int .i64))],junk:=[15,16,17,18,7,8,19,20,21,22,23,24,25,26,27,28,29,30,31,32,33,34],tails:=[]}],[888888])
def wWh:List LSpec×List Nat:=([{id:=2800,known:=true,toks:=[(9000000,(.int .u8)),(9000000,(.mix 900000001 (.int .u8))),(7005000,(.mix 900000001 (.mix 900000002 (.int .u8))))],items:=[.slot 18 (.val (.int .i64)), .cells 1000004 [.val (.mix 2005000 (.mix 12005000 (.mix 22005000 (.int .u8))))], .rows 2005000 (.mix 12005000 (.mix 22005000 (.int .u8))), .rows 22005000 (.int .u8), .rows 12005000 (.mix 22005000 (.int .u8))],junk:=[19,20,21,22,5,6,23,24,25,26,27,28,29,30,31,32,33,34,35],tails:=[]}],[4000000001])
def wWc:List LSpec×List Nat:=([{id:=4900,known:=false,toks:=[],items:=[],junk:=[],tails:=[]}],[6000000006,9000000007])
def vQj:Tab (List LSpec×List Nat):=(.node (.node (.node (.node .leaf none (.node (.node .leaf (some wWf) .leaf) none .leaf)) none .leaf) none (.node (.node (.node .leaf none (.node .leaf (some wWc) .leaf)) none .leaf) none (.node (.node (.node .leaf (some wWg) .leaf) none .leaf) none .leaf))) none (.node (.node (.node (.node .leaf none (.node .leaf (some wWd) .leaf)) none .leaf) none (.node (.node (.node (.node .leaf (some wWb) .leaf) none .leaf) none .leaf) none (.node (.node .leaf (some wWe) .leaf) (some wWh) .leaf))) none .leaf))
def vQn(f:Nat):List LSpec×List Nat:=(vQj.get f).getD ([],[])
def yJu:RFn:={args:=[(.pair (.list (.list (.list (.int .u8)))) .unit)],objs:=[(.int .u8),(.mix 0 (.int .u8)),(.mix 1 (.mix 0 (.int .u8)))],res:=[(.pair (.mix 2 (.mix 1 (.mix 0 (.int .u8)))) .unit)],fn:=yW6}
theorem xKi:OwnR Try.prog cfg 28 yJu:=fnR vQn [] (l:=[(53,zZi)]) (lo:=[(53,zXg)]) (lr:=[]) zXj zQ2 (.cons zJk .nil) (.cons zZh.1 .nil) .nil (fun d=>by kernel_rfl)
def zY6(d0:((Int)×((Int)×((Int)×((Int)×((Int)×((Int)×((Int)×((Int)×((Int)×(Unit))))))))))×(((List (List (List (Int))))×(Unit))×((Int)×((List (Int))×(List (List (Int))))))):Option (((List (List (Int)))×((List (List (MixE (Int))))×(List (List (MixE (MixE (Int)))))))×(((MixE (MixE (MixE (Int))))×(Unit))×((List ((Int)×((Int)×((Int)×((List (Int))×(Unit))))))×(Int)))):=
 Z.bind (yWi ((d0.1.1,(d0.1.2.1,(d0.1.2.2.1,(d0.1.2.2.2.1,(d0.1.2.2.2.2.1,(d0.1.2.2.2.2.2.1,(d0.1.2.2.2.2.2.2.1,(d0.1.2.2.2.2.2.2.2.1,(d0.1.2.2.2.2.2.2.2.2.1,()))))))))),(d0.2.1.1,()))) fun(x1:Int)=>
 (bif (Z.ine x1 0)then some ((([]:List (List (Int))),(([]:List (List (MixE (Int)))),([]:List (List (MixE (MixE (Int))))))),(((Z.xnil (α:=MixE (MixE (Int)))),()),(([]:List ((Int)×((Int)×((Int)×((List (Int))×(Unit)))))),x1)))
 else Z.bind (zYd ((d0.2.1.1,()),(d0.2.2.1,d0.2.2.2.1))) fun(x2:Bool)=>
 (bif (Z.bnot x2)then some ((([]:List (List (Int))),(([]:List (List (MixE (Int)))),([]:List (List (MixE (MixE (Int))))))),(((Z.xnil (α:=MixE (MixE (Int)))),()),(([]:List ((Int)×((Int)×((Int)×((List (Int))×(Unit)))))),2)))
 else(bif (Z.zQ3 false true (Z.ine (Z.ofN (Z.len d0.2.2.2.2)) (Z.ofN (Z.len d0.2.2.2.1))))then some ((([]:List (List (Int))),(([]:List (List (MixE (Int)))),([]:List (List (MixE (MixE (Int))))))),(((Z.xnil (α:=MixE (MixE (Int)))),()),(([]:List ((Int)×((Int)×((Int)×((List (Int))×(Unit)))))),2)))
 else Z.loop (fun(s3:Int) k4=>
 (bif (Z.ilt s3 (Z.ofN (Z.len d0.2.2.2.1)))then if(Z.Ix s3 (Z.len d0.2.2.2.1))then Z.bnd (Z.get d0.2.2.2.1 (Z.toN s3) 0) fun(x7:Int)=>
 if(Z.Ix s3 (Z.len d0.2.2.2.2))then Z.bnd (Z.get d0.2.2.2.2 (Z.toN s3) ([]:List (Int))) fun(x10:List (Int))=>
 if(Z.Ix d0.2.2.1 (Z.len d0.2.1.1))then Z.bnd (Z.get d0.2.1.1 (Z.toN d0.2.2.1) ([]:List (List (Int)))) fun(x13:List (List (Int)))=>
 Z.bnd (Z.wrap .i64 (Z.sub x7 1)) fun(x14:Int)=>
 if(Z.Ix x14 (Z.len x13))then Z.bnd (Z.get x13 (Z.toN x14) ([]:List (Int))) fun(x17:List (Int))=>
 (bif (Z.ine (Z.ofN (Z.len x10)) (Z.ofN (Z.len x17)))then some ((([]:List (List (Int))),(([]:List (List (MixE (Int)))),([]:List (List (MixE (MixE (Int))))))),(((Z.xnil (α:=MixE (MixE (Int)))),()),(([]:List ((Int)×((Int)×((Int)×((List (Int))×(Unit)))))),2)))
 else Z.bnd (Z.wrap .i64 (Z.add s3 1)) fun(x18:Int)=>
 k4 x18)
 else none
 else none
 else none
 else none
 else Z.bind (yW6 (d0.2.1.1,())) fun(x19:((List (List (Int)))×((List (List (MixE (Int))))×(List (List (MixE (MixE (Int)))))))×((MixE (MixE (MixE (Int))))×(Unit)))=>
 if(Z.EqN 0 (Z.len ([]:List ((Int)×((Int)×((Int)×((List (Int))×(Unit))))))))then Z.loop (fun(s22:(Int)×((List ((Int)×((Int)×((Int)×((List (Int))×(Unit))))))×(List (List (Int))))) k23=>
 (bif (Z.ilt s22.1 (Z.ofN (Z.len d0.2.2.2.1)))then if(Z.Ix s22.1 (Z.len d0.2.2.2.1))then Z.bnd (Z.get d0.2.2.2.1 (Z.toN s22.1) 0) fun(x26:Int)=>
 if(Z.Ix s22.1 (Z.len d0.2.2.2.2))then Z.bnd (Z.get d0.2.2.2.2 (Z.toN s22.1) ([]:List (Int))) fun(x29:List (Int))=>
 if(Z.Ix d0.2.2.1 (Z.xlen x19.2.1))then if(Z.XPt x19.1.2.2 x19.2.1 (Z.toN d0.2.2.1))then if(Z.XPt x19.1.2.2 x19.2.1 (Z.toN d0.2.2.1))then Z.bnd (Z.xat x19.1.2.2 x19.2.1 (Z.toN d0.2.2.1) (MixE.nil:MixE (MixE (Int)))) fun(x36:MixE (MixE (Int)))=>
 Z.bnd (Z.wrap .i64 (Z.sub x26 1)) fun(x37:Int)=>
 if(Z.Ix x37 (Z.xlen x36))then if(Z.XPt x19.1.2.1 x36 (Z.toN x37))then if(Z.XPt x19.1.2.1 x36 (Z.toN x37))then Z.bnd (Z.xat x19.1.2.1 x36 (Z.toN x37) (MixE.nil:MixE (Int))) fun(x44:MixE (Int))=>
 if(Z.XW s22.2.2 x44)then Z.bnd (Z.xput s22.2.2 x44 (Z.take (Z.minN (Z.len x29) (Z.xlen x44)) x29)) fun(x47:List (List (Int)))=>
 Z.bind (zXh x29) fun(x48:List (Int))=>
 if(Z.Le (Z.addN 0 1) (Z.len ((2,(d0.2.2.1,(x26,(x48,()))))::([]:List ((Int)×((Int)×((Int)×((List (Int))×(Unit)))))))))then if(Z.Big (Z.len s22.2.1) (Z.len (Z.seg ((2,(d0.2.2.1,(x26,(x48,()))))::([]:List ((Int)×((Int)×((Int)×((List (Int))×(Unit))))))) 0 1)) 48)then none
 else if(Z.EqN (Z.len s22.2.1) (Z.len s22.2.1))then Z.bnd (Z.app s22.2.1 (Z.seg ((2,(d0.2.2.1,(x26,(x48,()))))::([]:List ((Int)×((Int)×((Int)×((List (Int))×(Unit))))))) 0 1)) fun(x55:List ((Int)×((Int)×((Int)×((List (Int))×(Unit))))))=>
 Z.bnd (Z.wrap .i64 (Z.add s22.1 1)) fun(x56:Int)=>
 if(Z.EqN (Z.len x55) (Z.len x55))then k23 (x56,(x55,x47))
 else none
 else none
 else none
 else none
 else none
 else none
 else none
 else none
 else none
 else none
 else none
 else none
 else some ((s22.2.2,(x19.1.2.1,x19.1.2.2)),((x19.2.1,()),(s22.2.1,0))))) (0,(([]:List ((Int)×((Int)×((Int)×((List (Int))×(Unit)))))),x19.1.1))
 else none)) 0)))
def wWs:List LSpec×List Nat:=([],[8000000001])
def wWr:List LSpec×List Nat:=([{id:=4800,known:=false,toks:=[],items:=[],junk:=[],tails:=[]}],[9000000008])
def wWp:List LSpec×List Nat:=([],[5])
def wWt:List LSpec×List Nat:=([{id:=3700,known:=false,toks:=[],items:=[],junk:=[],tails:=[]}],[888888])
def wWu:List LSpec×List Nat:=([{id:=2800,known:=true,toks:=[(9000000,(.int .u8)),(9000000,(.mix 900000001 (.int .u8))),(7005000,(.mix 900000001 (.mix 900000002 (.int .u8))))],items:=[.slot 18 (.val (.int .i64)), .cells 1000004 [.val (.mix 2005000 (.mix 12005000 (.mix 22005000 (.int .u8))))], .rows 2005000 (.mix 12005000 (.mix 22005000 (.int .u8))), .rows 22005000 (.int .u8), .rows 12005000 (.mix 22005000 (.int .u8))],junk:=[19,20,21,22,5,6,23,24,25,26,27,28,29,30,31,32,33,34,35],tails:=[]}],[4000000001])
def wWv:List LSpec×List Nat:=([{id:=1200,known:=true,toks:=[],items:=[.slot 41 (.val (.int .i64))],junk:=[42,43,44,45,14,15,46,47,48,49,50,51,52,53,54,55,56,57,58,59,60,61,62,12,63],tails:=[]},{id:=1201,known:=true,toks:=[(2004000,(.pair (.int .u8) (.pair (.int .i64) (.pair (.int .i64) (.pair (.list (.int .u8)) .unit)))))],items:=[.slot 69 (.val (.int .i64)), .cells 1000011 [.slt (.pair (.int .u8) (.pair (.int .i64) (.pair (.int .i64) (.pair (.list (.int .u8)) .unit)))) (some 2004000) false], .rows 23010000 (.int .u8)],junk:=[70,71,72,73,17,18,74,75,76,77,78,79,80,81],tails:=[(2004000,2004000)]}],[])
def wWq:List LSpec×List Nat:=([{id:=4900,known:=false,toks:=[],items:=[],junk:=[],tails:=[]}],[6000000006,9000000007])
def vQl:Tab (List LSpec×List Nat):=(.node (.node (.node (.node .leaf none (.node (.node .leaf (some wWs) .leaf) none .leaf)) none .leaf) none (.node (.node (.node .leaf none (.node .leaf (some wWq) .leaf)) none .leaf) none (.node (.node (.node .leaf (some wWt) .leaf) none .leaf) none .leaf))) none (.node (.node (.node (.node .leaf none (.node .leaf (some wWr) .leaf)) none .leaf) none (.node (.node (.node (.node .leaf (some wWp) .leaf) none .leaf) none .leaf) (some wWv) (.node .leaf (some wWu) .leaf))) none .leaf))
def vQp(f:Nat):List LSpec×List Nat:=(vQl.get f).getD ([],[])
def yZs:RFn:={args:=[(.pair (.int .i64) (.pair (.int .i64) (.pair (.int .i64) (.pair (.int .i64) (.pair (.int .i64) (.pair (.int .i64) (.pair (.int .i64) (.pair (.int .i64) (.pair (.int .i64) .unit))))))))),(.pair (.list (.list (.list (.int .u8)))) .unit),(.int .i64),(.list (.int .i64)),(.list (.list (.int .u8)))],objs:=[(.int .u8),(.mix 0 (.int .u8)),(.mix 1 (.mix 0 (.int .u8)))],res:=[(.pair (.mix 2 (.mix 1 (.mix 0 (.int .u8)))) .unit),(.list (.pair (.int .u8) (.pair (.int .i64) (.pair (.int .i64) (.pair (.list (.int .u8)) .unit))))),(.int .i64)],fn:=zY6}
theorem xW7:OwnR Try.prog cfg 12 yZs:=fnR vQp [] (l:=[(16,yX1),(38,yQw),(40,zYv)]) (lo:=[]) (lr:=[(28,yJu)]) zXj zQ2 (.cons yJz (.cons yZw (.cons yXl .nil))) .nil (.cons xKi .nil) (fun d=>by kernel_rfl)
def yZn(d0:((List (List (List (Int))))×(Unit))×((Int)×((List (Int))×(List (List (Int)))))):Option (((List (List (List (Int))))×(Unit))×(List ((Int)×((Int)×((Int)×((List (Int))×(Unit))))))):=
 Z.bind (zJp (d0.1.1,())) fun(x1:((List (List (List (Int))))×(List (List (MixE (List (Int))))))×((MixE (MixE (List (Int))))×(Unit)))=>
 if(Z.EqN 0 (Z.len ([]:List ((Int)×((Int)×((Int)×((List (Int))×(Unit))))))))then Z.loop (fun(s4:(List ((Int)×((Int)×((Int)×((List (Int))×(Unit))))))×((Int)×(List (List (List (Int)))))) k5=>
 (bif (Z.ilt s4.2.1 (Z.ofN (Z.len d0.2.2.1)))then if(Z.Ix d0.2.1 (Z.xlen x1.2.1))then if(Z.XPt x1.1.2 x1.2.1 (Z.toN d0.2.1))then if(Z.XPt x1.1.2 x1.2.1 (Z.toN d0.2.1))then Z.bnd (Z.xat x1.1.2 x1.2.1 (Z.toN d0.2.1) (MixE.nil:MixE (List (Int)))) fun(x12:MixE (List (Int)))=>
 if(Z.Ix s4.2.1 (Z.len d0.2.2.1))then Z.bnd (Z.get d0.2.2.1 (Z.toN s4.2.1) 0) fun(x15:Int)=>
 Z.bnd (Z.wrap .i64 (Z.sub x15 1)) fun(x16:Int)=>
 if(Z.Ix s4.2.1 (Z.len d0.2.2.2))then Z.bnd (Z.get d0.2.2.2 (Z.toN s4.2.1) ([]:List (Int))) fun(x19:List (Int))=>
 if(Z.Le (Z.addN 0 0) (Z.len ([]:List (Int))))then if(Z.Big (Z.len (Z.seg ([]:List (Int)) 0 0)) (Z.len x19) 1)then none
 else Z.bnd (Z.app (Z.seg ([]:List (Int)) 0 0) x19) fun(x24:List (Int))=>
 if(Z.Ix x16 (Z.xlen x12))then if(Z.XPt s4.2.2 x12 (Z.toN x16))then if(Z.XPt s4.2.2 x12 (Z.toN x16))then Z.bnd (Z.xset s4.2.2 x12 (Z.toN x16) x24) fun(x31:List (List (List (Int))))=>
 if(Z.Ix s4.2.1 (Z.len d0.2.2.1))then Z.bnd (Z.get d0.2.2.1 (Z.toN s4.2.1) 0) fun(x34:Int)=>
 if(Z.Ix s4.2.1 (Z.len d0.2.2.2))then Z.bnd (Z.get d0.2.2.2 (Z.toN s4.2.1) ([]:List (Int))) fun(x37:List (Int))=>
 if(Z.Le (Z.addN 0 0) (Z.len ([]:List (Int))))then if(Z.EqN (Z.len x37) 0)then if(Z.Le (Z.addN 0 0) (Z.len ([]:List (Int))))then if(Z.Big (Z.len s4.1) (Z.len ((2,(d0.2.1,(x34,((Z.seg ([]:List (Int)) 0 0),()))))::([]:List ((Int)×((Int)×((Int)×((List (Int))×(Unit)))))))) 48)then none
 else if(Z.EqN (Z.len s4.1) (Z.len s4.1))then Z.bnd (Z.app s4.1 ((2,(d0.2.1,(x34,((Z.seg ([]:List (Int)) 0 0),()))))::([]:List ((Int)×((Int)×((Int)×((List (Int))×(Unit)))))))) fun(x48:List ((Int)×((Int)×((Int)×((List (Int))×(Unit))))))=>
 Z.bnd (Z.wrap .i64 (Z.add s4.2.1 1)) fun(x49:Int)=>
 if(Z.EqN (Z.len x48) (Z.len x48))then k5 (x48,(x49,x31))
 else none
 else none
 else none
 else if(Z.Big (Z.len (Z.seg ([]:List (Int)) 0 0)) (Z.len x37) 1)then none
 else Z.bnd (Z.app (Z.seg ([]:List (Int)) 0 0) x37) fun(x54:List (Int))=>
 if(Z.Le (Z.addN 0 (Z.len x54)) (Z.len x54))then if(Z.Big (Z.len s4.1) (Z.len ((2,(d0.2.1,(x34,((Z.seg x54 0 (Z.len x54)),()))))::([]:List ((Int)×((Int)×((Int)×((List (Int))×(Unit)))))))) 48)then none
 else if(Z.EqN (Z.len s4.1) (Z.len s4.1))then Z.bnd (Z.app s4.1 ((2,(d0.2.1,(x34,((Z.seg x54 0 (Z.len x54)),()))))::([]:List ((Int)×((Int)×((Int)×((List (Int))×(Unit)))))))) fun(x61:List ((Int)×((Int)×((Int)×((List (Int))×(Unit))))))=>
 Z.bnd (Z.wrap .i64 (Z.add s4.2.1 1)) fun(x62:Int)=>
 if(Z.EqN (Z.len x61) (Z.len x61))then k5 (x61,(x62,x31))
 else none
 else none
 else none
 else none
 else none
 else none
 else none
 else none
 else none
 else none
 else none
 else none
 else none
 else none
 else none
 else if(Z.XOk x1.1.2 x1.2.1)then Z.bind (Z.mapO (fun(e67:MixE (List (Int)))=>
 if(Z.XOk s4.2.2 e67)then Z.bnd (Z.xget s4.2.2 e67) fun(x70:List (List (Int)))=>
 some x70
 else none) (Z.xget x1.1.2 x1.2.1)) fun(x71:List (List (List (Int))))=>
 some ((x71,()),s4.1)
 else none)) (([]:List ((Int)×((Int)×((Int)×((List (Int))×(Unit)))))),(0,x1.1.1))
 else none
def xQp:PFn:={args:=[(.pair (.list (.list (.list (.int .u8)))) .unit),(.int .i64),(.list (.int .i64)),(.list (.list (.int .u8)))],res:=[(.pair (.list (.list (.list (.int .u8)))) .unit),(.list (.pair (.int .u8) (.pair (.int .i64) (.pair (.int .i64) (.pair (.list (.int .u8)) .unit)))))],fn:=yZn}
def uWv:List LSpec×List Nat:=([{id:=4800,known:=false,toks:=[],items:=[],junk:=[],tails:=[]}],[9000000008])
def uWt:List LSpec×List Nat:=([],[5])
def uWw:List LSpec×List Nat:=([{id:=2800,known:=true,toks:=[(9000000,(.int .u8)),(9000000,(.mix 900000001 (.int .u8))),(7005000,(.mix 900000001 (.mix 900000002 (.int .u8))))],items:=[.slot 18 (.val (.int .i64)), .cells 1000004 [.val (.mix 2005000 (.mix 12005000 (.mix 22005000 (.int .u8))))], .rows 2005000 (.mix 12005000 (.mix 22005000 (.int .u8))), .rows 22005000 (.int .u8), .rows 12005000 (.mix 22005000 (.int .u8))],junk:=[19,20,21,22,5,6,23,24,25,26,27,28,29,30,31,32,33,34,35],tails:=[]}],[4000000001])
def uWu:List LSpec×List Nat:=([{id:=4900,known:=true,toks:=[(11,(.pair (.int .u8) (.pair (.int .i64) (.pair (.int .i64) (.pair (.list (.int .u8)) .unit)))))],items:=[.slot 11 (.slt (.pair (.int .u8) (.pair (.int .i64) (.pair (.int .i64) (.pair (.list (.int .u8)) .unit)))) (some 1000011) false), .slot 12 (.val (.int .i64)), .rows 13010000 (.list (.int .u8))],junk:=[15,16,17,18,21,22,23,24,25,26,27,28,29,30,31,32,33,34,35,36,37,38,39,40,41,42,43,44,45,46,47,48,49,50,51,52,19,20],tails:=[(1000011,11)]}],[6000000006,9000000007])
def spt49:Tab (List LSpec×List Nat):=(.node (.node .leaf none (.node (.node (.node .leaf none (.node .leaf (some uWu) .leaf)) none .leaf) none .leaf)) none (.node (.node (.node (.node .leaf none (.node .leaf (some uWv) .leaf)) none .leaf) none (.node (.node (.node (.node .leaf (some uWt) .leaf) none .leaf) none .leaf) none (.node .leaf (some uWw) .leaf))) none .leaf))
def spf49(f:Nat):List LSpec×List Nat:=(spt49.get f).getD ([],[])
theorem xYo:zW3 Try.prog cfg 49 xQp:=fnDr spf49 [] (l:=[]) (lo:=[]) (lr:=[(19,yXi)]) zXj zQ2 .nil .nil (.cons xQk .nil) (fun d=>by kernel_rfl)
def zYn(d0:((Int)×((Int)×((Int)×((Int)×((Int)×((Int)×((Int)×((Int)×((Int)×(Unit))))))))))×(((List (List (List (Int))))×(Unit))×((Int)×((List (Int))×(List (List (Int))))))):Option (((List (List (List (Int))))×(Unit))×((List ((Int)×((Int)×((Int)×((List (Int))×(Unit))))))×(Int))):=
 Z.bind (yQp ((d0.1.1,(d0.1.2.1,(d0.1.2.2.1,(d0.1.2.2.2.1,(d0.1.2.2.2.2.1,(d0.1.2.2.2.2.2.1,(d0.1.2.2.2.2.2.2.1,(d0.1.2.2.2.2.2.2.2.1,(d0.1.2.2.2.2.2.2.2.2.1,()))))))))),(d0.2.1.1,()))) fun(x1:Bool)=>
 (bif (Z.bnot x1)then some ((([]:List (List (List (Int)))),()),(([]:List ((Int)×((Int)×((Int)×((List (Int))×(Unit)))))),8))
 else Z.bind (zK8 ((d0.2.1.1,()),(d0.2.2.1,d0.2.2.2.1))) fun(x2:Bool)=>
 (bif (Z.bnot x2)then some ((([]:List (List (List (Int)))),()),(([]:List ((Int)×((Int)×((Int)×((List (Int))×(Unit)))))),2))
 else(bif (Z.zQ3 false true (Z.ine (Z.ofN (Z.len d0.2.2.2.2)) (Z.ofN (Z.len d0.2.2.2.1))))then some ((([]:List (List (List (Int)))),()),(([]:List ((Int)×((Int)×((Int)×((List (Int))×(Unit)))))),2))
 else Z.loop (fun(s3:Int) k4=>
 (bif (Z.ilt s3 (Z.ofN (Z.len d0.2.2.2.2)))then if(Z.Ix s3 (Z.len d0.2.2.2.2))then Z.bnd (Z.get d0.2.2.2.2 (Z.toN s3) ([]:List (Int))) fun(x7:List (Int))=>
 if(Z.Ix d0.2.2.1 (Z.len d0.2.1.1))then Z.bnd (Z.get d0.2.1.1 (Z.toN d0.2.2.1) ([]:List (List (Int)))) fun(x10:List (List (Int)))=>
 if(Z.Ix 0 (Z.len x10))then Z.bnd (Z.get x10 (Z.toN 0) ([]:List (Int))) fun(x13:List (Int))=>
 (bif (Z.ine (Z.ofN (Z.len x7)) (Z.ofN (Z.len x13)))then some ((([]:List (List (List (Int)))),()),(([]:List ((Int)×((Int)×((Int)×((List (Int))×(Unit)))))),2))
 else Z.bnd (Z.wrap .i64 (Z.add s3 1)) fun(x14:Int)=>
 k4 x14)
 else none
 else none
 else none
 else Z.bind (yZn ((d0.2.1.1,()),(d0.2.2.1,(d0.2.2.2.1,d0.2.2.2.2)))) fun(x15:((List (List (List (Int))))×(Unit))×(List ((Int)×((Int)×((Int)×((List (Int))×(Unit)))))))=>
 some ((x15.1.1,()),(x15.2,0)))) 0)))
def yZy:PFn:={args:=[(.pair (.int .i64) (.pair (.int .i64) (.pair (.int .i64) (.pair (.int .i64) (.pair (.int .i64) (.pair (.int .i64) (.pair (.int .i64) (.pair (.int .i64) (.pair (.int .i64) .unit))))))))),(.pair (.list (.list (.list (.int .u8)))) .unit),(.int .i64),(.list (.int .i64)),(.list (.list (.int .u8)))],res:=[(.pair (.list (.list (.list (.int .u8)))) .unit),(.list (.pair (.int .u8) (.pair (.int .i64) (.pair (.int .i64) (.pair (.list (.int .u8)) .unit))))),(.int .i64)],fn:=zYn}
def uZb:List LSpec×List Nat:=([{id:=4800,known:=false,toks:=[],items:=[],junk:=[],tails:=[]}],[9000000008])
def uX9:List LSpec×List Nat:=([],[5])
def uZc:List LSpec×List Nat:=([{id:=2800,known:=true,toks:=[(9000000,(.int .u8)),(9000000,(.mix 900000001 (.int .u8))),(7005000,(.mix 900000001 (.mix 900000002 (.int .u8))))],items:=[.slot 18 (.val (.int .i64)), .cells 1000004 [.val (.mix 2005000 (.mix 12005000 (.mix 22005000 (.int .u8))))], .rows 2005000 (.mix 12005000 (.mix 22005000 (.int .u8))), .rows 22005000 (.int .u8), .rows 12005000 (.mix 22005000 (.int .u8))],junk:=[19,20,21,22,5,6,23,24,25,26,27,28,29,30,31,32,33,34,35],tails:=[]}],[4000000001])
def uZa:List LSpec×List Nat:=([{id:=4900,known:=false,toks:=[],items:=[],junk:=[],tails:=[]}],[6000000006,9000000007])
def uZd:List LSpec×List Nat:=([{id:=2200,known:=true,toks:=[],items:=[.slot 13 (.val (.int .i64))],junk:=[34,35,36,37,40,41,42,43,44,45,46,47,48,49,50,51,52,53,54,11,12,38,39],tails:=[]}],[])
def spt22:Tab (List LSpec×List Nat):=(.node (.node .leaf none (.node (.node (.node .leaf none (.node .leaf (some uZa) .leaf)) none .leaf) none .leaf)) none (.node (.node (.node (.node .leaf none (.node .leaf (some uZb) .leaf)) none .leaf) none (.node (.node (.node (.node .leaf (some uX9) .leaf) none .leaf) none .leaf) none (.node .leaf (some uZc) .leaf))) none (.node .leaf none (.node (.node .leaf (some uZd) .leaf) none .leaf))))
def spf22(f:Nat):List LSpec×List Nat:=(spt22.get f).getD ([],[])
theorem xXa:zW3 Try.prog cfg 22 yZy:=fnD spf22 (l:=[(46,yXy),(47,zYt),(49,xQp)]) zXj zQ2 (.cons yJw (.cons yXj (.cons xYo .nil))) (fun d=>by kernel_rfl)
def zJ7(d0:(List (Int))×(List (Int))):Option (Bool):=
 Z.bnd (Z.str d0.1) fun(x1:List (UInt8))=>
 Z.bnd (Z.str d0.2) fun(x2:List (UInt8))=>
 some (Z.seq x1 x2)
def yQv:PFn:={args:=[(.list (.int .u8)),(.list (.int .u8))],res:=[.bool],fn:=zJ7}
def uXs:List LSpec×List Nat:=([{id:=4800,known:=false,toks:=[],items:=[],junk:=[],tails:=[]}],[9000000008])
def uXq:List LSpec×List Nat:=([],[5])
def uXt:List LSpec×List Nat:=([{id:=2800,known:=true,toks:=[(9000000,(.int .u8)),(9000000,(.mix 900000001 (.int .u8))),(7005000,(.mix 900000001 (.mix 900000002 (.int .u8))))],items:=[.slot 18 (.val (.int .i64)), .cells 1000004 [.val (.mix 2005000 (.mix 12005000 (.mix 22005000 (.int .u8))))], .rows 2005000 (.mix 12005000 (.mix 22005000 (.int .u8))), .rows 22005000 (.int .u8), .rows 12005000 (.mix 22005000 (.int .u8))],junk:=[19,20,21,22,5,6,23,24,25,26,27,28,29,30,31,32,33,34,35],tails:=[]}],[4000000001])
def uXr:List LSpec×List Nat:=([{id:=4900,known:=false,toks:=[],items:=[],junk:=[],tails:=[]}],[6000000006,9000000007])
def spt34:Tab (List LSpec×List Nat):=(.node (.node .leaf none (.node (.node (.node .leaf none (.node .leaf (some uXr) .leaf)) none .leaf) none .leaf)) none (.node (.node (.node (.node .leaf none (.node .leaf (some uXs) .leaf)) none .leaf) none (.node (.node (.node (.node .leaf (some uXq) .leaf) none .leaf) none .leaf) none (.node .leaf (some uXt) .leaf))) none .leaf))
def spf34(f:Nat):List LSpec×List Nat:=(spt34.get f).getD ([],[])
theorem yZv:zW3 Try.prog cfg 34 yQv:=fnD spf34 (l:=[]) zXj zQ2 .nil (fun d=>by kernel_rfl)
def zZa(d0:(List (List (Int)))×(List (List (Int)))):Option (Bool):=
 (bif (Z.ine (Z.ofN (Z.len d0.1)) (Z.ofN (Z.len d0.2)))then some false
 else Z.loop (fun(s1:Int) k2=>
 (bif (Z.ilt s1 (Z.ofN (Z.len d0.1)))then if(Z.Ix s1 (Z.len d0.1))then Z.bnd (Z.get d0.1 (Z.toN s1) ([]:List (Int))) fun(x5:List (Int))=>
 if(Z.Ix s1 (Z.len d0.2))then Z.bnd (Z.get d0.2 (Z.toN s1) ([]:List (Int))) fun(x8:List (Int))=>
 Z.bind (zJ7 (x5,x8)) fun(x9:Bool)=>
 (bif (Z.bnot x9)then some false
 else Z.bnd (Z.wrap .i64 (Z.add s1 1)) fun(x10:Int)=>
 k2 x10)
 else none
 else none
 else some true)) 0)
def zJa:PFn:={args:=[(.list (.list (.int .u8))),(.list (.list (.int .u8)))],res:=[.bool],fn:=zZa}
def uX6:List LSpec×List Nat:=([{id:=4800,known:=false,toks:=[],items:=[],junk:=[],tails:=[]}],[9000000008])
def uX4:List LSpec×List Nat:=([],[5])
def uX7:List LSpec×List Nat:=([{id:=2800,known:=true,toks:=[(9000000,(.int .u8)),(9000000,(.mix 900000001 (.int .u8))),(7005000,(.mix 900000001 (.mix 900000002 (.int .u8))))],items:=[.slot 18 (.val (.int .i64)), .cells 1000004 [.val (.mix 2005000 (.mix 12005000 (.mix 22005000 (.int .u8))))], .rows 2005000 (.mix 12005000 (.mix 22005000 (.int .u8))), .rows 22005000 (.int .u8), .rows 12005000 (.mix 22005000 (.int .u8))],junk:=[19,20,21,22,5,6,23,24,25,26,27,28,29,30,31,32,33,34,35],tails:=[]}],[4000000001])
def uX5:List LSpec×List Nat:=([{id:=4900,known:=false,toks:=[],items:=[],junk:=[],tails:=[]}],[6000000006,9000000007])
def uX8:List LSpec×List Nat:=([{id:=2300,known:=true,toks:=[],items:=[.slot 5 (.val (.int .i64))],junk:=[11,12,13,14,17,18,19,20,21,22,23,24,25,26,4,15,16],tails:=[]}],[])
def spt23:Tab (List LSpec×List Nat):=(.node (.node (.node (.node .leaf none (.node .leaf (some uX8) .leaf)) none .leaf) none (.node (.node (.node .leaf none (.node .leaf (some uX5) .leaf)) none .leaf) none .leaf)) none (.node (.node (.node (.node .leaf none (.node .leaf (some uX6) .leaf)) none .leaf) none (.node (.node (.node (.node .leaf (some uX4) .leaf) none .leaf) none .leaf) none (.node .leaf (some uX7) .leaf))) none .leaf))
def spf23(f:Nat):List LSpec×List Nat:=(spt23.get f).getD ([],[])
theorem yQf:zW3 Try.prog cfg 23 zJa:=fnD spf23 (l:=[(34,yQv)]) zXj zQ2 (.cons yZv .nil) (fun d=>by kernel_rfl)
def zXf(d0:(List ((Int)×((Int)×((Int)×((List (Int))×(Unit))))))×(List ((Int)×((Int)×((Int)×((List (Int))×(Unit))))))):Option (Bool):=
 (bif (Z.ine (Z.ofN (Z.len d0.1)) (Z.ofN (Z.len d0.2)))then some false
 else Z.loop (fun(s1:Int) k2=>
 (bif (Z.ilt s1 (Z.ofN (Z.len d0.1)))then if(Z.Ix s1 (Z.len d0.1))then Z.bnd (Z.get d0.1 (Z.toN s1) (0,(0,(0,(([]:List (Int)),()))))) fun(x5:(Int)×((Int)×((Int)×((List (Int))×(Unit)))))=>
 if(Z.Ix s1 (Z.len d0.2))then Z.bnd (Z.get d0.2 (Z.toN s1) (0,(0,(0,(([]:List (Int)),()))))) fun(x8:(Int)×((Int)×((Int)×((List (Int))×(Unit)))))=>
 (bif (Z.ine x5.1 x8.1)then some false
 else if(Z.Ix s1 (Z.len d0.1))then Z.bnd (Z.get d0.1 (Z.toN s1) (0,(0,(0,(([]:List (Int)),()))))) fun(x11:(Int)×((Int)×((Int)×((List (Int))×(Unit)))))=>
 if(Z.Ix s1 (Z.len d0.2))then Z.bnd (Z.get d0.2 (Z.toN s1) (0,(0,(0,(([]:List (Int)),()))))) fun(x14:(Int)×((Int)×((Int)×((List (Int))×(Unit)))))=>
 (bif (Z.zQ3 false true (Z.ine x11.2.1 x14.2.1))then some false
 else if(Z.Ix s1 (Z.len d0.1))then Z.bnd (Z.get d0.1 (Z.toN s1) (0,(0,(0,(([]:List (Int)),()))))) fun(x17:(Int)×((Int)×((Int)×((List (Int))×(Unit)))))=>
 if(Z.Ix s1 (Z.len d0.2))then Z.bnd (Z.get d0.2 (Z.toN s1) (0,(0,(0,(([]:List (Int)),()))))) fun(x20:(Int)×((Int)×((Int)×((List (Int))×(Unit)))))=>
 (bif (Z.zQ3 false true (Z.ine x17.2.2.1 x20.2.2.1))then some false
 else if(Z.Ix s1 (Z.len d0.1))then Z.bnd (Z.get d0.1 (Z.toN s1) (0,(0,(0,(([]:List (Int)),()))))) fun(x23:(Int)×((Int)×((Int)×((List (Int))×(Unit)))))=>
 if(Z.Ix s1 (Z.len d0.2))then Z.bnd (Z.get d0.2 (Z.toN s1) (0,(0,(0,(([]:List (Int)),()))))) fun(x26:(Int)×((Int)×((Int)×((List (Int))×(Unit)))))=>
 Z.bind (zJ7 (x23.2.2.2.1,x26.2.2.2.1)) fun(x27:Bool)=>
 (bif (Z.zQ3 false true (Z.bnot x27))then some false
 else Z.bnd (Z.wrap .i64 (Z.add s1 1)) fun(x28:Int)=>
 k2 x28)
 else none
 else none)
 else none
 else none)
 else none
 else none)
 else none
 else none
 else some true)) 0)
def yQg:PFn:={args:=[(.list (.pair (.int .u8) (.pair (.int .i64) (.pair (.int .i64) (.pair (.list (.int .u8)) .unit))))),(.list (.pair (.int .u8) (.pair (.int .i64) (.pair (.int .i64) (.pair (.list (.int .u8)) .unit)))))],res:=[.bool],fn:=zXf}
def uX1:List LSpec×List Nat:=([{id:=4800,known:=false,toks:=[],items:=[],junk:=[],tails:=[]}],[9000000008])
def uXz:List LSpec×List Nat:=([],[5])
def uX2:List LSpec×List Nat:=([{id:=2800,known:=true,toks:=[(9000000,(.int .u8)),(9000000,(.mix 900000001 (.int .u8))),(7005000,(.mix 900000001 (.mix 900000002 (.int .u8))))],items:=[.slot 18 (.val (.int .i64)), .cells 1000004 [.val (.mix 2005000 (.mix 12005000 (.mix 22005000 (.int .u8))))], .rows 2005000 (.mix 12005000 (.mix 22005000 (.int .u8))), .rows 22005000 (.int .u8), .rows 12005000 (.mix 22005000 (.int .u8))],junk:=[19,20,21,22,5,6,23,24,25,26,27,28,29,30,31,32,33,34,35],tails:=[]}],[4000000001])
def uX0:List LSpec×List Nat:=([{id:=4900,known:=false,toks:=[],items:=[],junk:=[],tails:=[]}],[6000000006,9000000007])
def uX3:List LSpec×List Nat:=([{id:=2400,known:=true,toks:=[],items:=[.slot 5 (.val (.int .i64))],junk:=[11,12,13,14,17,18,19,20,21,22,23,24,25,26,27,28,29,30,31,32,33,34,35,36,37,38,39,40,41,42,43,44,45,46,47,48,49,50,51,52,53,54,55,56,57,58,59,60,61,62,63,64,65,66,67,4,15,16],tails:=[]}],[])
def spt24:Tab (List LSpec×List Nat):=(.node (.node .leaf none (.node (.node (.node .leaf none (.node .leaf (some uX0) .leaf)) none .leaf) none .leaf)) none (.node (.node (.node (.node .leaf none (.node .leaf (some uX1) .leaf)) none (.node .leaf (some uX3) .leaf)) none (.node (.node (.node (.node .leaf (some uXz) .leaf) none .leaf) none .leaf) none (.node .leaf (some uX2) .leaf))) none .leaf))
def spf24(f:Nat):List LSpec×List Nat:=(spt24.get f).getD ([],[])
theorem yK0:zW3 Try.prog cfg 24 yQg:=fnD spf24 (l:=[(34,yQv)]) zXj zQ2 (.cons yZv .nil) (fun d=>by kernel_rfl)
def zJ5(d0:((List (List (List (Int))))×(Unit))×((List (List (List (Int))))×(Unit))):Option (Bool):=
 (bif (Z.ine (Z.ofN (Z.len d0.1.1)) (Z.ofN (Z.len d0.2.1)))then some false
 else Z.loop (fun(s1:Int) k2=>
 (bif (Z.ilt s1 (Z.ofN (Z.len d0.1.1)))then if(Z.Ix s1 (Z.len d0.1.1))then Z.bnd (Z.get d0.1.1 (Z.toN s1) ([]:List (List (Int)))) fun(x5:List (List (Int)))=>
 if(Z.Ix s1 (Z.len d0.2.1))then Z.bnd (Z.get d0.2.1 (Z.toN s1) ([]:List (List (Int)))) fun(x8:List (List (Int)))=>
 Z.bind (zZa (x5,x8)) fun(x9:Bool)=>
 (bif (Z.bnot x9)then some false
 else Z.bnd (Z.wrap .i64 (Z.add s1 1)) fun(x10:Int)=>
 k2 x10)
 else none
 else none
 else some true)) 0)
def yJ1:PFn:={args:=[(.pair (.list (.list (.list (.int .u8)))) .unit),(.pair (.list (.list (.list (.int .u8)))) .unit)],res:=[.bool],fn:=zJ5}
def uXw:List LSpec×List Nat:=([{id:=4800,known:=false,toks:=[],items:=[],junk:=[],tails:=[]}],[9000000008])
def uXu:List LSpec×List Nat:=([],[5])
def uXx:List LSpec×List Nat:=([{id:=2800,known:=true,toks:=[(9000000,(.int .u8)),(9000000,(.mix 900000001 (.int .u8))),(7005000,(.mix 900000001 (.mix 900000002 (.int .u8))))],items:=[.slot 18 (.val (.int .i64)), .cells 1000004 [.val (.mix 2005000 (.mix 12005000 (.mix 22005000 (.int .u8))))], .rows 2005000 (.mix 12005000 (.mix 22005000 (.int .u8))), .rows 22005000 (.int .u8), .rows 12005000 (.mix 22005000 (.int .u8))],junk:=[19,20,21,22,5,6,23,24,25,26,27,28,29,30,31,32,33,34,35],tails:=[]}],[4000000001])
def uXv:List LSpec×List Nat:=([{id:=4900,known:=false,toks:=[],items:=[],junk:=[],tails:=[]}],[6000000006,9000000007])
def uXy:List LSpec×List Nat:=([{id:=2500,known:=true,toks:=[],items:=[.slot 5 (.val (.int .i64))],junk:=[13,14,15,16,17,20,21,22,23,24,25,26,27,28,29,30,31,4,18,19],tails:=[]}],[])
def spt25:Tab (List LSpec×List Nat):=(.node (.node .leaf none (.node (.node (.node .leaf none (.node .leaf (some uXv) .leaf)) none (.node .leaf (some uXy) .leaf)) none .leaf)) none (.node (.node (.node (.node .leaf none (.node .leaf (some uXw) .leaf)) none .leaf) none (.node (.node (.node (.node .leaf (some uXu) .leaf) none .leaf) none .leaf) none (.node .leaf (some uXx) .leaf))) none .leaf))
def spf25(f:Nat):List LSpec×List Nat:=(spt25.get f).getD ([],[])
theorem xKm:zW3 Try.prog cfg 25 yJ1:=fnD spf25 (l:=[(23,zJa)]) zXj zQ2 (.cons yQf .nil) (fun d=>by kernel_rfl)
def zK2(d0:((Int)×((Int)×((Int)×((Int)×((Int)×((Int)×((Int)×((Int)×((Int)×(Unit))))))))))×(((List (List (List (Int))))×(Unit))×((Int)×((List (Int))×(List (List (Int))))))):Option (Bool):=
 Z.join (σ:=Bool) (fun k1=>
 Z.bind (zYo (d0.2.1.1,())) fun(x2:Bool)=>
 (bif x2 then k1 true
 else(bif (Z.zQ3 false true (Z.igt (Z.ofN (Z.len d0.2.2.2.1)) 20))then k1 true
 else Z.bind (zYz d0.2.2.2.2) fun(x3:Bool)=>
 k1 (Z.zQ3 false true x3)))) fun(j4:Bool)=>
 (bif j4 then some true
 else Z.bind (yWs (d0.2.1.1,())) fun(x5:(List (List (List (Int))))×(Unit))=>
 Z.bind (zXs d0.2.2.2.2) fun(x6:List (List (Int)))=>
 Z.bind (yW7 ((d0.1.1,(d0.1.2.1,(d0.1.2.2.1,(d0.1.2.2.2.1,(d0.1.2.2.2.2.1,(d0.1.2.2.2.2.2.1,(d0.1.2.2.2.2.2.2.1,(d0.1.2.2.2.2.2.2.2.1,(d0.1.2.2.2.2.2.2.2.2.1,()))))))))),((x5.1,()),(d0.2.2.1,d0.2.2.2.1)))) fun(x7:((List (List (Int)))×(List (List (MixE (Int)))))×((MixE (MixE (Int)))×((List ((Int)×((Int)×((Int)×((List (Int))×(Unit))))))×(Int))))=>
 Z.bind (yWt ((d0.1.1,(d0.1.2.1,(d0.1.2.2.1,(d0.1.2.2.2.1,(d0.1.2.2.2.2.1,(d0.1.2.2.2.2.2.1,(d0.1.2.2.2.2.2.2.1,(d0.1.2.2.2.2.2.2.2.1,(d0.1.2.2.2.2.2.2.2.2.1,()))))))))),((d0.2.1.1,()),(d0.2.2.1,d0.2.2.2.1)))) fun(x8:(List (List (Int)))×((List ((Int)×((Int)×((Int)×((List (Int))×(Unit))))))×(Int)))=>
 Z.bind (zY6 ((d0.1.1,(d0.1.2.1,(d0.1.2.2.1,(d0.1.2.2.2.1,(d0.1.2.2.2.2.1,(d0.1.2.2.2.2.2.1,(d0.1.2.2.2.2.2.2.1,(d0.1.2.2.2.2.2.2.2.1,(d0.1.2.2.2.2.2.2.2.2.1,()))))))))),((x5.1,()),(d0.2.2.1,(d0.2.2.2.1,x6))))) fun(x9:((List (List (Int)))×((List (List (MixE (Int))))×(List (List (MixE (MixE (Int)))))))×(((MixE (MixE (MixE (Int))))×(Unit))×((List ((Int)×((Int)×((Int)×((List (Int))×(Unit))))))×(Int))))=>
 Z.bind (zYn ((d0.1.1,(d0.1.2.1,(d0.1.2.2.1,(d0.1.2.2.2.1,(d0.1.2.2.2.2.1,(d0.1.2.2.2.2.2.1,(d0.1.2.2.2.2.2.2.1,(d0.1.2.2.2.2.2.2.2.1,(d0.1.2.2.2.2.2.2.2.2.1,()))))))))),((d0.2.1.1,()),(d0.2.2.1,(d0.2.2.2.1,d0.2.2.2.2))))) fun(x10:((List (List (List (Int))))×(Unit))×((List ((Int)×((Int)×((Int)×((List (Int))×(Unit))))))×(Int)))=>
 Z.join (σ:=Bool) (fun k11=>
 if(Z.XOk x7.1.2 x7.2.1)then Z.bind (Z.mapO (fun(e14:MixE (Int))=>
 if(Z.XOk x7.1.1 e14)then Z.bnd (Z.xget x7.1.1 e14) fun(x17:List (Int))=>
 some x17
 else none) (Z.xget x7.1.2 x7.2.1)) fun(x18:List (List (Int)))=>
 Z.bind (zZa (x18,x8.1)) fun(x19:Bool)=>
 (bif x19 then Z.bind (zXf (x7.2.2.1,x8.2.1)) fun(x20:Bool)=>
 (bif (Z.zQ3 true x20 false)then k11 (Z.zQ3 true (Z.ieq x7.2.2.2 x8.2.2) false)
 else k11 false)
 else k11 false)
 else none) fun(j21:Bool)=>
 Z.join (σ:=Bool) (fun k22=>
 if(Z.XOk x9.1.2.2 x9.2.1.1)then Z.bind (Z.mapO (fun(e25:MixE (MixE (Int)))=>
 if(Z.XOk x9.1.2.1 e25)then Z.bind (Z.mapO (fun(e28:MixE (Int))=>
 if(Z.XOk x9.1.1 e28)then Z.bnd (Z.xget x9.1.1 e28) fun(x31:List (Int))=>
 some x31
 else none) (Z.xget x9.1.2.1 e25)) fun(x32:List (List (Int)))=>
 some x32
 else none) (Z.xget x9.1.2.2 x9.2.1.1)) fun(x33:List (List (List (Int))))=>
 Z.bind (zJ5 ((x33,()),(x10.1.1,()))) fun(x34:Bool)=>
 (bif x34 then Z.bind (zXf (x9.2.2.1,x10.2.1)) fun(x35:Bool)=>
 (bif (Z.zQ3 true x35 false)then k22 (Z.zQ3 true (Z.ieq x9.2.2.2 x10.2.2) false)
 else k22 false)
 else k22 false)
 else none) fun(j36:Bool)=>
 Z.loop (fun(s37:(Int)×(List (List (Int)))) k38=>
 (bif (Z.ilt s37.1 (Z.ofN (Z.xlen x9.2.1.1)))then Z.loop (fun(s39:(Int)×(List (List (Int)))) k40=>
 if(Z.Ix s37.1 (Z.xlen x9.2.1.1))then if(Z.XPt x9.1.2.2 x9.2.1.1 (Z.toN s37.1))then if(Z.XPt x9.1.2.2 x9.2.1.1 (Z.toN s37.1))then Z.bnd (Z.xat x9.1.2.2 x9.2.1.1 (Z.toN s37.1) (MixE.nil:MixE (MixE (Int)))) fun(x47:MixE (MixE (Int)))=>
 (bif (Z.ilt s39.1 (Z.ofN (Z.xlen x47)))then Z.loop (fun(s48:(Int)×(List (List (Int)))) k49=>
 if(Z.Ix s37.1 (Z.xlen x9.2.1.1))then if(Z.XPt x9.1.2.2 x9.2.1.1 (Z.toN s37.1))then if(Z.XPt x9.1.2.2 x9.2.1.1 (Z.toN s37.1))then Z.bnd (Z.xat x9.1.2.2 x9.2.1.1 (Z.toN s37.1) (MixE.nil:MixE (MixE (Int)))) fun(x56:MixE (MixE (Int)))=>
 if(Z.Ix s39.1 (Z.xlen x56))then if(Z.XPt x9.1.2.1 x56 (Z.toN s39.1))then if(Z.XPt x9.1.2.1 x56 (Z.toN s39.1))then Z.bnd (Z.xat x9.1.2.1 x56 (Z.toN s39.1) (MixE.nil:MixE (Int))) fun(x63:MixE (Int))=>
 (bif (Z.ilt s48.1 (Z.ofN (Z.xlen x63)))then if(Z.Ix s37.1 (Z.xlen x9.2.1.1))then if(Z.XPt x9.1.2.2 x9.2.1.1 (Z.toN s37.1))then if(Z.XPt x9.1.2.2 x9.2.1.1 (Z.toN s37.1))then Z.bnd (Z.xat x9.1.2.2 x9.2.1.1 (Z.toN s37.1) (MixE.nil:MixE (MixE (Int)))) fun(x70:MixE (MixE (Int)))=>
 if(Z.Ix s39.1 (Z.xlen x70))then if(Z.XPt x9.1.2.1 x70 (Z.toN s39.1))then if(Z.XPt x9.1.2.1 x70 (Z.toN s39.1))then Z.bnd (Z.xat x9.1.2.1 x70 (Z.toN s39.1) (MixE.nil:MixE (Int))) fun(x77:MixE (Int))=>
 if(Z.Ix s37.1 (Z.xlen x9.2.1.1))then if(Z.XPt x9.1.2.2 x9.2.1.1 (Z.toN s37.1))then if(Z.XPt x9.1.2.2 x9.2.1.1 (Z.toN s37.1))then Z.bnd (Z.xat x9.1.2.2 x9.2.1.1 (Z.toN s37.1) (MixE.nil:MixE (MixE (Int)))) fun(x84:MixE (MixE (Int)))=>
 if(Z.Ix s39.1 (Z.xlen x84))then if(Z.XPt x9.1.2.1 x84 (Z.toN s39.1))then if(Z.XPt x9.1.2.1 x84 (Z.toN s39.1))then Z.bnd (Z.xat x9.1.2.1 x84 (Z.toN s39.1) (MixE.nil:MixE (Int))) fun(x91:MixE (Int))=>
 if(Z.Ix s48.1 (Z.xlen x91))then if(Z.XPt s48.2 x91 (Z.toN s48.1))then if(Z.XPt s48.2 x91 (Z.toN s48.1))then Z.bnd (Z.xat s48.2 x91 (Z.toN s48.1) 0) fun(x98:Int)=>
 Z.bnd (Z.wrap .u8 (Z.add x98 1)) fun(x99:Int)=>
 if(Z.Ix s48.1 (Z.xlen x77))then if(Z.XPt s48.2 x77 (Z.toN s48.1))then if(Z.XPt s48.2 x77 (Z.toN s48.1))then Z.bnd (Z.xset s48.2 x77 (Z.toN s48.1) x99) fun(x106:List (List (Int)))=>
 Z.bnd (Z.wrap .i64 (Z.add s48.1 1)) fun(x107:Int)=>
 k49 (x107,x106)
 else none
 else none
 else none
 else none
 else none
 else none
 else none
 else none
 else none
 else none
 else none
 else none
 else none
 else none
 else none
 else none
 else none
 else none
 else Z.bnd (Z.wrap .i64 (Z.add s39.1 1)) fun(x108:Int)=>
 k40 (x108,s48.2))
 else none
 else none
 else none
 else none
 else none
 else none) (0,s39.2)
 else Z.bnd (Z.wrap .i64 (Z.add s37.1 1)) fun(x109:Int)=>
 k38 (x109,s39.2))
 else none
 else none
 else none) (0,s37.2)
 else Z.loop (fun(s110:(Int)×(List (List (Int)))) k111=>
 (bif (Z.ilt s110.1 (Z.ofN (Z.xlen x7.2.1)))then Z.loop (fun(s112:(Int)×(List (List (Int)))) k113=>
 if(Z.Ix s110.1 (Z.xlen x7.2.1))then if(Z.XPt x7.1.2 x7.2.1 (Z.toN s110.1))then if(Z.XPt x7.1.2 x7.2.1 (Z.toN s110.1))then Z.bnd (Z.xat x7.1.2 x7.2.1 (Z.toN s110.1) (MixE.nil:MixE (Int))) fun(x120:MixE (Int))=>
 (bif (Z.ilt s112.1 (Z.ofN (Z.xlen x120)))then if(Z.Ix s110.1 (Z.xlen x7.2.1))then if(Z.XPt x7.1.2 x7.2.1 (Z.toN s110.1))then if(Z.XPt x7.1.2 x7.2.1 (Z.toN s110.1))then Z.bnd (Z.xat x7.1.2 x7.2.1 (Z.toN s110.1) (MixE.nil:MixE (Int))) fun(x127:MixE (Int))=>
 if(Z.Ix s110.1 (Z.xlen x7.2.1))then if(Z.XPt x7.1.2 x7.2.1 (Z.toN s110.1))then if(Z.XPt x7.1.2 x7.2.1 (Z.toN s110.1))then Z.bnd (Z.xat x7.1.2 x7.2.1 (Z.toN s110.1) (MixE.nil:MixE (Int))) fun(x134:MixE (Int))=>
 if(Z.Ix s112.1 (Z.xlen x134))then if(Z.XPt s112.2 x134 (Z.toN s112.1))then if(Z.XPt s112.2 x134 (Z.toN s112.1))then Z.bnd (Z.xat s112.2 x134 (Z.toN s112.1) 0) fun(x141:Int)=>
 Z.bnd (Z.wrap .u8 (Z.add x141 1)) fun(x142:Int)=>
 if(Z.Ix s112.1 (Z.xlen x127))then if(Z.XPt s112.2 x127 (Z.toN s112.1))then if(Z.XPt s112.2 x127 (Z.toN s112.1))then Z.bnd (Z.xset s112.2 x127 (Z.toN s112.1) x142) fun(x149:List (List (Int)))=>
 Z.bnd (Z.wrap .i64 (Z.add s112.1 1)) fun(x150:Int)=>
 k113 (x150,x149)
 else none
 else none
 else none
 else none
 else none
 else none
 else none
 else none
 else none
 else none
 else none
 else none
 else Z.bnd (Z.wrap .i64 (Z.add s110.1 1)) fun(x151:Int)=>
 k111 (x151,s112.2))
 else none
 else none
 else none) (0,s110.2)
 else Z.join (σ:=Bool) (fun k152=>
 (bif j21 then(bif (Z.zQ3 true j36 false)then Z.bind (zJ5 ((x5.1,()),(d0.2.1.1,()))) fun(x153:Bool)=>
 (bif (Z.zQ3 true x153 false)then Z.bind (zZa (x6,d0.2.2.2.2)) fun(x154:Bool)=>
 (bif (Z.zQ3 true x154 false)then Z.bind (zXf (x7.2.2.1,x8.2.1)) fun(x155:Bool)=>
 (bif (Z.zQ3 true x155 false)then Z.bind (zXf (x9.2.2.1,x10.2.1)) fun(x156:Bool)=>
 k152 (Z.zQ3 true x156 false)
 else k152 false)
 else k152 false)
 else k152 false)
 else k152 false)
 else k152 false)) fun(j157:Bool)=>
 some j157)) (0,x7.1.1))) (0,x9.1.1))
def zZy:PFn:={args:=[(.pair (.int .i64) (.pair (.int .i64) (.pair (.int .i64) (.pair (.int .i64) (.pair (.int .i64) (.pair (.int .i64) (.pair (.int .i64) (.pair (.int .i64) (.pair (.int .i64) .unit))))))))),(.pair (.list (.list (.list (.int .u8)))) .unit),(.int .i64),(.list (.int .i64)),(.list (.list (.int .u8)))],res:=[.bool],fn:=zK2}
def sp4_17:List LSpec×List Nat:=([{id:=5017000,known:=false,toks:=[],items:=[],junk:=[2],tails:=[]},{id:=5017001,known:=false,toks:=[],items:=[.slot 3 (.val (.int .i64))],junk:=[],tails:=[]},{id:=5017002,known:=false,toks:=[],items:=[.slot 4 (.val (.int .i64))],junk:=[],tails:=[]},{id:=1700,known:=false,toks:=[],items:=[],junk:=[],tails:=[]},{id:=5017003,known:=true,toks:=[],items:=[.slot 14 (.val .bool)],junk:=[6,7,8,9,10,11,12,13],tails:=[]},{id:=5017004,known:=false,toks:=[],items:=[],junk:=[],tails:=[]},{id:=5017005,known:=false,toks:=[],items:=[.slot 5 (.val (.int .i64))],junk:=[],tails:=[]},{id:=1701,known:=false,toks:=[],items:=[],junk:=[],tails:=[]},{id:=5017006,known:=true,toks:=[],items:=[.slot 28 (.val .bool)],junk:=[17,18,19,20,21,22,23,24,25,26,27],tails:=[]},{id:=5017007,known:=false,toks:=[],items:=[],junk:=[],tails:=[]},{id:=5017008,known:=false,toks:=[],items:=[.slot 3 (.val (.int .i64))],junk:=[31,32,33,34,35,36,37,38,39,40,41,42],tails:=[]},{id:=5017009,known:=false,toks:=[],items:=[.slot 5 (.val (.int .i64))],junk:=[29,30],tails:=[]},{id:=5017010,known:=false,toks:=[],items:=[.slot 49 (.val .bool)],junk:=[43,44,45,46,47,48],tails:=[]},{id:=5017011,known:=false,toks:=[],items:=[],junk:=[2],tails:=[]},{id:=5017012,known:=false,toks:=[],items:=[.slot 2 (.val .bool)],junk:=[],tails:=[]},{id:=5017013,known:=false,toks:=[],items:=[.slot 4 (.val (.int .i64))],junk:=[15,16],tails:=[]},{id:=5017014,known:=true,toks:=[],items:=[.slot 2 (.val .bool)],junk:=[50,51,52,53,54,55,56,57],tails:=[]}],[])
def sp4_18:List LSpec×List Nat:=([{id:=5018000,known:=false,toks:=[],items:=[],junk:=[2],tails:=[]},{id:=5018001,known:=false,toks:=[],items:=[.slot 3 (.val (.int .i64))],junk:=[],tails:=[]},{id:=1800,known:=false,toks:=[],items:=[],junk:=[],tails:=[]},{id:=5018002,known:=true,toks:=[],items:=[.slot 11 (.val .bool)],junk:=[4,5,6,7,8,9,10],tails:=[]},{id:=5018003,known:=false,toks:=[],items:=[],junk:=[],tails:=[]},{id:=5018004,known:=false,toks:=[],items:=[.slot 19 (.val .bool)],junk:=[14,15,16,17,18],tails:=[]},{id:=5018005,known:=false,toks:=[],items:=[],junk:=[2],tails:=[]},{id:=5018006,known:=false,toks:=[],items:=[.slot 2 (.val .bool)],junk:=[],tails:=[]},{id:=5018007,known:=false,toks:=[],items:=[.slot 3 (.val (.int .i64))],junk:=[12,13],tails:=[]},{id:=5018008,known:=false,toks:=[],items:=[.slot 2 (.val .bool)],junk:=[20,21,22],tails:=[]}],[])
def sp4_77:List LSpec×List Nat:=([{id:=5077000,known:=false,toks:=[],items:=[],junk:=[2],tails:=[]},{id:=5077001,known:=true,toks:=[],items:=[.slot 2 (.val .bool)],junk:=[3,4,5,6,7,8,9,10,11,12,13,14],tails:=[]}],[])
def sp4_71:List LSpec×List Nat:=([{id:=5071000,known:=false,toks:=[],items:=[],junk:=[2],tails:=[]},{id:=5071001,known:=true,toks:=[],items:=[.slot 8 (.val .bool)],junk:=[3,4,5,6,7],tails:=[]},{id:=5071002,known:=false,toks:=[],items:=[],junk:=[2],tails:=[]},{id:=5071003,known:=false,toks:=[],items:=[.slot 2 (.val (.int .i64))],junk:=[],tails:=[]},{id:=5071004,known:=false,toks:=[],items:=[.slot 2 (.val (.int .i64))],junk:=[],tails:=[]}],[])
def sp4_81:List LSpec×List Nat:=([{id:=5081000,known:=false,toks:=[],items:=[],junk:=[2],tails:=[]},{id:=5081001,known:=false,toks:=[],items:=[.slot 3 (.val (.int .i64))],junk:=[],tails:=[]},{id:=8100,known:=false,toks:=[],items:=[],junk:=[],tails:=[]},{id:=5081002,known:=false,toks:=[],items:=[.slot 4 (.val (.int .i64)), .slot 5 (.val (.int .i64))],junk:=[9,10,8,11,12],tails:=[]},{id:=5081003,known:=true,toks:=[],items:=[.slot 19 (.val .bool)],junk:=[13,14,15,16,17,18],tails:=[]},{id:=5081004,known:=false,toks:=[],items:=[],junk:=[20,2],tails:=[]},{id:=5081005,known:=false,toks:=[],items:=[.slot 2 (.val (.int .i64))],junk:=[20],tails:=[]},{id:=5081006,known:=false,toks:=[],items:=[.slot 3 (.val (.int .i64))],junk:=[6,7],tails:=[]}],[])
def sp4_78:List LSpec×List Nat:=([{id:=5078000,known:=false,toks:=[],items:=[],junk:=[4,5,6,7,8,9],tails:=[]},{id:=7800,known:=false,toks:=[],items:=[],junk:=[],tails:=[]},{id:=5078001,known:=true,toks:=[],items:=[.slot 18 (.val .bool)],junk:=[10,11,12,13,14,15,16,17],tails:=[]},{id:=5078002,known:=false,toks:=[],items:=[],junk:=[],tails:=[]},{id:=5078003,known:=false,toks:=[],items:=[],junk:=[19,20,21,22,23,24,25,26,27,28,29,30,31,32],tails:=[]}],[])
def sp4_64:List LSpec×List Nat:=([{id:=5064000,known:=false,toks:=[],items:=[],junk:=[6],tails:=[]},{id:=5064001,known:=true,toks:=[],items:=[.slot 6 (.val .bool)],junk:=[7,8,9,10,11,12,13,14,15,16,17,18],tails:=[]}],[])
def sp4_38:List LSpec×List Nat:=([{id:=5038000,known:=false,toks:=[],items:=[],junk:=[6],tails:=[]},{id:=5038001,known:=true,toks:=[],items:=[.slot 15 (.val .bool)],junk:=[7,8,9,10,11,12,13,14],tails:=[]},{id:=5038002,known:=false,toks:=[],items:=[],junk:=[6],tails:=[]},{id:=5038003,known:=false,toks:=[],items:=[.slot 6 (.val .bool)],junk:=[],tails:=[]},{id:=5038004,known:=false,toks:=[],items:=[.slot 6 (.val .bool)],junk:=[16,17,18,19],tails:=[]}],[])
def sp4_75:List LSpec×List Nat:=([{id:=5075000,known:=false,toks:=[],items:=[],junk:=[6],tails:=[]},{id:=5075001,known:=true,toks:=[],items:=[.slot 6 (.val .bool)],junk:=[7,8,9,10,11,12,13,14],tails:=[]}],[])
def sp4_67:List LSpec×List Nat:=([{id:=5067000,known:=false,toks:=[],items:=[],junk:=[2],tails:=[]},{id:=5067001,known:=true,toks:=[],items:=[.slot 2 (.val .bool)],junk:=[3,4,5,6,7,8,9,10,11,12,13,14,15,16,17,18,19,20,21,22,23,24,25,26,27,28,29,30,31,32,33,34,35,36,37,38,39,40,41,42,43,44,45],tails:=[]}],[])
def sp4_50:List LSpec×List Nat:=([{id:=5050000,known:=false,toks:=[],items:=[],junk:=[2],tails:=[]},{id:=5050001,known:=true,toks:=[],items:=[.slot 2 (.val .bool)],junk:=[3,4,5,6,7,8,9,10],tails:=[]}],[])
def sp4_47:List LSpec×List Nat:=([{id:=5047000,known:=false,toks:=[],items:=[],junk:=[6],tails:=[]},{id:=5047001,known:=true,toks:=[],items:=[.slot 16 (.val .bool)],junk:=[8,9,10,11,12,13,14,15],tails:=[]},{id:=5047002,known:=false,toks:=[],items:=[],junk:=[6],tails:=[]},{id:=5047003,known:=false,toks:=[],items:=[.slot 6 (.val .bool)],junk:=[],tails:=[]},{id:=5047004,known:=false,toks:=[],items:=[.slot 7 (.val (.int .i64))],junk:=[],tails:=[]},{id:=4700,known:=false,toks:=[],items:=[],junk:=[],tails:=[]},{id:=5047005,known:=false,toks:=[],items:=[.slot 20 (.val .bool)],junk:=[17,18,19],tails:=[]},{id:=5047006,known:=false,toks:=[],items:=[],junk:=[],tails:=[]},{id:=5047007,known:=true,toks:=[],items:=[.slot 40 (.val .bool)],junk:=[23,24,25,26,27,28,29,30,31,32,33,34,35,36,37,38,39],tails:=[]},{id:=5047008,known:=false,toks:=[],items:=[],junk:=[6],tails:=[]},{id:=5047009,known:=false,toks:=[],items:=[.slot 6 (.val .bool)],junk:=[],tails:=[]},{id:=5047010,known:=false,toks:=[],items:=[.slot 7 (.val (.int .i64))],junk:=[21,22],tails:=[]},{id:=5047011,known:=false,toks:=[],items:=[.slot 6 (.val .bool)],junk:=[],tails:=[]}],[])
def sp4_48:List LSpec×List Nat:=([{id:=4800,known:=false,toks:=[],items:=[],junk:=[],tails:=[]}],[9000000008])
def sp4_68:List LSpec×List Nat:=([{id:=5068000,known:=false,toks:=[],items:=[],junk:=[4],tails:=[]},{id:=5068001,known:=false,toks:=[],items:=[.slot 6 (.val .bool)],junk:=[5],tails:=[]},{id:=5068002,known:=true,toks:=[],items:=[],junk:=[7],tails:=[]},{id:=5068003,known:=false,toks:=[],items:=[],junk:=[7],tails:=[]},{id:=5068004,known:=false,toks:=[],items:=[.slot 1 (.val (.int .i64))],junk:=[8,9,10,11,12,13,14],tails:=[]},{id:=5068005,known:=false,toks:=[],items:=[.slot 16 (.val .bool)],junk:=[15],tails:=[]},{id:=5068006,known:=false,toks:=[],items:=[],junk:=[17,18,19,20,21,22,23,24,25],tails:=[]},{id:=5068007,known:=false,toks:=[],items:=[],junk:=[17,18,19,20,21,22,23,24,25],tails:=[]},{id:=5068008,known:=false,toks:=[],items:=[],junk:=[26],tails:=[]}],[5])
def sp4_53:List LSpec×List Nat:=([{id:=5053000,known:=false,toks:=[],items:=[],junk:=[2],tails:=[]},{id:=5053001,known:=false,toks:=[],items:=[.slot 3 (.val (.int .i64))],junk:=[],tails:=[]},{id:=5053002,known:=false,toks:=[],items:=[.slot 10 (.val (.int .i64)), .slot 11 (.val (.int .i64))],junk:=[],tails:=[]},{id:=5300,known:=false,toks:=[],items:=[],junk:=[],tails:=[]},{id:=5053003,known:=false,toks:=[],items:=[],junk:=[],tails:=[]},{id:=5053004,known:=false,toks:=[],items:=[],junk:=[],tails:=[]},{id:=5053005,known:=false,toks:=[],items:=[],junk:=[13,14],tails:=[]},{id:=5053006,known:=false,toks:=[],items:=[.slot 3 (.val (.int .i64))],junk:=[15,16,17,18],tails:=[]},{id:=5053007,known:=false,toks:=[],items:=[.slot 20 (.val .bool)],junk:=[19],tails:=[]},{id:=5053008,known:=true,toks:=[],items:=[],junk:=[21],tails:=[]},{id:=5053009,known:=false,toks:=[],items:=[],junk:=[21],tails:=[]},{id:=5053010,known:=false,toks:=[],items:=[.slot 11 (.val (.int .i64))],junk:=[22],tails:=[]},{id:=5053011,known:=false,toks:=[],items:=[],junk:=[23,24],tails:=[]},{id:=5053012,known:=false,toks:=[],items:=[.slot 26 (.val (.int .i64)), .slot 27 (.val (.int .i64))],junk:=[],tails:=[]},{id:=5301,known:=false,toks:=[],items:=[],junk:=[],tails:=[]},{id:=5053013,known:=false,toks:=[],items:=[],junk:=[],tails:=[]},{id:=5053014,known:=false,toks:=[],items:=[],junk:=[],tails:=[]},{id:=5053015,known:=false,toks:=[],items:=[],junk:=[29,30],tails:=[]},{id:=5053016,known:=false,toks:=[],items:=[],junk:=[31,32,33],tails:=[]},{id:=5053017,known:=false,toks:=[],items:=[.slot 27 (.val (.int .i64))],junk:=[34],tails:=[]},{id:=5053018,known:=false,toks:=[],items:=[],junk:=[35],tails:=[]}],[])
def sp4_28:List LSpec×List Nat:=([{id:=2800,known:=true,toks:=[(9000000,(.int .u8)),(9000000,(.mix 900000001 (.int .u8))),(7005000,(.mix 900000001 (.mix 900000002 (.int .u8))))],items:=[.slot 18 (.val (.int .i64)), .cells 1000004 [.val (.mix 2005000 (.mix 12005000 (.mix 22005000 (.int .u8))))], .rows 2005000 (.mix 12005000 (.mix 22005000 (.int .u8))), .rows 22005000 (.int .u8), .rows 12005000 (.mix 22005000 (.int .u8))],junk:=[19,20,21,22,5,6,23,24,25,26,27,28,29,30,31,32,33,34,35],tails:=[]}],[4000000001])
def sp4_12:List LSpec×List Nat:=([{id:=5012000,known:=false,toks:=[],items:=[],junk:=[12],tails:=[]},{id:=5012001,known:=false,toks:=[],items:=[.slot 13 (.val (.int .i64))],junk:=[19,20,21],tails:=[]},{id:=5012002,known:=false,toks:=[],items:=[.slot 23 (.val .bool)],junk:=[22],tails:=[]},{id:=5012003,known:=false,toks:=[],items:=[],junk:=[24,25,12],tails:=[]},{id:=5012004,known:=false,toks:=[],items:=[.slot 12 (.val (.int .i64))],junk:=[24,25],tails:=[]},{id:=5012005,known:=true,toks:=[],items:=[.slot 37 (.val .bool)],junk:=[26,27,28,29,30,31,32,33,34,35,36],tails:=[]},{id:=5012006,known:=false,toks:=[],items:=[],junk:=[38,12],tails:=[]},{id:=5012007,known:=false,toks:=[],items:=[.slot 12 (.val (.int .i64))],junk:=[38],tails:=[]},{id:=5012008,known:=false,toks:=[],items:=[.slot 40 (.val (.int .i64)), .slot 41 (.val (.int .i64))],junk:=[],tails:=[]},{id:=1200,known:=false,toks:=[],items:=[],junk:=[],tails:=[]},{id:=5012009,known:=false,toks:=[],items:=[],junk:=[],tails:=[]},{id:=5012010,known:=false,toks:=[],items:=[],junk:=[],tails:=[]},{id:=5012011,known:=false,toks:=[],items:=[.slot 14 (.val (.int .i64)), .slot 15 (.val (.int .i64))],junk:=[43,44,45],tails:=[]},{id:=5012012,known:=false,toks:=[],items:=[.slot 61 (.val .bool)],junk:=[46,47,48,49,50,51,52,53,54,55,56,57,58,59,60],tails:=[]},{id:=5012013,known:=false,toks:=[],items:=[],junk:=[62,12],tails:=[]},{id:=5012014,known:=false,toks:=[],items:=[.slot 12 (.val (.int .i64))],junk:=[62],tails:=[]},{id:=5012015,known:=false,toks:=[],items:=[.slot 41 (.val (.int .i64))],junk:=[63],tails:=[]},{id:=5012016,known:=false,toks:=[],items:=[],junk:=[64,65],tails:=[]},{id:=5012017,known:=false,toks:=[],items:=[],junk:=[66],tails:=[]},{id:=5012018,known:=false,toks:=[],items:=[.slot 68 (.val (.int .i64)), .slot 69 (.val (.int .i64))],junk:=[],tails:=[]},{id:=1201,known:=false,toks:=[],items:=[],junk:=[],tails:=[]},{id:=5012019,known:=false,toks:=[],items:=[],junk:=[],tails:=[]},{id:=5012020,known:=false,toks:=[],items:=[],junk:=[],tails:=[]},{id:=5012021,known:=false,toks:=[],items:=[.slot 17 (.val (.int .i64)), .slot 18 (.val (.int .i64))],junk:=[71,72,73],tails:=[]},{id:=5012022,known:=false,toks:=[],items:=[],junk:=[74,75,76,77,78,79,80],tails:=[]},{id:=5012023,known:=false,toks:=[],items:=[.slot 69 (.val (.int .i64))],junk:=[81],tails:=[]},{id:=5012024,known:=false,toks:=[],items:=[.slot 12 (.val (.int .i64))],junk:=[82,83],tails:=[]}],[])
def sp4_49:List LSpec×List Nat:=([{id:=4900,known:=false,toks:=[],items:=[],junk:=[],tails:=[]}],[6000000006,9000000007])
def sp4_22:List LSpec×List Nat:=([{id:=5022000,known:=false,toks:=[],items:=[],junk:=[11,12],tails:=[]},{id:=5022001,known:=false,toks:=[],items:=[.slot 19 (.val .bool)],junk:=[16,17,18],tails:=[]},{id:=5022002,known:=false,toks:=[],items:=[],junk:=[20,11,12],tails:=[]},{id:=5022003,known:=false,toks:=[],items:=[.slot 12 (.val (.int .i64))],junk:=[20],tails:=[]},{id:=5022004,known:=true,toks:=[],items:=[.slot 32 (.val .bool)],junk:=[21,22,23,24,25,26,27,28,29,30,31],tails:=[]},{id:=5022005,known:=false,toks:=[],items:=[],junk:=[33,11,12],tails:=[]},{id:=5022006,known:=false,toks:=[],items:=[.slot 12 (.val (.int .i64))],junk:=[33],tails:=[]},{id:=5022007,known:=false,toks:=[],items:=[.slot 13 (.val (.int .i64))],junk:=[],tails:=[]},{id:=2200,known:=false,toks:=[],items:=[],junk:=[],tails:=[]},{id:=5022008,known:=false,toks:=[],items:=[.slot 37 (.val .bool)],junk:=[34,35,36],tails:=[]},{id:=5022009,known:=false,toks:=[],items:=[],junk:=[],tails:=[]},{id:=5022010,known:=false,toks:=[],items:=[.slot 53 (.val .bool)],junk:=[40,41,42,43,44,45,46,47,48,49,50,51,52],tails:=[]},{id:=5022011,known:=false,toks:=[],items:=[],junk:=[54,11,12],tails:=[]},{id:=5022012,known:=false,toks:=[],items:=[.slot 12 (.val (.int .i64))],junk:=[54],tails:=[]},{id:=5022013,known:=false,toks:=[],items:=[.slot 13 (.val (.int .i64))],junk:=[38,39],tails:=[]},{id:=5022014,known:=false,toks:=[],items:=[],junk:=[56,57,58,59,60,55,61,62],tails:=[]},{id:=5022015,known:=false,toks:=[],items:=[.slot 12 (.val (.int .i64))],junk:=[63,64],tails:=[]}],[])
def sp4_24:List LSpec×List Nat:=([{id:=5024000,known:=false,toks:=[],items:=[],junk:=[4],tails:=[]},{id:=5024001,known:=false,toks:=[],items:=[.slot 10 (.val .bool)],junk:=[6,7,8,9],tails:=[]},{id:=5024002,known:=false,toks:=[],items:=[],junk:=[4],tails:=[]},{id:=5024003,known:=false,toks:=[],items:=[.slot 4 (.val .bool)],junk:=[],tails:=[]},{id:=5024004,known:=false,toks:=[],items:=[.slot 5 (.val (.int .i64))],junk:=[],tails:=[]},{id:=2400,known:=false,toks:=[],items:=[],junk:=[],tails:=[]},{id:=5024005,known:=false,toks:=[],items:=[.slot 14 (.val .bool)],junk:=[11,12,13],tails:=[]},{id:=5024006,known:=false,toks:=[],items:=[],junk:=[],tails:=[]},{id:=5024007,known:=true,toks:=[],items:=[.slot 67 (.val .bool)],junk:=[17,18,19,20,21,22,23,24,25,26,27,28,29,30,31,32,33,34,35,36,37,38,39,40,41,42,43,44,45,46,47,48,49,50,51,52,53,54,55,56,57,58,59,60,61,62,63,64,65,66],tails:=[]},{id:=5024008,known:=false,toks:=[],items:=[],junk:=[4],tails:=[]},{id:=5024009,known:=false,toks:=[],items:=[.slot 4 (.val .bool)],junk:=[],tails:=[]},{id:=5024010,known:=false,toks:=[],items:=[.slot 5 (.val (.int .i64))],junk:=[15,16],tails:=[]},{id:=5024011,known:=false,toks:=[],items:=[.slot 4 (.val .bool)],junk:=[],tails:=[]}],[])
def sp4_26:List LSpec×List Nat:=([{id:=2600,known:=true,toks:=[],items:=[.slot 2 (.val (.int .i64)), .rows 23001000 (.int .u8)],junk:=[5,6,7,8,9,3,12,13,14,15,16,17,18,19,4,22,23,24,25,26,27,28,29,30,31,32,35,36,37,38,39,40,41,42,43,44,45,46,47,48,49,50,51,52,53,54,55,56,33,34,20,21,10,11],tails:=[]},{id:=2601,known:=true,toks:=[],items:=[.slot 3 (.val (.int .i64)), .rows 21000007 (.int .u8)],junk:=[12,13,14,15,16,17,18,19,4,22,23,24,25,26,27,28,29,30,31,32,35,36,37,38,39,40,41,42,43,44,45,46,47,48,49,50,51,52,53,54,55,56,33,34,20,21],tails:=[]},{id:=2602,known:=true,toks:=[],items:=[.slot 4 (.val (.int .i64)), .rows 21000007 (.int .u8)],junk:=[22,23,24,25,26,27,28,29,30,31,32,35,36,37,38,39,40,41,42,43,44,45,46,47,48,49,50,51,52,53,54,55,56,33,34],tails:=[]}],[])
def sp4_4:List LSpec×List Nat:=([{id:=5004000,known:=false,toks:=[],items:=[],junk:=[10],tails:=[]},{id:=5004001,known:=true,toks:=[],items:=[.slot 39 (.val .bool)],junk:=[29,30,31,32,33,34,35,36,37,38],tails:=[]},{id:=5004002,known:=false,toks:=[],items:=[],junk:=[10],tails:=[]},{id:=5004003,known:=false,toks:=[],items:=[.slot 10 (.val .bool)],junk:=[],tails:=[]},{id:=5004004,known:=false,toks:=[],items:=[],junk:=[40,41,42,43],tails:=[]},{id:=5004005,known:=false,toks:=[],items:=[.slot 15 (.val (.int .i64))],junk:=[45,46,47,48,49,44,50,51,52],tails:=[]},{id:=5004006,known:=false,toks:=[],items:=[.slot 18 (.val (.int .i64))],junk:=[54,55,56,57,58,53,59,60,61],tails:=[]},{id:=5004007,known:=false,toks:=[],items:=[.slot 21 (.val (.int .i64))],junk:=[63,64,65,66,67,68,62,69,70,71],tails:=[]},{id:=5004008,known:=false,toks:=[],items:=[.slot 24 (.val (.int .i64))],junk:=[73,74,75,76,77,78,72,79,80,81],tails:=[]},{id:=5004009,known:=true,toks:=[],items:=[.slot 25 (.val .bool)],junk:=[82,83,84,85,86,87,88,89,90,91,92,93,94],tails:=[]},{id:=5004010,known:=true,toks:=[],items:=[.slot 26 (.val .bool)],junk:=[95,96,97,98,99,100,101,102,103,104,105,106,107],tails:=[]},{id:=5004011,known:=false,toks:=[],items:=[],junk:=[108,109],tails:=[]},{id:=5004012,known:=false,toks:=[],items:=[.slot 27 (.val (.int .i64))],junk:=[],tails:=[]},{id:=400,known:=true,toks:=[],items:=[.slot 27 (.val (.int .i64)), .rows 11000013 (.int .u8)],junk:=[110,111,112,113,28,116,117,118,119,120,121,122,125,126,127,128,129,130,131,132,133,134,135,136,137,138,123,124,114,115],tails:=[]},{id:=5004013,known:=false,toks:=[],items:=[.slot 113 (.val .bool)],junk:=[110,111,112],tails:=[]},{id:=5004014,known:=false,toks:=[],items:=[],junk:=[],tails:=[]},{id:=5004015,known:=false,toks:=[],items:=[.slot 28 (.val (.int .i64))],junk:=[],tails:=[]},{id:=401,known:=true,toks:=[],items:=[.slot 28 (.val (.int .i64)), .rows 11000013 (.int .u8)],junk:=[116,117,118,119,120,121,122,125,126,127,128,129,130,131,132,133,134,135,136,137,138,123,124],tails:=[]},{id:=5004016,known:=false,toks:=[],items:=[.slot 122 (.val .bool)],junk:=[116,117,118,119,120,121],tails:=[]},{id:=5004017,known:=false,toks:=[],items:=[],junk:=[],tails:=[]},{id:=5004018,known:=false,toks:=[],items:=[],junk:=[125,126,127,128,129,130,131,132,133,134,135,136,137,138],tails:=[]},{id:=5004019,known:=false,toks:=[],items:=[.slot 28 (.val (.int .i64))],junk:=[123,124],tails:=[]},{id:=5004020,known:=false,toks:=[],items:=[.slot 27 (.val (.int .i64))],junk:=[114,115],tails:=[]},{id:=5004021,known:=true,toks:=[],items:=[.slot 10 (.val .bool)],junk:=[139,140,141,142,143,144,145,146,147,148,149,150,151,152,153,154,155,156,157,158,159,160,161,162],tails:=[]}],[])
def spt4:Tab (List LSpec×List Nat):=(.node (.node (.node (.node (.node .leaf none (.node .leaf (some sp4_47) .leaf)) none (.node (.node (.node .leaf (some sp4_71) .leaf) none .leaf) none .leaf)) none (.node (.node (.node (.node .leaf (some sp4_67) .leaf) none .leaf) none .leaf) none (.node (.node (.node .leaf (some sp4_75) .leaf) none .leaf) none .leaf))) none (.node (.node (.node .leaf (some sp4_17) (.node (.node .leaf (some sp4_81) .leaf) (some sp4_49) .leaf)) none .leaf) none (.node (.node .leaf none (.node .leaf (some sp4_53) .leaf)) none (.node (.node (.node .leaf (some sp4_77) .leaf) none .leaf) none .leaf)))) none (.node (.node (.node (.node (.node (.node .leaf (some sp4_64) .leaf) none .leaf) none (.node .leaf (some sp4_48) .leaf)) none (.node .leaf (some sp4_24) .leaf)) (some sp4_4) (.node (.node (.node (.node .leaf (some sp4_68) .leaf) none .leaf) none .leaf) (some sp4_12) (.node .leaf (some sp4_28) .leaf))) none (.node (.node (.node .leaf (some sp4_18) (.node .leaf (some sp4_50) .leaf)) none (.node .leaf (some sp4_26) .leaf)) none (.node (.node (.node .leaf (some sp4_38) .leaf) (some sp4_22) .leaf) none (.node (.node (.node .leaf (some sp4_78) .leaf) none .leaf) none .leaf)))))
def spf4(f:Nat):List LSpec×List Nat:=(spt4.get f).getD ([],[])
theorem yYk:zW3 Try.prog cfg 4 zZy:=fnDr spf4 [] (l:=[(17,yZz),(18,yZ0),(19,yJ0),(20,zZx),(21,yJ2),(22,yZy),(23,zJa),(24,yQg),(25,yJ1)]) (lo:=[]) (lr:=[(11,yJv),(12,yZs)]) zXj zQ2 (.cons xXb (.cons xXc (.cons xKl (.cons zKp (.cons xKn (.cons xXa (.cons yQf (.cons yK0 (.cons xKm .nil))))))))) .nil (.cons xKj (.cons xW7 .nil)) (fun d=>by kernel_rfl)
end
end Go.Proofs.Ytnbmjkbbppcbcaa
