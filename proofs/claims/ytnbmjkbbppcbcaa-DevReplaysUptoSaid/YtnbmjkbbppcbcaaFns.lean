/- The functions of the program, as functions on plain data. -/
import Derived.Test.YtnbmjkbbppcbcaaCfg
import Derived.Test.YtnbmjkbbppcbcaaM6
import Derived.ProofKit
import Derived.Test.YtnbmjkbbppcbcaaConfS
namespace Go.Proofs.Ytnbmjkbbppcbcaa
open Go.Eng
noncomputable section
set_option linter.unusedVariables false
set_option maxRecDepth 100000
abbrev TCf : Type:=Int×Int×Int×Int×Int×Int×Int×Int×Int×Unit
abbrev TSe : Type:=Int×Int×Int×List Int×Unit
@[reducible] def pCf (c : TCf) : TCf:=(c.1,(c.2.1,(c.2.2.1,(c.2.2.2.1,(c.2.2.2.2.1,(c.2.2.2.2.2.1,(c.2.2.2.2.2.2.1,(c.2.2.2.2.2.2.2.1,(c.2.2.2.2.2.2.2.2.1,())))))))))
def zYn (d0 : (List (List (List (Int))))×(Unit)) : Option (Bool) :=
 Z.loop (fun (s1 : (Int)×(Int)) k2 =>
 (bif (Z.ilt s1.2 (Z.ofN (Z.len d0.1))) then (bif (Z.zQx true (Z.ilt s1.2 10) false) then Z.loop (fun (s3 : (Int)×(Int)) k4 =>
 if (Z.Ix s1.2 (Z.len d0.1)) then Z.bnd (Z.get d0.1 (Z.toN s1.2) ([] : List (List (Int)))) fun (x7 : List (List (Int))) =>
 (bif (Z.ilt s3.2 (Z.ofN (Z.len x7))) then (bif (Z.zQx true (Z.ilt s3.2 200) false) then if (Z.Ix s1.2 (Z.len d0.1)) then Z.bnd (Z.get d0.1 (Z.toN s1.2) ([] : List (List (Int)))) fun (x10 : List (List (Int))) =>
 if (Z.Ix s3.2 (Z.len x10)) then Z.bnd (Z.get x10 (Z.toN s3.2) ([] : List (Int))) fun (x13 : List (Int)) =>
 Z.bnd (Z.wrap .i64 (Z.add s3.1 (Z.imax false (Z.ofN (Z.len x13)) 100000))) fun (x14 : Int) =>
 Z.bnd (Z.wrap .i64 (Z.add s3.2 1)) fun (x15 : Int) =>
 k4 (x14,x15)
 else none
 else none
 else if (Z.Ix s1.2 (Z.len d0.1)) then Z.bnd (Z.get d0.1 (Z.toN s1.2) ([] : List (List (Int)))) fun (x18 : List (List (Int))) =>
 (bif (Z.igt (Z.ofN (Z.len x18)) 150) then some true
 else Z.bnd (Z.wrap .i64 (Z.add s1.2 1)) fun (x19 : Int) =>
 k2 (s3.1,x19))
 else none)
 else if (Z.Ix s1.2 (Z.len d0.1)) then Z.bnd (Z.get d0.1 (Z.toN s1.2) ([] : List (List (Int)))) fun (x22 : List (List (Int))) =>
 (bif (Z.igt (Z.ofN (Z.len x22)) 150) then some true
 else Z.bnd (Z.wrap .i64 (Z.add s1.2 1)) fun (x23 : Int) =>
 k2 (s3.1,x23))
 else none)
 else none) (s1.1,0)
 else (bif (Z.igt (Z.ofN (Z.len d0.1)) 6) then some true
 else some (Z.zQx false true (Z.igt s1.1 40000))))
 else (bif (Z.igt (Z.ofN (Z.len d0.1)) 6) then some true
 else some (Z.zQx false true (Z.igt s1.1 40000))))) (0,0)
def yZm : PFn:={ args:=[(.pair (.list (.list (.list (.int .u8)))) .unit)],res:=[.bool],fn:=zYn }
def uZf : List LSpec×List Nat:=([{ id:=1700,known:=true,toks:=[],items:=[.slot 3 (.val (.int .i64)), .slot 4 (.val (.int .i64))],junk:=[6,7,8,9,10,11,12,13,14,5,17,18,19,20,21,22,23,24,25,26,27,28,31,32,33,34,35,36,37,38,39,40,41,42,29,30,43,44,45,46,47,48,49,2,15,16],tails:=[] },{ id:=1701,known:=true,toks:=[],items:=[.slot 3 (.val (.int .i64)), .slot 5 (.val (.int .i64))],junk:=[17,18,19,20,21,22,23,24,25,26,27,28,31,32,33,34,35,36,37,38,39,40,41,42,29,30],tails:=[] }],[])
def uZd : List LSpec×List Nat:=([{ id:=3200,known:=false,toks:=[],items:=[],junk:=[],tails:=[] }],[6000000006])
def uZb : List LSpec×List Nat:=([],[5])
def uZe : List LSpec×List Nat:=([{ id:=2800,known:=true,toks:=[(9000000,(.int .u8)),(9000000,(.mix 900000001 (.int .u8))),(7005000,(.mix 900000001 (.mix 900000002 (.int .u8))))],items:=[.slot 18 (.val (.int .i64)), .cells 1000004 [.val (.mix 2005000 (.mix 12005000 (.mix 22005000 (.int .u8))))], .rows 2005000 (.mix 12005000 (.mix 22005000 (.int .u8))), .rows 22005000 (.int .u8), .rows 12005000 (.mix 22005000 (.int .u8))],junk:=[19,20,21,22,5,6,23,24,25,26,27,28,29,30,31,32,33,34,35],tails:=[] }],[4000000001])
def uZc : List LSpec×List Nat:=([{ id:=5900,known:=false,toks:=[],items:=[],junk:=[],tails:=[] }],[6000000006])
def spt17 : Tab (List LSpec×List Nat):=(.node (.node (.node .leaf none (.node .leaf none (.node .leaf none (.node .leaf (some uZc) .leaf)))) none (.node (.node (.node .leaf (some uZf) .leaf) none .leaf) none .leaf)) none (.node (.node (.node (.node (.node .leaf (some uZd) .leaf) none .leaf) none .leaf) none (.node (.node (.node (.node .leaf (some uZb) .leaf) none .leaf) none .leaf) none (.node .leaf (some uZe) .leaf))) none .leaf))
def spf17 (f : Nat) : List LSpec×List Nat:=(spt17.get f).getD ([],[])
theorem xWt : zW4 Try.prog cfg 17 yZm:=fnD spf17 (l:=[]) zXn zQ2 .nil (fun d=>by kernel_rfl)
def zZw (d0 : List TSe) : Option (Bool) :=
 Z.loop (fun (s1 : (Int)×(Int)) k2 =>
 (bif (Z.ilt s1.2 (Z.ofN (Z.len d0))) then (bif (Z.zQx true (Z.ilt s1.2 2000) false) then if (Z.Ix s1.2 (Z.len d0)) then Z.bnd (Z.get d0 (Z.toN s1.2) (0,(0,(0,(([] : List (Int)),()))))) fun (x5 : (Int)×((Int)×((Int)×((List (Int))×(Unit))))) =>
 Z.bnd (Z.wrap .i64 (Z.add s1.1 (Z.imax false (Z.ofN (Z.len x5.2.2.2.1)) 100000))) fun (x6 : Int) =>
 Z.bnd (Z.wrap .i64 (Z.add s1.2 1)) fun (x7 : Int) =>
 k2 (x6,x7)
 else none
 else (bif (Z.igt (Z.ofN (Z.len d0)) 2000) then some true
 else some (Z.zQx false true (Z.igt s1.1 200000))))
 else (bif (Z.igt (Z.ofN (Z.len d0)) 2000) then some true
 else some (Z.zQx false true (Z.igt s1.1 200000))))) (0,0)
def zJ9 : PFn:={ args:=[(.list (.pair (.int .u8) (.pair (.int .i64) (.pair (.int .i64) (.pair (.list (.int .u8)) .unit)))))],res:=[.bool],fn:=zZw }
def uXk : List LSpec×List Nat:=([{ id:=3100,known:=true,toks:=[],items:=[.slot 3 (.val (.int .i64)), .slot 4 (.val (.int .i64))],junk:=[5,6,7,8,9,10,11,12,15,16,17,18,19,20,21,22,23,13,14],tails:=[] }],[])
def uXj : List LSpec×List Nat:=([{ id:=3200,known:=false,toks:=[],items:=[],junk:=[],tails:=[] }],[6000000006])
def uXh : List LSpec×List Nat:=([],[5])
def uXl : List LSpec×List Nat:=([{ id:=2800,known:=true,toks:=[(9000000,(.int .u8)),(9000000,(.mix 900000001 (.int .u8))),(7005000,(.mix 900000001 (.mix 900000002 (.int .u8))))],items:=[.slot 18 (.val (.int .i64)), .cells 1000004 [.val (.mix 2005000 (.mix 12005000 (.mix 22005000 (.int .u8))))], .rows 2005000 (.mix 12005000 (.mix 22005000 (.int .u8))), .rows 22005000 (.int .u8), .rows 12005000 (.mix 22005000 (.int .u8))],junk:=[19,20,21,22,5,6,23,24,25,26,27,28,29,30,31,32,33,34,35],tails:=[] }],[4000000001])
def uXi : List LSpec×List Nat:=([{ id:=5900,known:=false,toks:=[],items:=[],junk:=[],tails:=[] }],[6000000006])
def spt31 : Tab (List LSpec×List Nat):=(.node (.node (.node (.node (.node (.node .leaf (some uXk) .leaf) none .leaf) none .leaf) none (.node .leaf none (.node .leaf none (.node .leaf (some uXi) .leaf)))) none .leaf) none (.node (.node (.node (.node (.node .leaf (some uXj) .leaf) none .leaf) none .leaf) none (.node (.node (.node (.node .leaf (some uXh) .leaf) none .leaf) none .leaf) none (.node .leaf (some uXl) .leaf))) none .leaf))
def spf31 (f : Nat) : List LSpec×List Nat:=(spt31.get f).getD ([],[])
theorem yZh : zW4 Try.prog cfg 31 zJ9:=fnD spf31 (l:=[]) zXn zQ2 .nil (fun d=>by kernel_rfl)
def zX6 (d0 : List (List (Int))) : Option (List (List (Int))) :=
 Z.loop (fun (s1 : (MixE (List (Int)))×((List (List (List (Int))))×(Int))) k2 =>
 (bif (Z.ilt s1.2.2 (Z.ofN (Z.len d0))) then if (Z.Ix s1.2.2 (Z.len d0)) then Z.bnd (Z.get d0 (Z.toN s1.2.2) ([] : List (Int))) fun (x5 : List (Int)) =>
 if (Z.Le (Z.addN 0 0) (Z.len ([] : List (Int)))) then if (Z.Big (Z.len (Z.seg ([] : List (Int)) 0 0)) (Z.len x5) 1) then none
 else Z.bnd (Z.app (Z.seg ([] : List (Int)) 0 0) x5) fun (x10 : List (Int)) =>
 if (Z.Le (Z.addN 0 1) (Z.len (x10::([] : List (List (Int)))))) then if (Z.XGr s1.2.1 s1.1) then if (Z.EqN (Z.len (Z.seg (x10::([] : List (List (Int)))) 0 1)) 0) then Z.bnd (Z.wrap .i64 (Z.add s1.2.2 1)) fun (x17 : Int) =>
 k2 (s1.1,(s1.2.1,x17))
 else if (Z.Big (Z.xlen s1.1) (Z.len (Z.seg (x10::([] : List (List (Int)))) 0 1)) 24) then none
 else Z.bnd (Z.xapp s1.2.1 s1.1 (Z.seg (x10::([] : List (List (Int)))) 0 1)) fun (x20 : List (List (List (Int)))) =>
 Z.bnd (Z.wJw s1.1 (Z.len (Z.seg (x10::([] : List (List (Int)))) 0 1))) fun (x21 : MixE (List (Int))) =>
 Z.bnd (Z.wrap .i64 (Z.add s1.2.2 1)) fun (x22 : Int) =>
 k2 (x21,(x20,x22))
 else none
 else none
 else none
 else none
 else if (Z.XW s1.2.1 s1.1) then Z.bnd (Z.xget s1.2.1 s1.1) fun (x25 : List (List (Int))) =>
 some x25
 else none)) ((Z.xnew (α:=List (Int)) 0 0),((([] : List (List (Int)))::([] : List (List (List (Int))))),0))
def zK8 : PFn:={ args:=[(.list (.list (.int .u8)))],res:=[(.list (.list (.int .u8)))],fn:=zX6 }
def uX5 : List LSpec×List Nat:=([{ id:=2000,known:=true,toks:=[(8000003,(.list (.int .u8)))],items:=[.slot 3 (.val (.mix 1000003 (.list (.int .u8)))), .rows 1000003 (.list (.int .u8)), .slot 4 (.val (.int .i64))],junk:=[5,6,7,8,11,12,13,14,15,16,17,18,19,9,10],tails:=[] }],[])
def uX3 : List LSpec×List Nat:=([{ id:=3200,known:=false,toks:=[],items:=[],junk:=[],tails:=[] }],[6000000006])
def uX1 : List LSpec×List Nat:=([],[5])
def uX4 : List LSpec×List Nat:=([{ id:=2800,known:=true,toks:=[(9000000,(.int .u8)),(9000000,(.mix 900000001 (.int .u8))),(7005000,(.mix 900000001 (.mix 900000002 (.int .u8))))],items:=[.slot 18 (.val (.int .i64)), .cells 1000004 [.val (.mix 2005000 (.mix 12005000 (.mix 22005000 (.int .u8))))], .rows 2005000 (.mix 12005000 (.mix 22005000 (.int .u8))), .rows 22005000 (.int .u8), .rows 12005000 (.mix 22005000 (.int .u8))],junk:=[19,20,21,22,5,6,23,24,25,26,27,28,29,30,31,32,33,34,35],tails:=[] }],[4000000001])
def uX2 : List LSpec×List Nat:=([{ id:=5900,known:=false,toks:=[],items:=[],junk:=[],tails:=[] }],[6000000006])
def spt20 : Tab (List LSpec×List Nat):=(.node (.node (.node .leaf none (.node .leaf none (.node .leaf none (.node .leaf (some uX2) .leaf)))) none .leaf) none (.node (.node (.node (.node (.node .leaf (some uX3) .leaf) none .leaf) none .leaf) none (.node (.node (.node (.node .leaf (some uX1) .leaf) none .leaf) (some uX5) .leaf) none (.node .leaf (some uX4) .leaf))) none .leaf))
def spf20 (f : Nat) : List LSpec×List Nat:=(spt20.get f).getD ([],[])
def zK9 : OFn:={ args:=[(.list (.list (.int .u8)))],ores:=[(.own (.list (.int .u8)))],fn:=zX6 }
theorem yQd : OwnD Try.prog cfg 20 zK9∧zW4 Try.prog cfg 20 zK9.pfn:=fnO spf20 [] (l:=[]) (lo:=[]) zXn zQ2 .nil .nil (fun d=>by kernel_rfl)
theorem yQa : zW4 Try.prog cfg 20 zK8:=yQd.2
def yWm (d0 : (List (List (List (Int))))×(Unit)) : Option ((List (List (List (Int))))×(Unit)) :=
 if (Z.EqN 0 (Z.len ([] : List (List (List (Int)))))) then Z.loop (fun (s3 : (Int)×(List (List (List (Int))))) k4 =>
 (bif (Z.ilt s3.1 (Z.ofN (Z.len d0.1))) then if (Z.Ix s3.1 (Z.len d0.1)) then Z.bnd (Z.get d0.1 (Z.toN s3.1) ([] : List (List (Int)))) fun (x7 : List (List (Int))) =>
 Z.bind (zX6 x7) fun (x8 : List (List (Int))) =>
 if (Z.Le (Z.addN 0 1) (Z.len (x8::([] : List (List (List (Int))))))) then if (Z.Big (Z.len s3.2) (Z.len (Z.seg (x8::([] : List (List (List (Int))))) 0 1)) 24) then none
 else if (Z.EqN (Z.len s3.2) (Z.len s3.2)) then Z.bnd (Z.app s3.2 (Z.seg (x8::([] : List (List (List (Int))))) 0 1)) fun (x15 : List (List (List (Int)))) =>
 Z.bnd (Z.wrap .i64 (Z.add s3.1 1)) fun (x16 : Int) =>
 if (Z.EqN (Z.len x15) (Z.len x15)) then k4 (x16,x15)
 else none
 else none
 else none
 else none
 else some (s3.2,()))) (0,([] : List (List (List (Int)))))
 else none
def yJf : PFn:={ args:=[(.pair (.list (.list (.list (.int .u8)))) .unit)],res:=[(.pair (.list (.list (.list (.int .u8)))) .unit)],fn:=yWm }
def uZa : List LSpec×List Nat:=([{ id:=1900,known:=true,toks:=[(2002000,(.list (.list (.int .u8))))],items:=[.slot 4 (.val (.int .i64)), .cells 1000003 [.slt (.list (.list (.int .u8))) (some 2002000) false]],junk:=[5,6,7,8,9,12,13,14,15,16,17,18,19,20,21,22,10,11],tails:=[(2002000,2002000)] }],[])
def uX8 : List LSpec×List Nat:=([{ id:=3200,known:=false,toks:=[],items:=[],junk:=[],tails:=[] }],[6000000006])
def uX6 : List LSpec×List Nat:=([],[5])
def uX9 : List LSpec×List Nat:=([{ id:=2800,known:=true,toks:=[(9000000,(.int .u8)),(9000000,(.mix 900000001 (.int .u8))),(7005000,(.mix 900000001 (.mix 900000002 (.int .u8))))],items:=[.slot 18 (.val (.int .i64)), .cells 1000004 [.val (.mix 2005000 (.mix 12005000 (.mix 22005000 (.int .u8))))], .rows 2005000 (.mix 12005000 (.mix 22005000 (.int .u8))), .rows 22005000 (.int .u8), .rows 12005000 (.mix 22005000 (.int .u8))],junk:=[19,20,21,22,5,6,23,24,25,26,27,28,29,30,31,32,33,34,35],tails:=[] }],[4000000001])
def uX7 : List LSpec×List Nat:=([{ id:=5900,known:=false,toks:=[],items:=[],junk:=[],tails:=[] }],[6000000006])
def spt19 : Tab (List LSpec×List Nat):=(.node (.node (.node .leaf none (.node (.node .leaf (some uZa) .leaf) none (.node .leaf none (.node .leaf (some uX7) .leaf)))) none .leaf) none (.node (.node (.node (.node (.node .leaf (some uX8) .leaf) none .leaf) none .leaf) none (.node (.node (.node (.node .leaf (some uX6) .leaf) none .leaf) none .leaf) none (.node .leaf (some uX9) .leaf))) none .leaf))
def spf19 (f : Nat) : List LSpec×List Nat:=(spt19.get f).getD ([],[])
theorem xZ1 : zW4 Try.prog cfg 19 yJf:=fnD spf19 (l:=[(20,zK8)]) zXn zQ2 (.cons yQa .nil) (fun d=>by kernel_rfl)
def zJm (d0 : (List (List (List (Int))))×(Unit)) : Option (((List (List (List (Int))))×(List (List (MixE (List (Int))))))×((MixE (MixE (List (Int))))×(Unit))) :=
 Z.loop (fun (s1 : (Int)×((List (List (MixE (List (Int)))))×((List (List (List (Int))))×(MixE (MixE (List (Int))))))) k2 =>
 (bif (Z.ilt s1.1 (Z.ofN (Z.len d0.1))) then if (Z.Ix s1.1 (Z.len d0.1)) then Z.bnd (Z.get d0.1 (Z.toN s1.1) ([] : List (List (Int)))) fun (x5 : List (List (Int))) =>
 Z.bind (zX6 x5) fun (x6 : List (List (Int))) =>
 Z.bnd (Z.app s1.2.2.1 (x6::([] : List (List (List (Int)))))) fun (x7 : List (List (List (Int)))) =>
 if (Z.XGr s1.2.1 s1.2.2.2) then if (Z.EqN (Z.len ((Z.xrow (Z.len s1.2.2.1) x6)::([] : List (MixE (List (Int)))))) 0) then Z.bnd (Z.wrap .i64 (Z.add s1.1 1)) fun (x12 : Int) =>
 k2 (x12,(s1.2.1,(x7,s1.2.2.2)))
 else if (Z.Big (Z.xlen s1.2.2.2) (Z.len ((Z.xrow (Z.len s1.2.2.1) x6)::([] : List (MixE (List (Int)))))) 24) then none
 else Z.bnd (Z.xapp s1.2.1 s1.2.2.2 ((Z.xrow (Z.len s1.2.2.1) x6)::([] : List (MixE (List (Int)))))) fun (x15 : List (List (MixE (List (Int))))) =>
 Z.bnd (Z.wJw s1.2.2.2 (Z.len ((Z.xrow (Z.len s1.2.2.1) x6)::([] : List (MixE (List (Int))))))) fun (x16 : MixE (MixE (List (Int)))) =>
 Z.bnd (Z.wrap .i64 (Z.add s1.1 1)) fun (x17 : Int) =>
 k2 (x17,(x15,(x7,x16)))
 else none
 else none
 else some ((s1.2.2.1,s1.2.1),(s1.2.2.2,())))) (0,((([] : List (MixE (List (Int))))::([] : List (List (MixE (List (Int)))))),(([] : List (List (List (Int)))),(Z.xnew (α:=MixE (List (Int))) 0 0))))
def wQ7 : List LSpec×List Nat:=([{ id:=1900,known:=true,toks:=[(9000000,(.list (.int .u8))),(7002000,(.mix 900000001 (.list (.int .u8))))],items:=[.slot 4 (.val (.int .i64)), .rows 2002000 (.mix 12002000 (.list (.int .u8))), .rows 12002000 (.list (.int .u8)), .cells 1000003 [.val (.mix 2002000 (.mix 12002000 (.list (.int .u8))))]],junk:=[5,6,7,8,9,12,13,14,15,16,17,18,19,20,21,22,10,11],tails:=[] }],[])
def wQ5 : List LSpec×List Nat:=([{ id:=3200,known:=false,toks:=[],items:=[],junk:=[],tails:=[] }],[6000000006])
def wQ2 : List LSpec×List Nat:=([],[5])
def wQ4 : List LSpec×List Nat:=([{ id:=3700,known:=false,toks:=[],items:=[],junk:=[],tails:=[] }],[888888])
def wQ6 : List LSpec×List Nat:=([{ id:=2800,known:=true,toks:=[(9000000,(.int .u8)),(9000000,(.mix 900000001 (.int .u8))),(7005000,(.mix 900000001 (.mix 900000002 (.int .u8))))],items:=[.slot 18 (.val (.int .i64)), .cells 1000004 [.val (.mix 2005000 (.mix 12005000 (.mix 22005000 (.int .u8))))], .rows 2005000 (.mix 12005000 (.mix 22005000 (.int .u8))), .rows 22005000 (.int .u8), .rows 12005000 (.mix 22005000 (.int .u8))],junk:=[19,20,21,22,5,6,23,24,25,26,27,28,29,30,31,32,33,34,35],tails:=[] }],[4000000001])
def wQ3 : List LSpec×List Nat:=([{ id:=5900,known:=false,toks:=[],items:=[],junk:=[],tails:=[] }],[6000000006])
def wYu : Tab (List LSpec×List Nat):=(.node (.node (.node .leaf none (.node (.node .leaf (some wQ7) .leaf) none (.node .leaf none (.node .leaf (some wQ3) .leaf)))) none (.node .leaf none (.node (.node (.node .leaf (some wQ4) .leaf) none .leaf) none .leaf))) none (.node (.node (.node (.node (.node .leaf (some wQ5) .leaf) none .leaf) none .leaf) none (.node (.node (.node (.node .leaf (some wQ2) .leaf) none .leaf) none .leaf) none (.node .leaf (some wQ6) .leaf))) none .leaf))
def wYx (f : Nat) : List LSpec×List Nat:=(wYu.get f).getD ([],[])
def yW9 : RFn:={ args:=[(.pair (.list (.list (.list (.int .u8)))) .unit)],objs:=[(.list (.int .u8)),(.mix 0 (.list (.int .u8)))],res:=[(.pair (.mix 1 (.mix 0 (.list (.int .u8)))) .unit)],fn:=zJm }
theorem yYz : OwnR Try.prog cfg 19 yW9:=fnR wYx [] (l:=[(20,zK8)]) (lo:=[(20,zK9)]) (lr:=[]) zXn zQ2 (.cons yQa .nil) (.cons yQd.1 .nil) .nil (fun d=>by kernel_rfl)
def zKh (d0 : List TSe) : Option (List TSe) :=
 if (Z.EqN 0 (Z.len ([] : List TSe))) then Z.loop (fun (s3 : (List TSe)×(Int)) k4 =>
 (bif (Z.ilt s3.2 (Z.ofN (Z.len d0))) then if (Z.Ix s3.2 (Z.len d0)) then Z.bnd (Z.get d0 (Z.toN s3.2) (0,(0,(0,(([] : List (Int)),()))))) fun (x7 : (Int)×((Int)×((Int)×((List (Int))×(Unit))))) =>
 if (Z.Le (Z.addN 0 0) (Z.len ([] : List (Int)))) then if (Z.Big (Z.len (Z.seg ([] : List (Int)) 0 0)) (Z.len x7.2.2.2.1) 1) then none
 else Z.bnd (Z.app (Z.seg ([] : List (Int)) 0 0) x7.2.2.2.1) fun (x12 : List (Int)) =>
 if (Z.Le (Z.addN 0 1) (Z.len ((x7.1,(x7.2.1,(x7.2.2.1,(x12,()))))::([] : List TSe)))) then if (Z.Big (Z.len s3.1) (Z.len (Z.seg ((x7.1,(x7.2.1,(x7.2.2.1,(x12,()))))::([] : List TSe)) 0 1)) 48) then none
 else if (Z.EqN (Z.len s3.1) (Z.len s3.1)) then Z.bnd (Z.app s3.1 (Z.seg ((x7.1,(x7.2.1,(x7.2.2.1,(x12,()))))::([] : List TSe)) 0 1)) fun (x19 : List TSe) =>
 Z.bnd (Z.wrap .i64 (Z.add s3.2 1)) fun (x20 : Int) =>
 if (Z.EqN (Z.len x19) (Z.len x19)) then k4 (x19,x20)
 else none
 else none
 else none
 else none
 else none
 else some s3.1)) (([] : List TSe),0)
 else none
def yQb : PFn:={ args:=[(.list (.pair (.int .u8) (.pair (.int .i64) (.pair (.int .i64) (.pair (.list (.int .u8)) .unit)))))],res:=[(.list (.pair (.int .u8) (.pair (.int .i64) (.pair (.int .i64) (.pair (.list (.int .u8)) .unit)))))],fn:=zKh }
def uXf : List LSpec×List Nat:=([{ id:=3200,known:=true,toks:=[(3,(.pair (.int .u8) (.pair (.int .i64) (.pair (.int .i64) (.pair (.list (.int .u8)) .unit)))))],items:=[.slot 3 (.slt (.pair (.int .u8) (.pair (.int .i64) (.pair (.int .i64) (.pair (.list (.int .u8)) .unit)))) (some 1000003) false), .slot 4 (.val (.int .i64))],junk:=[6,7,8,9,12,13,14,15,5,16,17,18,19,20,21,22,23,24,10,11],tails:=[(1000003,3)] }],[6000000006])
def uXd : List LSpec×List Nat:=([],[5])
def uXg : List LSpec×List Nat:=([{ id:=2800,known:=true,toks:=[(9000000,(.int .u8)),(9000000,(.mix 900000001 (.int .u8))),(7005000,(.mix 900000001 (.mix 900000002 (.int .u8))))],items:=[.slot 18 (.val (.int .i64)), .cells 1000004 [.val (.mix 2005000 (.mix 12005000 (.mix 22005000 (.int .u8))))], .rows 2005000 (.mix 12005000 (.mix 22005000 (.int .u8))), .rows 22005000 (.int .u8), .rows 12005000 (.mix 22005000 (.int .u8))],junk:=[19,20,21,22,5,6,23,24,25,26,27,28,29,30,31,32,33,34,35],tails:=[] }],[4000000001])
def uXe : List LSpec×List Nat:=([{ id:=5900,known:=false,toks:=[],items:=[],junk:=[],tails:=[] }],[6000000006])
def spt32 : Tab (List LSpec×List Nat):=(.node (.node (.node .leaf none (.node .leaf none (.node .leaf none (.node .leaf (some uXe) .leaf)))) none .leaf) none (.node (.node (.node (.node (.node .leaf (some uXf) .leaf) none .leaf) none .leaf) none (.node (.node (.node (.node .leaf (some uXd) .leaf) none .leaf) none .leaf) none (.node .leaf (some uXg) .leaf))) none .leaf))
def spf32 (f : Nat) : List LSpec×List Nat:=(spt32.get f).getD ([],[])
theorem yKl : zW4 Try.prog cfg 32 yQb:=fnD spf32 (l:=[]) zXn zQ2 .nil (fun d=>by kernel_rfl)
def zXh (d0 : (Int)×((Int)×((Int)×(Unit)))) : Option (Bool) :=
 (bif (Z.ile d0.2.1 d0.1) then some (Z.zQx true (Z.ile d0.1 d0.2.2.1) false)
 else some false)
def zZ4 : PFn:={ args:=[(.pair (.int .i64) (.pair (.int .i64) (.pair (.int .i64) .unit)))],res:=[.bool],fn:=zXh }
def vYr : List LSpec×List Nat:=([{ id:=3200,known:=false,toks:=[],items:=[],junk:=[],tails:=[] }],[6000000006])
def vYp : List LSpec×List Nat:=([],[5])
def vYs : List LSpec×List Nat:=([{ id:=2800,known:=true,toks:=[(9000000,(.int .u8)),(9000000,(.mix 900000001 (.int .u8))),(7005000,(.mix 900000001 (.mix 900000002 (.int .u8))))],items:=[.slot 18 (.val (.int .i64)), .cells 1000004 [.val (.mix 2005000 (.mix 12005000 (.mix 22005000 (.int .u8))))], .rows 2005000 (.mix 12005000 (.mix 22005000 (.int .u8))), .rows 22005000 (.int .u8), .rows 12005000 (.mix 22005000 (.int .u8))],junk:=[19,20,21,22,5,6,23,24,25,26,27,28,29,30,31,32,33,34,35],tails:=[] }],[4000000001])
def vYq : List LSpec×List Nat:=([{ id:=5900,known:=false,toks:=[],items:=[],junk:=[],tails:=[] }],[6000000006])
def spt77 : Tab (List LSpec×List Nat):=(.node (.node (.node .leaf none (.node .leaf none (.node .leaf none (.node .leaf (some vYq) .leaf)))) none .leaf) none (.node (.node (.node (.node (.node .leaf (some vYr) .leaf) none .leaf) none .leaf) none (.node (.node (.node (.node .leaf (some vYp) .leaf) none .leaf) none .leaf) none (.node .leaf (some vYs) .leaf))) none .leaf))
def spf77 (f : Nat) : List LSpec×List Nat:=(spt77.get f).getD ([],[])
theorem zYq : zW4 Try.prog cfg 77 zZ4:=fnD spf77 (l:=[]) zXn zQ2 .nil (fun d=>by kernel_rfl)
def yQ5 (d0 : Int) : Option (Int) :=
 (bif (Z.ilt d0 1) then some 2
 else (bif (Z.zQx false true (Z.igt d0 6)) then some 2
 else some 0))
def yXs : PFn:={ args:=[(.int .i64)],res:=[(.int .i64)],fn:=yQ5 }
def vY4 : List LSpec×List Nat:=([{ id:=3200,known:=false,toks:=[],items:=[],junk:=[],tails:=[] }],[6000000006])
def vY2 : List LSpec×List Nat:=([],[5])
def vY5 : List LSpec×List Nat:=([{ id:=2800,known:=true,toks:=[(9000000,(.int .u8)),(9000000,(.mix 900000001 (.int .u8))),(7005000,(.mix 900000001 (.mix 900000002 (.int .u8))))],items:=[.slot 18 (.val (.int .i64)), .cells 1000004 [.val (.mix 2005000 (.mix 12005000 (.mix 22005000 (.int .u8))))], .rows 2005000 (.mix 12005000 (.mix 22005000 (.int .u8))), .rows 22005000 (.int .u8), .rows 12005000 (.mix 22005000 (.int .u8))],junk:=[19,20,21,22,5,6,23,24,25,26,27,28,29,30,31,32,33,34,35],tails:=[] }],[4000000001])
def vY3 : List LSpec×List Nat:=([{ id:=5900,known:=false,toks:=[],items:=[],junk:=[],tails:=[] }],[6000000006])
def spt71 : Tab (List LSpec×List Nat):=(.node (.node (.node .leaf none (.node .leaf none (.node .leaf none (.node .leaf (some vY3) .leaf)))) none .leaf) none (.node (.node (.node (.node (.node .leaf (some vY4) .leaf) none .leaf) none .leaf) none (.node (.node (.node (.node .leaf (some vY2) .leaf) none .leaf) none .leaf) none (.node .leaf (some vY5) .leaf))) none .leaf))
def spf71 (f : Nat) : List LSpec×List Nat:=(spt71.get f).getD ([],[])
theorem yJe : zW4 Try.prog cfg 71 yXs:=fnD spf71 (l:=[]) zXn zQ2 .nil (fun d=>by kernel_rfl)
def yWu (d0 : Int) : Option ((Int)×(Int)) :=
 Z.bind (yQ5 d0) fun (x1 : Int) =>
 (bif (Z.ine x1 0) then some (0,x1)
 else if (Z.Neg d0) then none
 else Z.bnd (Z.shl .i64 1 d0) fun (x4 : Int) =>
 some (x4,0))
def yJi : PFn:={ args:=[(.int .i64)],res:=[(.int .i64),(.int .i64)],fn:=yWu }
def vYa : List LSpec×List Nat:=([{ id:=3200,known:=false,toks:=[],items:=[],junk:=[],tails:=[] }],[6000000006])
def vJ8 : List LSpec×List Nat:=([],[5])
def vYb : List LSpec×List Nat:=([{ id:=2800,known:=true,toks:=[(9000000,(.int .u8)),(9000000,(.mix 900000001 (.int .u8))),(7005000,(.mix 900000001 (.mix 900000002 (.int .u8))))],items:=[.slot 18 (.val (.int .i64)), .cells 1000004 [.val (.mix 2005000 (.mix 12005000 (.mix 22005000 (.int .u8))))], .rows 2005000 (.mix 12005000 (.mix 22005000 (.int .u8))), .rows 22005000 (.int .u8), .rows 12005000 (.mix 22005000 (.int .u8))],junk:=[19,20,21,22,5,6,23,24,25,26,27,28,29,30,31,32,33,34,35],tails:=[] }],[4000000001])
def vJ9 : List LSpec×List Nat:=([{ id:=5900,known:=false,toks:=[],items:=[],junk:=[],tails:=[] }],[6000000006])
def spt82 : Tab (List LSpec×List Nat):=(.node (.node (.node .leaf none (.node .leaf none (.node .leaf none (.node .leaf (some vJ9) .leaf)))) none .leaf) none (.node (.node (.node (.node (.node .leaf (some vYa) .leaf) none .leaf) none .leaf) none (.node (.node (.node (.node .leaf (some vJ8) .leaf) none .leaf) none .leaf) none (.node .leaf (some vYb) .leaf))) none .leaf))
def spf82 (f : Nat) : List LSpec×List Nat:=(spt82.get f).getD ([],[])
theorem xZ4 : zW4 Try.prog cfg 82 yJi:=fnD spf82 (l:=[(71,yXs)]) zXn zQ2 (.cons yJe .nil) (fun d=>by kernel_rfl)
def yZ6 (d0 : Int) : Option (Int) :=
 Z.loop (fun (s1 : Int) k2 =>
 Z.bind (yWu s1) fun (x3 : (Int)×(Int)) =>
 (bif (Z.ine x3.2 0) then some s1
 else (bif (Z.zQx false true (Z.ige x3.1 d0)) then some s1
 else Z.bnd (Z.wrap .i64 (Z.add s1 1)) fun (x4 : Int) =>
 k2 x4))) 1
def xQa : PFn:={ args:=[(.int .i64)],res:=[(.int .i64)],fn:=yZ6 }
def vYf : List LSpec×List Nat:=([{ id:=3200,known:=false,toks:=[],items:=[],junk:=[],tails:=[] }],[6000000006])
def vYc : List LSpec×List Nat:=([{ id:=8100,known:=true,toks:=[],items:=[.slot 3 (.val (.int .i64))],junk:=[9,10,8,11,12,4,5,13,14,15,16,17,18,19,20,2,6,7],tails:=[] }],[])
def vYd : List LSpec×List Nat:=([],[5])
def vYg : List LSpec×List Nat:=([{ id:=2800,known:=true,toks:=[(9000000,(.int .u8)),(9000000,(.mix 900000001 (.int .u8))),(7005000,(.mix 900000001 (.mix 900000002 (.int .u8))))],items:=[.slot 18 (.val (.int .i64)), .cells 1000004 [.val (.mix 2005000 (.mix 12005000 (.mix 22005000 (.int .u8))))], .rows 2005000 (.mix 12005000 (.mix 22005000 (.int .u8))), .rows 22005000 (.int .u8), .rows 12005000 (.mix 22005000 (.int .u8))],junk:=[19,20,21,22,5,6,23,24,25,26,27,28,29,30,31,32,33,34,35],tails:=[] }],[4000000001])
def vYe : List LSpec×List Nat:=([{ id:=5900,known:=false,toks:=[],items:=[],junk:=[],tails:=[] }],[6000000006])
def spt81 : Tab (List LSpec×List Nat):=(.node (.node (.node .leaf none (.node .leaf none (.node .leaf none (.node .leaf (some vYe) .leaf)))) none (.node (.node (.node .leaf none (.node (.node .leaf (some vYc) .leaf) none .leaf)) none .leaf) none .leaf)) none (.node (.node (.node (.node (.node .leaf (some vYf) .leaf) none .leaf) none .leaf) none (.node (.node (.node (.node .leaf (some vYd) .leaf) none .leaf) none .leaf) none (.node .leaf (some vYg) .leaf))) none .leaf))
def spf81 (f : Nat) : List LSpec×List Nat:=(spt81.get f).getD ([],[])
theorem xYe : zW4 Try.prog cfg 81 xQa:=fnD spf81 (l:=[(82,yJi)]) zXn zQ2 (.cons xZ4 .nil) (fun d=>by kernel_rfl)
def zZb (d0 : TCf×((Int)×(Int))) : Option ((Int)×((Int)×((Int)×((Int)×(Unit))))) :=
 Z.bnd (Z.wrap .i64 (Z.add 8 d0.2.2)) fun (x1 : Int) =>
 Z.bnd (Z.wrap .i64 (Z.mul d0.1.2.2.2.1 x1)) fun (x2 : Int) =>
 Z.bnd (Z.wrap .i64 (Z.add x2 64)) fun (x3 : Int) =>
 Z.bind (yZ6 d0.2.1) fun (x4 : Int) =>
 some (d0.2.1,(d0.2.2,(x4,(x3,()))))
def yQs : PFn:={ args:=[(.pair (.int .i64) (.pair (.int .i64) (.pair (.int .i64) (.pair (.int .i64) (.pair (.int .i64) (.pair (.int .i64) (.pair (.int .i64) (.pair (.int .i64) (.pair (.int .i64) .unit))))))))),(.int .i64),(.int .i64)],res:=[(.pair (.int .i64) (.pair (.int .i64) (.pair (.int .i64) (.pair (.int .i64) .unit))))],fn:=zZb }
def vYn : List LSpec×List Nat:=([{ id:=3200,known:=false,toks:=[],items:=[],junk:=[],tails:=[] }],[6000000006])
def vYl : List LSpec×List Nat:=([],[5])
def vYo : List LSpec×List Nat:=([{ id:=2800,known:=true,toks:=[(9000000,(.int .u8)),(9000000,(.mix 900000001 (.int .u8))),(7005000,(.mix 900000001 (.mix 900000002 (.int .u8))))],items:=[.slot 18 (.val (.int .i64)), .cells 1000004 [.val (.mix 2005000 (.mix 12005000 (.mix 22005000 (.int .u8))))], .rows 2005000 (.mix 12005000 (.mix 22005000 (.int .u8))), .rows 22005000 (.int .u8), .rows 12005000 (.mix 22005000 (.int .u8))],junk:=[19,20,21,22,5,6,23,24,25,26,27,28,29,30,31,32,33,34,35],tails:=[] }],[4000000001])
def vYm : List LSpec×List Nat:=([{ id:=5900,known:=false,toks:=[],items:=[],junk:=[],tails:=[] }],[6000000006])
def spt79 : Tab (List LSpec×List Nat):=(.node (.node (.node .leaf none (.node .leaf none (.node .leaf none (.node .leaf (some vYm) .leaf)))) none .leaf) none (.node (.node (.node (.node (.node .leaf (some vYn) .leaf) none .leaf) none .leaf) none (.node (.node (.node (.node .leaf (some vYl) .leaf) none .leaf) none .leaf) none (.node .leaf (some vYo) .leaf))) none .leaf))
def spf79 (f : Nat) : List LSpec×List Nat:=(spt79.get f).getD ([],[])
theorem yZk : zW4 Try.prog cfg 79 yQs:=fnD spf79 (l:=[(81,xQa)]) zXn zQ2 (.cons xYe .nil) (fun d=>by kernel_rfl)
def zY2 (d0 : TCf×((Int)×((Int)×((Int)×((Int)×(Unit)))))) : Option (Bool) :=
 some (Z.ile d0.2.1 d0.1.2.2.2.2.2.2.2.2.1)
def zYr : PFn:={ args:=[(.pair (.int .i64) (.pair (.int .i64) (.pair (.int .i64) (.pair (.int .i64) (.pair (.int .i64) (.pair (.int .i64) (.pair (.int .i64) (.pair (.int .i64) (.pair (.int .i64) .unit))))))))),(.pair (.int .i64) (.pair (.int .i64) (.pair (.int .i64) (.pair (.int .i64) .unit))))],res:=[.bool],fn:=zY2 }
def vYj : List LSpec×List Nat:=([{ id:=3200,known:=false,toks:=[],items:=[],junk:=[],tails:=[] }],[6000000006])
def vYh : List LSpec×List Nat:=([],[5])
def vYk : List LSpec×List Nat:=([{ id:=2800,known:=true,toks:=[(9000000,(.int .u8)),(9000000,(.mix 900000001 (.int .u8))),(7005000,(.mix 900000001 (.mix 900000002 (.int .u8))))],items:=[.slot 18 (.val (.int .i64)), .cells 1000004 [.val (.mix 2005000 (.mix 12005000 (.mix 22005000 (.int .u8))))], .rows 2005000 (.mix 12005000 (.mix 22005000 (.int .u8))), .rows 22005000 (.int .u8), .rows 12005000 (.mix 22005000 (.int .u8))],junk:=[19,20,21,22,5,6,23,24,25,26,27,28,29,30,31,32,33,34,35],tails:=[] }],[4000000001])
def vYi : List LSpec×List Nat:=([{ id:=5900,known:=false,toks:=[],items:=[],junk:=[],tails:=[] }],[6000000006])
def spt80 : Tab (List LSpec×List Nat):=(.node (.node (.node .leaf none (.node .leaf none (.node .leaf none (.node .leaf (some vYi) .leaf)))) none .leaf) none (.node (.node (.node (.node (.node .leaf (some vYj) .leaf) none .leaf) none .leaf) none (.node (.node (.node (.node .leaf (some vYh) .leaf) none .leaf) none .leaf) none (.node .leaf (some vYk) .leaf))) none .leaf))
def spf80 (f : Nat) : List LSpec×List Nat:=(spt80.get f).getD ([],[])
theorem yXb : zW4 Try.prog cfg 80 zYr:=fnD spf80 (l:=[]) zXn zQ2 .nil (fun d=>by kernel_rfl)
def zYe (d0 : (Int)×((Int)×((Int)×((Int)×((Int)×((Int)×((Int)×((Int)×((Int)×(Unit)))))))))) : Option (Int) :=
 Z.bind (yX2 (d0.1,(d0.2.1,(d0.2.2.1,(d0.2.2.2.1,(d0.2.2.2.2.1,(d0.2.2.2.2.2.1,(d0.2.2.2.2.2.2.1,(d0.2.2.2.2.2.2.2.1,(d0.2.2.2.2.2.2.2.2.1,())))))))))) fun (x1 : List ((Int)×((Int)×((Int)×(Unit))))) =>
 Z.loop (fun (s2 : Int) k3 =>
 (bif (Z.ilt s2 9) then if (Z.In s2 9) then Z.bnd (Z.get x1 (Z.toN s2) (0,(0,(0,())))) fun (x6 : (Int)×((Int)×((Int)×(Unit)))) =>
 Z.bind (zXh (x6.1,(x6.2.1,(x6.2.2.1,())))) fun (x7 : Bool) =>
 (bif (Z.bnot x7) then some 8
 else Z.bnd (Z.wrap .i64 (Z.add s2 1)) fun (x8 : Int) =>
 k3 x8)
 else none
 else Z.bind (zZb ((d0.1,(d0.2.1,(d0.2.2.1,(d0.2.2.2.1,(d0.2.2.2.2.1,(d0.2.2.2.2.2.1,(d0.2.2.2.2.2.2.1,(d0.2.2.2.2.2.2.2.1,(d0.2.2.2.2.2.2.2.2.1,()))))))))),(d0.1,d0.2.1))) fun (x9 : (Int)×((Int)×((Int)×((Int)×(Unit))))) =>
 Z.loop (fun (s10 : ((Int)×((Int)×((Int)×(Int))))×(Int)) k11 =>
 Z.bnd (Z.wrap .i64 (Z.add s10.2 1)) fun (x12 : Int) =>
 Z.bind (zY2 ((d0.1,(d0.2.1,(d0.2.2.1,(d0.2.2.2.1,(d0.2.2.2.2.1,(d0.2.2.2.2.2.1,(d0.2.2.2.2.2.2.1,(d0.2.2.2.2.2.2.2.1,(d0.2.2.2.2.2.2.2.2.1,()))))))))),(s10.1.1,(s10.1.2.1,(s10.1.2.2.1,(s10.1.2.2.2,())))))) fun (x13 : Bool) =>
 (bif (Z.zQx true (Z.bnot x13) false) then Z.bnd (Z.wrap .i64 (Z.add s10.1.1 d0.2.2.1)) fun (x14 : Int) =>
 Z.bnd (Z.wrap .i64 (Z.sub x14 1)) fun (x15 : Int) =>
 if (Z.IsZ d0.2.2.1) then none
 else Z.bnd (Z.wrap .i64 (Z.tdiv x15 d0.2.2.1)) fun (x18 : Int) =>
 Z.bnd (Z.wrap .i64 (Z.mul 4 d0.2.2.1)) fun (x19 : Int) =>
 Z.bind (zZb ((d0.1,(d0.2.1,(d0.2.2.1,(d0.2.2.2.1,(d0.2.2.2.2.1,(d0.2.2.2.2.2.1,(d0.2.2.2.2.2.2.1,(d0.2.2.2.2.2.2.2.1,(d0.2.2.2.2.2.2.2.2.1,()))))))))),(x18,x19))) fun (x20 : (Int)×((Int)×((Int)×((Int)×(Unit))))) =>
 k11 ((x20.1,(x20.2.1,(x20.2.2.1,x20.2.2.2.1))),x12)
 else (bif (Z.igt x12 4) then some 8
 else some 0))) ((x9.1,(x9.2.1,(x9.2.2.1,x9.2.2.2.1))),0))) 0
def yJl : PFn:={ args:=[(.pair (.int .i64) (.pair (.int .i64) (.pair (.int .i64) (.pair (.int .i64) (.pair (.int .i64) (.pair (.int .i64) (.pair (.int .i64) (.pair (.int .i64) (.pair (.int .i64) .unit)))))))))],res:=[(.int .i64)],fn:=zYe }
def uQa : List LSpec×List Nat:=([{ id:=3200,known:=false,toks:=[],items:=[],junk:=[],tails:=[] }],[6000000006])
def vY6 : List LSpec×List Nat:=([{ id:=7800,known:=true,toks:=[],items:=[.cells 1000003 [.val (.int .i64), .val (.int .i64), .val (.int .i64), .val (.int .i64)], .cells 1 [.val (.int .i64)]],junk:=[10,11,12,13,14,15,16,17,18,19,20,21,22,23,24,25,26,27,28,29,30,31,32],tails:=[] }],[])
def vY7 : List LSpec×List Nat:=([{ id:=6900,known:=true,toks:=[],items:=[.slot 8 (.val (.int .i64))],junk:=[9,10,4,11,12,13,2,14],tails:=[] }],[])
def vY8 : List LSpec×List Nat:=([],[5])
def uQb : List LSpec×List Nat:=([{ id:=2800,known:=true,toks:=[(9000000,(.int .u8)),(9000000,(.mix 900000001 (.int .u8))),(7005000,(.mix 900000001 (.mix 900000002 (.int .u8))))],items:=[.slot 18 (.val (.int .i64)), .cells 1000004 [.val (.mix 2005000 (.mix 12005000 (.mix 22005000 (.int .u8))))], .rows 2005000 (.mix 12005000 (.mix 22005000 (.int .u8))), .rows 22005000 (.int .u8), .rows 12005000 (.mix 22005000 (.int .u8))],junk:=[19,20,21,22,5,6,23,24,25,26,27,28,29,30,31,32,33,34,35],tails:=[] }],[4000000001])
def vY9 : List LSpec×List Nat:=([{ id:=5900,known:=false,toks:=[],items:=[],junk:=[],tails:=[] }],[6000000006])
def spt69 : Tab (List LSpec×List Nat):=(.node (.node (.node .leaf none (.node .leaf none (.node .leaf none (.node .leaf (some vY9) .leaf)))) none (.node .leaf none (.node (.node (.node (.node .leaf (some vY7) .leaf) none .leaf) none .leaf) none .leaf))) none (.node (.node (.node (.node (.node .leaf (some uQa) .leaf) none .leaf) none .leaf) none (.node (.node (.node (.node .leaf (some vY8) .leaf) none .leaf) none .leaf) none (.node .leaf (some uQb) .leaf))) none (.node .leaf none (.node .leaf none (.node (.node (.node .leaf (some vY6) .leaf) none .leaf) none .leaf)))))
def spf69 (f : Nat) : List LSpec×List Nat:=(spt69.get f).getD ([],[])
theorem xZ7 : zW4 Try.prog cfg 69 yJl:=fnD spf69 (l:=[(76,yZo),(77,zZ4),(79,yQs),(80,zYr)]) zXn zQ2 (.cons xWv (.cons zYq (.cons yZk (.cons yXb .nil)))) (fun d=>by kernel_rfl)
def zY3 (d0 : (Int)×((Int)×((Int)×((Int)×((Int)×((Int)×((Int)×((Int)×((Int)×(Unit)))))))))) : Option ((List ((Int)×((Int)×((Int)×((Int)×(Unit))))))×(Int)) :=
 Z.bind (zYe (d0.1,(d0.2.1,(d0.2.2.1,(d0.2.2.2.1,(d0.2.2.2.2.1,(d0.2.2.2.2.2.1,(d0.2.2.2.2.2.2.1,(d0.2.2.2.2.2.2.2.1,(d0.2.2.2.2.2.2.2.2.1,())))))))))) fun (x1 : Int) =>
 (bif (Z.ine x1 0) then some (([] : List ((Int)×((Int)×((Int)×((Int)×(Unit)))))),x1)
 else if (Z.MkOk 0 4 32) then Z.bind (zZb ((d0.1,(d0.2.1,(d0.2.2.1,(d0.2.2.2.1,(d0.2.2.2.2.1,(d0.2.2.2.2.2.1,(d0.2.2.2.2.2.2.1,(d0.2.2.2.2.2.2.2.1,(d0.2.2.2.2.2.2.2.2.1,()))))))))),(d0.1,d0.2.1))) fun (x4 : (Int)×((Int)×((Int)×((Int)×(Unit))))) =>
 if (Z.EqN (Z.toN 0) 0) then if (Z.EqN 0 (Z.len ([] : List ((Int)×((Int)×((Int)×((Int)×(Unit)))))))) then Z.loop (fun (s9 : ((Int)×((Int)×((Int)×(Int))))×(List ((Int)×((Int)×((Int)×((Int)×(Unit))))))) k10 =>
 if (Z.Le (Z.addN 0 1) (Z.len ((s9.1.1,(s9.1.2.1,(s9.1.2.2.1,(s9.1.2.2.2,()))))::([] : List ((Int)×((Int)×((Int)×((Int)×(Unit))))))))) then if (Z.Big (Z.len s9.2) (Z.len (Z.seg ((s9.1.1,(s9.1.2.1,(s9.1.2.2.1,(s9.1.2.2.2,()))))::([] : List ((Int)×((Int)×((Int)×((Int)×(Unit))))))) 0 1)) 32) then none
 else if (Z.EqN (Z.len s9.2) (Z.len s9.2)) then Z.bnd (Z.app s9.2 (Z.seg ((s9.1.1,(s9.1.2.1,(s9.1.2.2.1,(s9.1.2.2.2,()))))::([] : List ((Int)×((Int)×((Int)×((Int)×(Unit))))))) 0 1)) fun (x17 : List ((Int)×((Int)×((Int)×((Int)×(Unit)))))) =>
 Z.bind (zY2 ((d0.1,(d0.2.1,(d0.2.2.1,(d0.2.2.2.1,(d0.2.2.2.2.1,(d0.2.2.2.2.2.1,(d0.2.2.2.2.2.2.1,(d0.2.2.2.2.2.2.2.1,(d0.2.2.2.2.2.2.2.2.1,()))))))))),(s9.1.1,(s9.1.2.1,(s9.1.2.2.1,(s9.1.2.2.2,())))))) fun (x18 : Bool) =>
 (bif (Z.zQx true (Z.bnot x18) false) then Z.bnd (Z.wrap .i64 (Z.add s9.1.1 d0.2.2.1)) fun (x19 : Int) =>
 Z.bnd (Z.wrap .i64 (Z.sub x19 1)) fun (x20 : Int) =>
 if (Z.IsZ d0.2.2.1) then none
 else Z.bnd (Z.wrap .i64 (Z.tdiv x20 d0.2.2.1)) fun (x23 : Int) =>
 Z.bnd (Z.wrap .i64 (Z.mul 4 d0.2.2.1)) fun (x24 : Int) =>
 Z.bind (zZb ((d0.1,(d0.2.1,(d0.2.2.1,(d0.2.2.2.1,(d0.2.2.2.2.1,(d0.2.2.2.2.2.1,(d0.2.2.2.2.2.2.1,(d0.2.2.2.2.2.2.2.1,(d0.2.2.2.2.2.2.2.2.1,()))))))))),(x23,x24))) fun (x25 : (Int)×((Int)×((Int)×((Int)×(Unit))))) =>
 if (Z.EqN (Z.len x17) (Z.len x17)) then k10 ((x25.1,(x25.2.1,(x25.2.2.1,x25.2.2.2.1))),x17)
 else none
 else some (x17,0))
 else none
 else none) ((x4.1,(x4.2.1,(x4.2.2.1,x4.2.2.2.1))),([] : List ((Int)×((Int)×((Int)×((Int)×(Unit)))))))
 else none
 else none
 else none)
def yZp : PFn:={ args:=[(.pair (.int .i64) (.pair (.int .i64) (.pair (.int .i64) (.pair (.int .i64) (.pair (.int .i64) (.pair (.int .i64) (.pair (.int .i64) (.pair (.int .i64) (.pair (.int .i64) .unit)))))))))],res:=[(.list (.pair (.int .i64) (.pair (.int .i64) (.pair (.int .i64) (.pair (.int .i64) .unit))))),(.int .i64)],fn:=zY3 }
def uQx : List LSpec×List Nat:=([{ id:=3200,known:=false,toks:=[],items:=[],junk:=[],tails:=[] }],[6000000006])
def uQu : List LSpec×List Nat:=([{ id:=7800,known:=true,toks:=[(2002000,(.pair (.int .i64) (.pair (.int .i64) (.pair (.int .i64) (.pair (.int .i64) .unit)))))],items:=[.cells 1000003 [.val (.int .i64), .val (.int .i64), .val (.int .i64), .val (.int .i64)], .cells 2 [.slt (.pair (.int .i64) (.pair (.int .i64) (.pair (.int .i64) (.pair (.int .i64) .unit)))) (some 2002000) false]],junk:=[10,11,12,13,14,15,16,17,18,19,20,21,22,23,24,25,26,27,28,29,30,31,32],tails:=[(2002000,2002000)] }],[])
def uQv : List LSpec×List Nat:=([],[5])
def uQy : List LSpec×List Nat:=([{ id:=2800,known:=true,toks:=[(9000000,(.int .u8)),(9000000,(.mix 900000001 (.int .u8))),(7005000,(.mix 900000001 (.mix 900000002 (.int .u8))))],items:=[.slot 18 (.val (.int .i64)), .cells 1000004 [.val (.mix 2005000 (.mix 12005000 (.mix 22005000 (.int .u8))))], .rows 2005000 (.mix 12005000 (.mix 22005000 (.int .u8))), .rows 22005000 (.int .u8), .rows 12005000 (.mix 22005000 (.int .u8))],junk:=[19,20,21,22,5,6,23,24,25,26,27,28,29,30,31,32,33,34,35],tails:=[] }],[4000000001])
def uQw : List LSpec×List Nat:=([{ id:=5900,known:=false,toks:=[],items:=[],junk:=[],tails:=[] }],[6000000006])
def spt60 : Tab (List LSpec×List Nat):=(.node (.node (.node .leaf none (.node .leaf none (.node .leaf none (.node .leaf (some uQw) .leaf)))) none .leaf) none (.node (.node (.node (.node (.node .leaf (some uQx) .leaf) none .leaf) none .leaf) none (.node (.node (.node (.node .leaf (some uQv) .leaf) none .leaf) none .leaf) none (.node .leaf (some uQy) .leaf))) none (.node .leaf none (.node .leaf none (.node (.node (.node .leaf (some uQu) .leaf) none .leaf) none .leaf)))))
def spf60 (f : Nat) : List LSpec×List Nat:=(spt60.get f).getD ([],[])
theorem xWw : zW4 Try.prog cfg 60 yZp:=fnD spf60 (l:=[(69,yJl),(79,yQs),(80,zYr)]) zXn zQ2 (.cons xZ7 (.cons yZk (.cons yXb .nil))) (fun d=>by kernel_rfl)
def zYy (d0 : Int) : Option ((Int)×(Int)) :=
 Z.bind (yQ5 d0) fun (x1 : Int) =>
 (bif (Z.ine x1 0) then some (0,x1)
 else if (Z.Neg d0) then none
 else Z.bnd (Z.shl .i64 2 d0) fun (x4 : Int) =>
 Z.bnd (Z.wrap .i64 (Z.sub x4 1)) fun (x5 : Int) =>
 some (x5,0))
def yZn : PFn:={ args:=[(.int .i64)],res:=[(.int .i64),(.int .i64)],fn:=zYy }
def uQs : List LSpec×List Nat:=([{ id:=3200,known:=false,toks:=[],items:=[],junk:=[],tails:=[] }],[6000000006])
def uQq : List LSpec×List Nat:=([],[5])
def uQt : List LSpec×List Nat:=([{ id:=2800,known:=true,toks:=[(9000000,(.int .u8)),(9000000,(.mix 900000001 (.int .u8))),(7005000,(.mix 900000001 (.mix 900000002 (.int .u8))))],items:=[.slot 18 (.val (.int .i64)), .cells 1000004 [.val (.mix 2005000 (.mix 12005000 (.mix 22005000 (.int .u8))))], .rows 2005000 (.mix 12005000 (.mix 22005000 (.int .u8))), .rows 22005000 (.int .u8), .rows 12005000 (.mix 22005000 (.int .u8))],junk:=[19,20,21,22,5,6,23,24,25,26,27,28,29,30,31,32,33,34,35],tails:=[] }],[4000000001])
def uQr : List LSpec×List Nat:=([{ id:=5900,known:=false,toks:=[],items:=[],junk:=[],tails:=[] }],[6000000006])
def spt61 : Tab (List LSpec×List Nat):=(.node (.node (.node .leaf none (.node .leaf none (.node .leaf none (.node .leaf (some uQr) .leaf)))) none .leaf) none (.node (.node (.node (.node (.node .leaf (some uQs) .leaf) none .leaf) none .leaf) none (.node (.node (.node (.node .leaf (some uQq) .leaf) none .leaf) none .leaf) none (.node .leaf (some uQt) .leaf))) none .leaf))
def spf61 (f : Nat) : List LSpec×List Nat:=(spt61.get f).getD ([],[])
theorem xWu : zW4 Try.prog cfg 61 yZn:=fnD spf61 (l:=[(71,yXs)]) zXn zQ2 (.cons yJe .nil) (fun d=>by kernel_rfl)
def yWx (d0 : (Int)×((Int)×((Int)×((Int)×((Int)×((Int)×((Int)×((Int)×((Int)×(Unit)))))))))) : Option ((List ((Int)×((Int)×(Unit))))×(Int)) :=
 Z.bind (zY3 (d0.1,(d0.2.1,(d0.2.2.1,(d0.2.2.2.1,(d0.2.2.2.2.1,(d0.2.2.2.2.2.1,(d0.2.2.2.2.2.2.1,(d0.2.2.2.2.2.2.2.1,(d0.2.2.2.2.2.2.2.2.1,())))))))))) fun (x1 : (List ((Int)×((Int)×((Int)×((Int)×(Unit))))))×(Int)) =>
 (bif (Z.ine x1.2 0) then some (([] : List ((Int)×((Int)×(Unit)))),x1.2)
 else if (Z.MkOk (Z.ofN (Z.len x1.1)) (Z.ofN (Z.len x1.1)) 16) then Z.loop (fun (s4 : (Int)×(List ((Int)×((Int)×(Unit))))) k5 =>
 (bif (Z.ilt s4.1 (Z.ofN (Z.len x1.1))) then if (Z.Ix s4.1 (Z.len x1.1)) then Z.bnd (Z.get x1.1 (Z.toN s4.1) (0,(0,(0,(0,()))))) fun (x8 : (Int)×((Int)×((Int)×((Int)×(Unit))))) =>
 Z.bind (zYy x8.2.2.1) fun (x9 : (Int)×(Int)) =>
 (bif (Z.ine x9.2 0) then some (([] : List ((Int)×((Int)×(Unit)))),x9.2)
 else Z.bnd (Z.wrap .i64 (Z.add 8 x8.2.2.2.1)) fun (x10 : Int) =>
 if (Z.In s4.1 (Z.toN (Z.ofN (Z.len x1.1)))) then if (Z.Lt (Z.addN 0 (Z.toN s4.1)) (Z.len s4.2)) then Z.bnd (Z.set s4.2 (Z.addN 0 (Z.toN s4.1)) (x9.1,(x10,()))) fun (x15 : List ((Int)×((Int)×(Unit)))) =>
 Z.bnd (Z.wrap .i64 (Z.add s4.1 1)) fun (x16 : Int) =>
 k5 (x16,x15)
 else none
 else none)
 else none
 else if (Z.Le (Z.addN 0 (Z.toN (Z.ofN (Z.len x1.1)))) (Z.len s4.2)) then some ((Z.seg s4.2 0 (Z.toN (Z.ofN (Z.len x1.1)))),0)
 else none)) (0,(Z.rep (α:=(Int)×((Int)×(Unit))) (Z.toN (Z.ofN (Z.len x1.1))) (0,(0,()))))
 else none)
def yJj : PFn:={ args:=[(.pair (.int .i64) (.pair (.int .i64) (.pair (.int .i64) (.pair (.int .i64) (.pair (.int .i64) (.pair (.int .i64) (.pair (.int .i64) (.pair (.int .i64) (.pair (.int .i64) .unit)))))))))],res:=[(.list (.pair (.int .i64) (.pair (.int .i64) .unit))),(.int .i64)],fn:=yWx }
def uW2 : List LSpec×List Nat:=([{ id:=3200,known:=false,toks:=[],items:=[],junk:=[],tails:=[] }],[6000000006])
def uW1 : List LSpec×List Nat:=([{ id:=3500,known:=true,toks:=[],items:=[.slot 24 (.val (.int .i64)), .vec 1000006 (.pair (.int .i64) (.pair (.int .i64) .unit))],junk:=[25,26,27,28,8,7,30,31,32,29,33,34,9,10,35,36,37,2,3,38,39,40,41,42,43,44,45,46],tails:=[] }],[])
def uWz : List LSpec×List Nat:=([],[5])
def uW3 : List LSpec×List Nat:=([{ id:=2800,known:=true,toks:=[(9000000,(.int .u8)),(9000000,(.mix 900000001 (.int .u8))),(7005000,(.mix 900000001 (.mix 900000002 (.int .u8))))],items:=[.slot 18 (.val (.int .i64)), .cells 1000004 [.val (.mix 2005000 (.mix 12005000 (.mix 22005000 (.int .u8))))], .rows 2005000 (.mix 12005000 (.mix 22005000 (.int .u8))), .rows 22005000 (.int .u8), .rows 12005000 (.mix 22005000 (.int .u8))],junk:=[19,20,21,22,5,6,23,24,25,26,27,28,29,30,31,32,33,34,35],tails:=[] }],[4000000001])
def uW0 : List LSpec×List Nat:=([{ id:=5900,known:=false,toks:=[],items:=[],junk:=[],tails:=[] }],[6000000006])
def spt35 : Tab (List LSpec×List Nat):=(.node (.node (.node .leaf none (.node (.node (.node .leaf (some uW1) .leaf) none .leaf) none (.node .leaf none (.node .leaf (some uW0) .leaf)))) none .leaf) none (.node (.node (.node (.node (.node .leaf (some uW2) .leaf) none .leaf) none .leaf) none (.node (.node (.node (.node .leaf (some uWz) .leaf) none .leaf) none .leaf) none (.node .leaf (some uW3) .leaf))) none .leaf))
def spf35 (f : Nat) : List LSpec×List Nat:=(spt35.get f).getD ([],[])
theorem xZ5 : zW4 Try.prog cfg 35 yJj:=fnD spf35 (l:=[(60,yZp),(61,yZn)]) zXn zQ2 (.cons xWw (.cons xWu .nil)) (fun d=>by kernel_rfl)
def yZ3 (d0 : TCf×((List (List (List (Int))))×(Unit))) : Option (Int) :=
 Z.bind (yWx (pCf d0.1)) fun (x1 : (List ((Int)×((Int)×(Unit))))×(Int)) =>
 (bif (Z.ine x1.2 0) then some x1.2
 else (bif (Z.ine (Z.ofN (Z.len d0.2.1)) (Z.ofN (Z.len x1.1))) then some 8
 else Z.loop (fun (s2 : Int) k3 =>
 (bif (Z.ilt s2 (Z.ofN (Z.len x1.1))) then if (Z.Ix s2 (Z.len x1.1)) then Z.bnd (Z.get x1.1 (Z.toN s2) (0,(0,()))) fun (x6 : (Int)×((Int)×(Unit))) =>
 if (Z.Ix s2 (Z.len d0.2.1)) then Z.bnd (Z.get d0.2.1 (Z.toN s2) ([] : List (List (Int)))) fun (x9 : List (List (Int))) =>
 (bif (Z.ine (Z.ofN (Z.len x9)) x6.1) then some 8
 else Z.bnd (Z.wrap .i64 (Z.add s2 1)) fun (x10 : Int) =>
 k3 x10)
 else none
 else none
 else Z.loop (fun (s11 : Int) k12 =>
 (bif (Z.ilt s11 (Z.ofN (Z.len d0.2.1))) then if (Z.Ix s11 (Z.len d0.2.1)) then Z.bnd (Z.get d0.2.1 (Z.toN s11) ([] : List (List (Int)))) fun (x15 : List (List (Int))) =>
 Z.loop (fun (s16 : Int) k17 =>
 (bif (Z.ilt s16 (Z.ofN (Z.len x15))) then if (Z.Ix s16 (Z.len x15)) then Z.bnd (Z.get x15 (Z.toN s16) ([] : List (Int))) fun (x20 : List (Int)) =>
 if (Z.Ix s11 (Z.len x1.1)) then Z.bnd (Z.get x1.1 (Z.toN s11) (0,(0,()))) fun (x23 : (Int)×((Int)×(Unit))) =>
 (bif (Z.bnot (Z.ieq (Z.ofN (Z.len x20)) x23.2.1)) then some 8
 else Z.bnd (Z.wrap .i64 (Z.add s16 1)) fun (x24 : Int) =>
 k17 x24)
 else none
 else none
 else Z.bnd (Z.wrap .i64 (Z.add s11 1)) fun (x25 : Int) =>
 k12 x25)) 0
 else none
 else some 0)) 0)) 0))
def yY9 : PFn:={ args:=[(.pair (.int .i64) (.pair (.int .i64) (.pair (.int .i64) (.pair (.int .i64) (.pair (.int .i64) (.pair (.int .i64) (.pair (.int .i64) (.pair (.int .i64) (.pair (.int .i64) .unit))))))))),(.pair (.list (.list (.list (.int .u8)))) .unit)],res:=[(.int .i64)],fn:=yZ3 }
def uZj : List LSpec×List Nat:=([{ id:=3200,known:=false,toks:=[],items:=[],junk:=[],tails:=[] }],[6000000006])
def uZi : List LSpec×List Nat:=([{ id:=4400,known:=true,toks:=[],items:=[.slot 11 (.val (.int .i64))],junk:=[12,13,14,15,5,6,16,17,18,19,20,21,8,22,23,24,25,26,4,27,28],tails:=[] },{ id:=4401,known:=true,toks:=[],items:=[.slot 18 (.val (.int .i64))],junk:=[19,20,21,8,22,23,24,25,26,4,27],tails:=[] }],[])
def uZl : List LSpec×List Nat:=([{ id:=1600,known:=true,toks:=[],items:=[.slot 25 (.val (.int .i64))],junk:=[26,27,28,29,8,7,30,31,32,33,34,35,36,37,38,4,39],tails:=[] }],[])
def uZg : List LSpec×List Nat:=([],[5])
def uZk : List LSpec×List Nat:=([{ id:=2800,known:=true,toks:=[(9000000,(.int .u8)),(9000000,(.mix 900000001 (.int .u8))),(7005000,(.mix 900000001 (.mix 900000002 (.int .u8))))],items:=[.slot 18 (.val (.int .i64)), .cells 1000004 [.val (.mix 2005000 (.mix 12005000 (.mix 22005000 (.int .u8))))], .rows 2005000 (.mix 12005000 (.mix 22005000 (.int .u8))), .rows 22005000 (.int .u8), .rows 12005000 (.mix 22005000 (.int .u8))],junk:=[19,20,21,22,5,6,23,24,25,26,27,28,29,30,31,32,33,34,35],tails:=[] }],[4000000001])
def uZh : List LSpec×List Nat:=([{ id:=5900,known:=false,toks:=[],items:=[],junk:=[],tails:=[] }],[6000000006])
def spt16 : Tab (List LSpec×List Nat):=(.node (.node (.node .leaf none (.node .leaf none (.node .leaf none (.node .leaf (some uZh) .leaf)))) none .leaf) none (.node (.node (.node (.node (.node .leaf (some uZj) .leaf) (some uZl) .leaf) none .leaf) none (.node (.node (.node (.node .leaf (some uZg) .leaf) none .leaf) none .leaf) none (.node (.node .leaf (some uZi) .leaf) (some uZk) .leaf))) none .leaf))
def spf16 (f : Nat) : List LSpec×List Nat:=(spt16.get f).getD ([],[])
theorem xYd : zW4 Try.prog cfg 16 yY9:=fnD spf16 (l:=[(35,yJj)]) zXn zQ2 (.cons xZ5 .nil) (fun d=>by kernel_rfl)
def zK3 (d0 : ((List (List (List (Int))))×(Unit))×((Int)×(List (Int)))) : Option (Bool) :=
 (bif (Z.ilt d0.2.1 0) then some false
 else (bif (Z.zQx false true (Z.ige d0.2.1 (Z.ofN (Z.len d0.1.1)))) then some false
 else Z.loop (fun (s1 : Int) k2 =>
 (bif (Z.ilt s1 (Z.ofN 1)) then if (Z.In s1 1) then if (Z.Lt (Z.addN 0 (Z.toN s1)) (Z.len (d0.2.2::([] : List (List (Int)))))) then Z.bnd (Z.get (d0.2.2::([] : List (List (Int)))) (Z.addN 0 (Z.toN s1)) ([] : List (Int))) fun (x7 : List (Int)) =>
 Z.loop (fun (s8 : Int) k9 =>
 (bif (Z.ilt s8 (Z.ofN (Z.len x7))) then if (Z.Ix s8 (Z.len x7)) then Z.bnd (Z.get x7 (Z.toN s8) 0) fun (x12 : Int) =>
 (bif (Z.ige x12 1) then if (Z.Ix d0.2.1 (Z.len d0.1.1)) then Z.bnd (Z.get d0.1.1 (Z.toN d0.2.1) ([] : List (List (Int)))) fun (x15 : List (List (Int))) =>
 (bif (Z.bnot (Z.zQx true (Z.ile x12 (Z.ofN (Z.len x15))) false)) then some false
 else Z.bnd (Z.wrap .i64 (Z.add s8 1)) fun (x16 : Int) =>
 k9 x16)
 else none
 else some false)
 else none
 else Z.bnd (Z.wrap .i64 (Z.add s1 1)) fun (x17 : Int) =>
 k2 x17)) 0
 else none
 else none
 else some true)) 0))
def yJk : PFn:={ args:=[(.pair (.list (.list (.list (.int .u8)))) .unit),(.int .i64),(.list (.int .i64))],res:=[.bool],fn:=zK3 }
def uWx : List LSpec×List Nat:=([{ id:=3200,known:=false,toks:=[],items:=[],junk:=[],tails:=[] }],[6000000006])
def uWv : List LSpec×List Nat:=([{ id:=6300,known:=true,toks:=[],items:=[.slot 11 (.val (.int .i64))],junk:=[12,13,14,15,5,6,16,17,18,19,20,21,8,22,23,24,25,26,4,27,28],tails:=[] },{ id:=6301,known:=true,toks:=[],items:=[.slot 18 (.val (.int .i64))],junk:=[19,20,21,8,22,23,24,25,26,4,27],tails:=[] }],[])
def uWu : List LSpec×List Nat:=([],[5])
def uWy : List LSpec×List Nat:=([{ id:=2800,known:=true,toks:=[(9000000,(.int .u8)),(9000000,(.mix 900000001 (.int .u8))),(7005000,(.mix 900000001 (.mix 900000002 (.int .u8))))],items:=[.slot 18 (.val (.int .i64)), .cells 1000004 [.val (.mix 2005000 (.mix 12005000 (.mix 22005000 (.int .u8))))], .rows 2005000 (.mix 12005000 (.mix 22005000 (.int .u8))), .rows 22005000 (.int .u8), .rows 12005000 (.mix 22005000 (.int .u8))],junk:=[19,20,21,22,5,6,23,24,25,26,27,28,29,30,31,32,33,34,35],tails:=[] }],[4000000001])
def uWw : List LSpec×List Nat:=([{ id:=5900,known:=false,toks:=[],items:=[],junk:=[],tails:=[] }],[6000000006])
def spt38 : Tab (List LSpec×List Nat):=(.node (.node (.node (.node (.node (.node (.node .leaf (some uWv) .leaf) none .leaf) none .leaf) none .leaf) none (.node .leaf none (.node .leaf none (.node .leaf (some uWw) .leaf)))) none .leaf) none (.node (.node (.node (.node (.node .leaf (some uWx) .leaf) none .leaf) none .leaf) none (.node (.node (.node (.node .leaf (some uWu) .leaf) none .leaf) none .leaf) none (.node .leaf (some uWy) .leaf))) none .leaf))
def spf38 (f : Nat) : List LSpec×List Nat:=(spt38.get f).getD ([],[])
theorem xZ6 : zW4 Try.prog cfg 38 yJk:=fnD spf38 (l:=[]) zXn zQ2 .nil (fun d=>by kernel_rfl)
def yYe (d0 : ((List (List (List (Int))))×(Unit))×TSe) : Option (Bool) :=
 (bif (Z.ine d0.2.1 1) then (bif (Z.zQx true (Z.ine d0.2.1 2) false) then some false
 else if (Z.Le (Z.addN 0 1) (Z.len (d0.2.2.2.1::([] : List (Int))))) then Z.bind (zK3 ((d0.1.1,()),(d0.2.2.1,(Z.seg (d0.2.2.2.1::([] : List (Int))) 0 1)))) fun (x3 : Bool) =>
 (bif (Z.zQx false true (Z.bnot x3)) then some false
 else if (Z.Ix d0.2.2.1 (Z.len d0.1.1)) then Z.bnd (Z.get d0.1.1 (Z.toN d0.2.2.1) ([] : List (List (Int)))) fun (x6 : List (List (Int))) =>
 Z.bnd (Z.wrap .i64 (Z.sub d0.2.2.2.1 1)) fun (x7 : Int) =>
 if (Z.Ix x7 (Z.len x6)) then Z.bnd (Z.get x6 (Z.toN x7) ([] : List (Int))) fun (x10 : List (Int)) =>
 some (Z.ieq (Z.ofN (Z.len d0.2.2.2.2.1)) (Z.ofN (Z.len x10)))
 else none
 else none)
 else none)
 else if (Z.Le (Z.addN 0 1) (Z.len (d0.2.2.2.1::([] : List (Int))))) then Z.bind (zK3 ((d0.1.1,()),(d0.2.2.1,(Z.seg (d0.2.2.2.1::([] : List (Int))) 0 1)))) fun (x13 : Bool) =>
 (bif (Z.zQx false true (Z.bnot x13)) then some false
 else if (Z.Ix d0.2.2.1 (Z.len d0.1.1)) then Z.bnd (Z.get d0.1.1 (Z.toN d0.2.2.1) ([] : List (List (Int)))) fun (x16 : List (List (Int))) =>
 Z.bnd (Z.wrap .i64 (Z.sub d0.2.2.2.1 1)) fun (x17 : Int) =>
 if (Z.Ix x17 (Z.len x16)) then Z.bnd (Z.get x16 (Z.toN x17) ([] : List (Int))) fun (x20 : List (Int)) =>
 some (Z.ieq (Z.ofN (Z.len d0.2.2.2.2.1)) (Z.ofN (Z.len x20)))
 else none
 else none)
 else none)
def xXq : PFn:={ args:=[(.pair (.list (.list (.list (.int .u8)))) .unit),(.pair (.int .u8) (.pair (.int .i64) (.pair (.int .i64) (.pair (.list (.int .u8)) .unit))))],res:=[.bool],fn:=yYe }
def uWs : List LSpec×List Nat:=([{ id:=3200,known:=false,toks:=[],items:=[],junk:=[],tails:=[] }],[6000000006])
def uWq : List LSpec×List Nat:=([],[5])
def uWt : List LSpec×List Nat:=([{ id:=2800,known:=true,toks:=[(9000000,(.int .u8)),(9000000,(.mix 900000001 (.int .u8))),(7005000,(.mix 900000001 (.mix 900000002 (.int .u8))))],items:=[.slot 18 (.val (.int .i64)), .cells 1000004 [.val (.mix 2005000 (.mix 12005000 (.mix 22005000 (.int .u8))))], .rows 2005000 (.mix 12005000 (.mix 22005000 (.int .u8))), .rows 22005000 (.int .u8), .rows 12005000 (.mix 22005000 (.int .u8))],junk:=[19,20,21,22,5,6,23,24,25,26,27,28,29,30,31,32,33,34,35],tails:=[] }],[4000000001])
def uWr : List LSpec×List Nat:=([{ id:=5900,known:=false,toks:=[],items:=[],junk:=[],tails:=[] }],[6000000006])
def spt43 : Tab (List LSpec×List Nat):=(.node (.node (.node .leaf none (.node .leaf none (.node .leaf none (.node .leaf (some uWr) .leaf)))) none .leaf) none (.node (.node (.node (.node (.node .leaf (some uWs) .leaf) none .leaf) none .leaf) none (.node (.node (.node (.node .leaf (some uWq) .leaf) none .leaf) none .leaf) none (.node .leaf (some uWt) .leaf))) none .leaf))
def spf43 (f : Nat) : List LSpec×List Nat:=(spt43.get f).getD ([],[])
theorem wWi : zW4 Try.prog cfg 43 xXq:=fnD spf43 (l:=[(38,yJk)]) zXn zQ2 (.cons xZ6 .nil) (fun d=>by kernel_rfl)
def zWi (d0 : List (List (Int))) : Option (List (Int)) :=
 Z.loop (fun (s1 : (Int)×(Int)) k2 =>
 (bif (Z.ilt s1.2 (Z.ofN (Z.len d0))) then if (Z.Ix s1.2 (Z.len d0)) then Z.bnd (Z.get d0 (Z.toN s1.2) ([] : List (Int))) fun (x5 : List (Int)) =>
 Z.bnd (Z.wrap .i64 (Z.add s1.1 (Z.ofN (Z.len x5)))) fun (x6 : Int) =>
 (bif (Z.ilt x6 0) then none
 else Z.bnd (Z.wrap .i64 (Z.add s1.2 1)) fun (x7 : Int) =>
 k2 (x6,x7))
 else none
 else (bif (Z.ilt s1.1 0) then none
 else Z.bnd (Z.wrap .i64 (Z.sub 0 0)) fun (x8 : Int) =>
 Z.bnd (Z.wrap .i64 (Z.sub s1.1 x8)) fun (x9 : Int) =>
 (bif (Z.igt x9 0) then if (Z.Bd 0 0) then if (Z.ZOk x9 1) then Z.bnd (Z.rep (α:=Int) (Z.toN x9) 0) fun (x14 : List (Int)) =>
 if (Z.EqN (Z.len x14) 0) then none
 else if (Z.Big (Z.len ([] : List (Int))) (Z.len x14) 1) then none
 else Z.bnd (Z.app ([] : List (Int)) x14) fun (x19 : List (Int)) =>
 if (Z.Bd 0 (Z.len x19)) then if (Z.Lt 0 (Z.len x19)) then if (Z.EqN (Z.subN (Z.toN 0) 0) 0) then if (Z.EqN 0 (Z.len ([] : List (Int)))) then Z.loop (fun (s28 : (List (Int))×(Int)) k29 =>
 (bif (Z.ilt s28.2 (Z.ofN (Z.len d0))) then if (Z.Ix s28.2 (Z.len d0)) then Z.bnd (Z.get d0 (Z.toN s28.2) ([] : List (Int))) fun (x32 : List (Int)) =>
 if (Z.Big (Z.len s28.1) (Z.len x32) 1) then none
 else if (Z.EqN (Z.len s28.1) (Z.len s28.1)) then Z.bnd (Z.app s28.1 x32) fun (x37 : List (Int)) =>
 Z.bnd (Z.wrap .i64 (Z.add s28.2 1)) fun (x38 : Int) =>
 if (Z.EqN (Z.len x37) (Z.len x37)) then k29 (x37,x38)
 else none
 else none
 else none
 else if (Z.EqN (Z.len s28.1) (Z.len s28.1)) then some s28.1
 else none)) (([] : List (Int)),0)
 else none
 else none
 else none
 else none
 else none
 else none
 else if (Z.EqN 0 (Z.len ([] : List (Int)))) then Z.loop (fun (s45 : (List (Int))×(Int)) k46 =>
 (bif (Z.ilt s45.2 (Z.ofN (Z.len d0))) then if (Z.Ix s45.2 (Z.len d0)) then Z.bnd (Z.get d0 (Z.toN s45.2) ([] : List (Int))) fun (x49 : List (Int)) =>
 if (Z.Big (Z.len s45.1) (Z.len x49) 1) then none
 else if (Z.EqN (Z.len s45.1) (Z.len s45.1)) then Z.bnd (Z.app s45.1 x49) fun (x54 : List (Int)) =>
 Z.bnd (Z.wrap .i64 (Z.add s45.2 1)) fun (x55 : Int) =>
 if (Z.EqN (Z.len x54) (Z.len x54)) then k46 (x54,x55)
 else none
 else none
 else none
 else if (Z.EqN (Z.len s45.1) (Z.len s45.1)) then some s45.1
 else none)) (([] : List (Int)),0)
 else none)))) (0,0)
def zZf : PFn:={ args:=[(.list (.list (.int .u8)))],res:=[(.list (.int .u8))],fn:=zWi }
def uWa : List LSpec×List Nat:=([{ id:=3200,known:=false,toks:=[],items:=[],junk:=[],tails:=[] }],[6000000006])
def uQ7 : List LSpec×List Nat:=([],[5])
def uQ9 : List LSpec×List Nat:=([{ id:=5300,known:=true,toks:=[],items:=[.slot 3 (.val (.int .i64)), .slot 11 (.val (.int .i64))],junk:=[12,13,14,5,15,16,17,18,19,20,21,22],tails:=[] },{ id:=5301,known:=true,toks:=[(6,(.int .u8))],items:=[.slot 6 (.slt (.int .u8) (some 1000006) false), .slot 27 (.val (.int .i64))],junk:=[28,29,30,8,31,32,33,34],tails:=[(1000006,6)] }],[])
def uWb : List LSpec×List Nat:=([{ id:=2800,known:=true,toks:=[(9000000,(.int .u8)),(9000000,(.mix 900000001 (.int .u8))),(7005000,(.mix 900000001 (.mix 900000002 (.int .u8))))],items:=[.slot 18 (.val (.int .i64)), .cells 1000004 [.val (.mix 2005000 (.mix 12005000 (.mix 22005000 (.int .u8))))], .rows 2005000 (.mix 12005000 (.mix 22005000 (.int .u8))), .rows 22005000 (.int .u8), .rows 12005000 (.mix 22005000 (.int .u8))],junk:=[19,20,21,22,5,6,23,24,25,26,27,28,29,30,31,32,33,34,35],tails:=[] }],[4000000001])
def uQ8 : List LSpec×List Nat:=([{ id:=5900,known:=false,toks:=[],items:=[],junk:=[],tails:=[] }],[6000000006])
def spt53 : Tab (List LSpec×List Nat):=(.node (.node (.node .leaf none (.node .leaf none (.node .leaf none (.node .leaf (some uQ8) .leaf)))) none (.node .leaf none (.node (.node .leaf none (.node .leaf (some uQ9) .leaf)) none .leaf))) none (.node (.node (.node (.node (.node .leaf (some uWa) .leaf) none .leaf) none .leaf) none (.node (.node (.node (.node .leaf (some uQ7) .leaf) none .leaf) none .leaf) none (.node .leaf (some uWb) .leaf))) none .leaf))
def spf53 (f : Nat) : List LSpec×List Nat:=(spt53.get f).getD ([],[])
def zXb : OFn:={ args:=[(.list (.list (.int .u8)))],ores:=[(.own (.int .u8))],fn:=zWi }
theorem zZd : OwnD Try.prog cfg 53 zXb∧zW4 Try.prog cfg 53 zXb.pfn:=fnO spf53 [] (l:=[]) (lo:=[]) zXn zQ2 .nil .nil (fun d=>by kernel_rfl)
theorem zJi : zW4 Try.prog cfg 53 zZf:=zZd.2
def yWy (d0 : (List (List (List (Int))))×(Unit)) : Option (((List (List (Int)))×((List (List (MixE (Int))))×(List (List (MixE (MixE (Int)))))))×((MixE (MixE (MixE (Int))))×(Unit))) :=
 if (Z.MkOk (Z.ofN (Z.len d0.1)) (Z.ofN (Z.len d0.1)) 24) then Z.loop (fun (s3 : (Int)×((List (MixE (Int)))×(List (List (Int))))) k4 =>
 (bif (Z.ilt s3.1 (Z.ofN (Z.len d0.1))) then if (Z.Ix s3.1 (Z.len d0.1)) then Z.bnd (Z.get d0.1 (Z.toN s3.1) ([] : List (List (Int)))) fun (x7 : List (List (Int))) =>
 Z.loop (fun (s8 : (Int)×((List (MixE (Int)))×(List (List (Int))))) k9 =>
 (bif (Z.ilt s8.1 (Z.ofN (Z.len x7))) then if (Z.Ix s8.1 (Z.len x7)) then Z.bnd (Z.get x7 (Z.toN s8.1) ([] : List (Int))) fun (x12 : List (Int)) =>
 if (Z.In s3.1 (Z.toN (Z.ofN (Z.len d0.1)))) then if (Z.Lt (Z.addN 0 (Z.toN s3.1)) (Z.len s8.2.1)) then Z.bnd (Z.get s8.2.1 (Z.addN 0 (Z.toN s3.1)) (MixE.nil : MixE (Int))) fun (x17 : MixE (Int)) =>
 if (Z.Le (Z.addN 0 1) (Z.len ((Z.ofN (Z.len x12))::([] : List (Int))))) then if (Z.XGr s8.2.2 x17) then if (Z.EqN (Z.len (Z.seg ((Z.ofN (Z.len x12))::([] : List (Int))) 0 1)) 0) then if (Z.In s3.1 (Z.toN (Z.ofN (Z.len d0.1)))) then if (Z.Lt (Z.addN 0 (Z.toN s3.1)) (Z.len s8.2.1)) then Z.bnd (Z.set s8.2.1 (Z.addN 0 (Z.toN s3.1)) x17) fun (x28 : List (MixE (Int))) =>
 Z.bnd (Z.wrap .i64 (Z.add s8.1 1)) fun (x29 : Int) =>
 k9 (x29,(x28,s8.2.2))
 else none
 else none
 else if (Z.Big (Z.xlen x17) (Z.len (Z.seg ((Z.ofN (Z.len x12))::([] : List (Int))) 0 1)) 8) then none
 else Z.bnd (Z.xapp s8.2.2 x17 (Z.seg ((Z.ofN (Z.len x12))::([] : List (Int))) 0 1)) fun (x32 : List (List (Int))) =>
 Z.bnd (Z.wJw x17 (Z.len (Z.seg ((Z.ofN (Z.len x12))::([] : List (Int))) 0 1))) fun (x33 : MixE (Int)) =>
 if (Z.In s3.1 (Z.toN (Z.ofN (Z.len d0.1)))) then if (Z.Lt (Z.addN 0 (Z.toN s3.1)) (Z.len s8.2.1)) then Z.bnd (Z.set s8.2.1 (Z.addN 0 (Z.toN s3.1)) x33) fun (x38 : List (MixE (Int))) =>
 Z.bnd (Z.wrap .i64 (Z.add s8.1 1)) fun (x39 : Int) =>
 k9 (x39,(x38,x32))
 else none
 else none
 else none
 else none
 else none
 else none
 else none
 else Z.bnd (Z.wrap .i64 (Z.add s3.1 1)) fun (x40 : Int) =>
 k4 (x40,(s8.2.1,s8.2.2)))) (0,(s3.2.1,s3.2.2))
 else none
 else Z.loop (fun (s41 : (Int)×((MixE (MixE (MixE (Int))))×((List (List (MixE (MixE (Int)))))×((List (List (Int)))×(List (List (MixE (Int)))))))) k42 =>
 (bif (Z.ilt s41.1 (Z.ofN (Z.len d0.1))) then if (Z.Ix s41.1 (Z.len d0.1)) then Z.bnd (Z.get d0.1 (Z.toN s41.1) ([] : List (List (Int)))) fun (x45 : List (List (Int))) =>
 if (Z.In s41.1 (Z.toN (Z.ofN (Z.len d0.1)))) then if (Z.Lt (Z.addN 0 (Z.toN s41.1)) (Z.len s3.2.1)) then Z.bnd (Z.get s3.2.1 (Z.addN 0 (Z.toN s41.1)) (MixE.nil : MixE (Int))) fun (x50 : MixE (Int)) =>
 Z.bind (zWi x45) fun (x51 : List (Int)) =>
 Z.bnd (Z.app s41.2.2.2.1 (x51::([] : List (List (Int))))) fun (x52 : List (List (Int))) =>
 if (Z.MkOk (Z.ofN (Z.xlen x50)) (Z.ofN (Z.xlen x50)) 24) then Z.bind (Z.mapO (fun (e55 : List (Int)) =>
 some (Z.yXl e55)) (Z.rep (α:=List (Int)) (Z.toN (Z.ofN (Z.xlen x50))) ([] : List (Int)))) fun (x56 : List (MixE (Int))) =>
 Z.loop (fun (s57 : (List (MixE (Int)))×((Int)×(Int))) k58 =>
 (bif (Z.ilt s57.2.2 (Z.ofN (Z.xlen x50))) then if (Z.Ix s57.2.2 (Z.xlen x50)) then if (Z.XPt s3.2.2 x50 (Z.toN s57.2.2)) then if (Z.XPt s3.2.2 x50 (Z.toN s57.2.2)) then Z.bnd (Z.xat s3.2.2 x50 (Z.toN s57.2.2) 0) fun (x65 : Int) =>
 Z.bnd (Z.wrap .i64 (Z.add s57.2.1 x65)) fun (x66 : Int) =>
 Z.bnd (Z.wrap .i64 (Z.add s57.2.1 x65)) fun (x67 : Int) =>
 if (Z.XCut x52 (Z.xrow (Z.len s41.2.2.2.1) x51)) then if (Z.Bd x67 (Z.xlen (Z.xrow (Z.len s41.2.2.2.1) x51))) then if (Z.Bd x66 (Z.toN x67)) then if (Z.Bd s57.2.1 (Z.toN x66)) then Z.bnd (Z.xcut (Z.xrow (Z.len s41.2.2.2.1) x51) (Z.toN s57.2.1) (Z.toN x66)) fun (x76 : MixE (Int)) =>
 if (Z.In s57.2.2 (Z.toN (Z.ofN (Z.xlen x50)))) then if (Z.Lt (Z.addN 0 (Z.toN s57.2.2)) (Z.len s57.1)) then Z.bnd (Z.set s57.1 (Z.addN 0 (Z.toN s57.2.2)) x76) fun (x81 : List (MixE (Int))) =>
 Z.bnd (Z.wrap .i64 (Z.add s57.2.1 x65)) fun (x82 : Int) =>
 Z.bnd (Z.wrap .i64 (Z.add s57.2.2 1)) fun (x83 : Int) =>
 k58 (x81,(x82,x83))
 else none
 else none
 else none
 else none
 else none
 else none
 else none
 else none
 else none
 else if (Z.EqN 0 0) then if (Z.EqN (Z.toN (Z.ofN (Z.xlen x50))) (Z.len s57.1)) then Z.bnd (Z.app s41.2.2.2.2 (s57.1::([] : List (List (MixE (Int)))))) fun (x88 : List (List (MixE (Int)))) =>
 if (Z.XGr s41.2.2.1 s41.2.1) then if (Z.EqN (Z.len ((Z.xnew (α:=MixE (Int)) (Z.len s41.2.2.2.2) (Z.toN (Z.ofN (Z.xlen x50))))::([] : List (MixE (MixE (Int)))))) 0) then Z.bnd (Z.wrap .i64 (Z.add s41.1 1)) fun (x93 : Int) =>
 k42 (x93,(s41.2.1,(s41.2.2.1,(x52,x88))))
 else if (Z.Big (Z.xlen s41.2.1) (Z.len ((Z.xnew (α:=MixE (Int)) (Z.len s41.2.2.2.2) (Z.toN (Z.ofN (Z.xlen x50))))::([] : List (MixE (MixE (Int)))))) 24) then none
 else Z.bnd (Z.xapp s41.2.2.1 s41.2.1 ((Z.xnew (α:=MixE (Int)) (Z.len s41.2.2.2.2) (Z.toN (Z.ofN (Z.xlen x50))))::([] : List (MixE (MixE (Int)))))) fun (x96 : List (List (MixE (MixE (Int))))) =>
 Z.bnd (Z.wJw s41.2.1 (Z.len ((Z.xnew (α:=MixE (Int)) (Z.len s41.2.2.2.2) (Z.toN (Z.ofN (Z.xlen x50))))::([] : List (MixE (MixE (Int))))))) fun (x97 : MixE (MixE (MixE (Int)))) =>
 Z.bnd (Z.wrap .i64 (Z.add s41.1 1)) fun (x98 : Int) =>
 k42 (x98,(x97,(x96,(x52,x88))))
 else none
 else none
 else none)) (x56,(0,0))
 else none
 else none
 else none
 else none
 else some ((s41.2.2.2.1,(s41.2.2.2.2,s41.2.2.1)),(s41.2.1,())))) (0,((Z.xnew (α:=MixE (MixE (Int))) 0 0),((([] : List (MixE (MixE (Int))))::([] : List (List (MixE (MixE (Int)))))),(([] : List (List (Int))),([] : List (List (MixE (Int)))))))))) (0,((Z.wQn (α:=Int) (Z.toN (Z.ofN (Z.len d0.1)))),(Z.rep (α:=List (Int)) (Z.toN (Z.ofN (Z.len d0.1))) ([] : List (Int)))))
 else none
def wQ0 : List LSpec×List Nat:=([{ id:=3200,known:=false,toks:=[],items:=[],junk:=[],tails:=[] }],[6000000006])
def wQy : List LSpec×List Nat:=([{ id:=4400,known:=true,toks:=[],items:=[.slot 11 (.val (.int .i64)), .vec 2004000 (.mix 3 (.int .i64)), .rows 3 (.int .i64)],junk:=[12,13,14,15,5,6,16,17,18,19,20,21,8,22,23,24,25,26,4,27,28],tails:=[] },{ id:=4401,known:=true,toks:=[],items:=[.slot 18 (.val (.int .i64)), .vec 2004000 (.mix 3 (.int .i64)), .rows 3 (.int .i64)],junk:=[19,20,21,8,22,23,24,25,26,4,27],tails:=[] }],[])
def wQw : List LSpec×List Nat:=([],[5])
def wQz : List LSpec×List Nat:=([{ id:=3700,known:=true,toks:=[(5500005,(.mix 1000000 (.int .u8)))],items:=[.vec 1000005 (.mix 1000000 (.int .u8)), .slot 6 (.val (.int .i64)), .slot 14 (.val (.int .i64))],junk:=[15,16,17,18,7,8,19,20,21,22,23,24,25,26,27,28,29,30,31,32,33,34],tails:=[] }],[888888])
def wQ1 : List LSpec×List Nat:=([{ id:=2800,known:=true,toks:=[(9000000,(.int .u8)),(9000000,(.mix 900000001 (.int .u8))),(7005000,(.mix 900000001 (.mix 900000002 (.int .u8))))],items:=[.slot 18 (.val (.int .i64)), .cells 1000004 [.val (.mix 2005000 (.mix 12005000 (.mix 22005000 (.int .u8))))], .rows 2005000 (.mix 12005000 (.mix 22005000 (.int .u8))), .rows 22005000 (.int .u8), .rows 12005000 (.mix 22005000 (.int .u8))],junk:=[19,20,21,22,5,6,23,24,25,26,27,28,29,30,31,32,33,34,35],tails:=[] }],[4000000001])
def wQx : List LSpec×List Nat:=([{ id:=5900,known:=false,toks:=[],items:=[],junk:=[],tails:=[] }],[6000000006])
def wYt : Tab (List LSpec×List Nat):=(.node (.node (.node .leaf none (.node .leaf none (.node .leaf none (.node .leaf (some wQx) .leaf)))) none (.node .leaf none (.node (.node (.node .leaf (some wQz) .leaf) none .leaf) none .leaf))) none (.node (.node (.node (.node (.node .leaf (some wQ0) .leaf) none .leaf) none .leaf) none (.node (.node (.node (.node .leaf (some wQw) .leaf) none .leaf) none .leaf) none (.node (.node .leaf (some wQy) .leaf) (some wQ1) .leaf))) none .leaf))
def wYw (f : Nat) : List LSpec×List Nat:=(wYt.get f).getD ([],[])
def yJc : RFn:={ args:=[(.pair (.list (.list (.list (.int .u8)))) .unit)],objs:=[(.int .u8),(.mix 0 (.int .u8)),(.mix 1 (.mix 0 (.int .u8)))],res:=[(.pair (.mix 2 (.mix 1 (.mix 0 (.int .u8)))) .unit)],fn:=yWy }
theorem xZx : OwnR Try.prog cfg 28 yJc:=fnR wYw [] (l:=[(53,zZf)]) (lo:=[(53,zXb)]) (lr:=[]) zXn zQ2 (.cons zJi .nil) (.cons zZd.1 .nil) .nil (fun d=>by kernel_rfl)
def zJv (d0 : TCf×(((List (List (List (Int))))×(Unit))×(List TSe))) : Option (((List (List (Int)))×((List (List (MixE (Int))))×(List (List (MixE (MixE (Int)))))))×(((MixE (MixE (MixE (Int))))×(Unit))×(Int))) :=
 Z.bind (yZ3 ((pCf d0.1),(d0.2.1.1,()))) fun (x1 : Int) =>
 (bif (Z.ine x1 0) then some ((([] : List (List (Int))),(([] : List (List (MixE (Int)))),([] : List (List (MixE (MixE (Int))))))),(((Z.xnil (α:=MixE (MixE (Int))) ),()),x1))
 else Z.loop (fun (s2 : Int) k3 =>
 (bif (Z.ilt s2 (Z.ofN (Z.len d0.2.2))) then if (Z.Ix s2 (Z.len d0.2.2)) then Z.bnd (Z.get d0.2.2 (Z.toN s2) (0,(0,(0,(([] : List (Int)),()))))) fun (x6 : (Int)×((Int)×((Int)×((List (Int))×(Unit))))) =>
 Z.bind (yYe ((d0.2.1.1,()),(x6.1,(x6.2.1,(x6.2.2.1,(x6.2.2.2.1,())))))) fun (x7 : Bool) =>
 (bif (Z.bnot x7) then some ((([] : List (List (Int))),(([] : List (List (MixE (Int)))),([] : List (List (MixE (MixE (Int))))))),(((Z.xnil (α:=MixE (MixE (Int))) ),()),2))
 else Z.bnd (Z.wrap .i64 (Z.add s2 1)) fun (x8 : Int) =>
 k3 x8)
 else none
 else Z.bind (yWy (d0.2.1.1,())) fun (x9 : ((List (List (Int)))×((List (List (MixE (Int))))×(List (List (MixE (MixE (Int)))))))×((MixE (MixE (MixE (Int))))×(Unit))) =>
 Z.loop (fun (s10 : (Int)×(List (List (Int)))) k11 =>
 (bif (Z.ilt s10.1 (Z.ofN (Z.len d0.2.2))) then if (Z.Ix s10.1 (Z.len d0.2.2)) then Z.bnd (Z.get d0.2.2 (Z.toN s10.1) (0,(0,(0,(([] : List (Int)),()))))) fun (x14 : (Int)×((Int)×((Int)×((List (Int))×(Unit))))) =>
 (bif (Z.ieq x14.1 2) then if (Z.Ix x14.2.1 (Z.xlen x9.2.1)) then if (Z.XPt x9.1.2.2 x9.2.1 (Z.toN x14.2.1)) then if (Z.XPt x9.1.2.2 x9.2.1 (Z.toN x14.2.1)) then Z.bnd (Z.xat x9.1.2.2 x9.2.1 (Z.toN x14.2.1) (MixE.nil : MixE (MixE (Int)))) fun (x21 : MixE (MixE (Int))) =>
 Z.bnd (Z.wrap .i64 (Z.sub x14.2.2.1 1)) fun (x22 : Int) =>
 if (Z.Ix x22 (Z.xlen x21)) then if (Z.XPt x9.1.2.1 x21 (Z.toN x22)) then if (Z.XPt x9.1.2.1 x21 (Z.toN x22)) then Z.bnd (Z.xat x9.1.2.1 x21 (Z.toN x22) (MixE.nil : MixE (Int))) fun (x29 : MixE (Int)) =>
 if (Z.XW s10.2 x29) then Z.bnd (Z.xput s10.2 x29 (Z.take (Z.minN (Z.len x14.2.2.2.1) (Z.xlen x29)) x14.2.2.2.1)) fun (x32 : List (List (Int))) =>
 Z.bnd (Z.wrap .i64 (Z.add s10.1 1)) fun (x33 : Int) =>
 k11 (x33,x32)
 else none
 else none
 else none
 else none
 else none
 else none
 else none
 else Z.bnd (Z.wrap .i64 (Z.add s10.1 1)) fun (x34 : Int) =>
 k11 (x34,s10.2))
 else none
 else some ((s10.2,(x9.1.2.1,x9.1.2.2)),((x9.2.1,()),0)))) (0,x9.1.1))) 0)
def wWb : List LSpec×List Nat:=([{ id:=3200,known:=false,toks:=[],items:=[],junk:=[],tails:=[] }],[6000000006])
def wQ8 : List LSpec×List Nat:=([],[5])
def wWa : List LSpec×List Nat:=([{ id:=3700,known:=false,toks:=[],items:=[],junk:=[],tails:=[] }],[888888])
def wWc : List LSpec×List Nat:=([{ id:=2800,known:=true,toks:=[(9000000,(.int .u8)),(9000000,(.mix 900000001 (.int .u8))),(7005000,(.mix 900000001 (.mix 900000002 (.int .u8))))],items:=[.slot 18 (.val (.int .i64)), .cells 1000004 [.val (.mix 2005000 (.mix 12005000 (.mix 22005000 (.int .u8))))], .rows 2005000 (.mix 12005000 (.mix 22005000 (.int .u8))), .rows 22005000 (.int .u8), .rows 12005000 (.mix 22005000 (.int .u8))],junk:=[19,20,21,22,5,6,23,24,25,26,27,28,29,30,31,32,33,34,35],tails:=[] }],[4000000001])
def wWd : List LSpec×List Nat:=([{ id:=1400,known:=true,toks:=[],items:=[.slot 23 (.val (.int .i64))],junk:=[24,25,26,10,27,28,29,30,31,7,32],tails:=[] },{ id:=1401,known:=true,toks:=[],items:=[.slot 37 (.val (.int .i64)), .rows 23011000 (.int .u8)],junk:=[38,39,40,13,41,42,43,44,45,46,47,48,49,50,51,52],tails:=[] }],[])
def wQ9 : List LSpec×List Nat:=([{ id:=5900,known:=false,toks:=[],items:=[],junk:=[],tails:=[] }],[6000000006])
def wYv : Tab (List LSpec×List Nat):=(.node (.node (.node .leaf none (.node .leaf none (.node .leaf none (.node .leaf (some wQ9) .leaf)))) none (.node .leaf none (.node (.node (.node .leaf (some wWa) .leaf) none .leaf) none .leaf))) none (.node (.node (.node (.node (.node .leaf (some wWb) .leaf) none .leaf) none .leaf) none (.node (.node (.node (.node .leaf (some wQ8) .leaf) none .leaf) none .leaf) none (.node .leaf (some wWc) .leaf))) none (.node .leaf none (.node .leaf (some wWd) .leaf))))
def wYy (f : Nat) : List LSpec×List Nat:=(wYv.get f).getD ([],[])
def yXa : RFn:={ args:=[(.pair (.int .i64) (.pair (.int .i64) (.pair (.int .i64) (.pair (.int .i64) (.pair (.int .i64) (.pair (.int .i64) (.pair (.int .i64) (.pair (.int .i64) (.pair (.int .i64) .unit))))))))),(.pair (.list (.list (.list (.int .u8)))) .unit),(.list (.pair (.int .u8) (.pair (.int .i64) (.pair (.int .i64) (.pair (.list (.int .u8)) .unit)))))],objs:=[(.int .u8),(.mix 0 (.int .u8)),(.mix 1 (.mix 0 (.int .u8)))],res:=[(.pair (.mix 2 (.mix 1 (.mix 0 (.int .u8)))) .unit),(.int .i64)],fn:=zJv }
theorem yY0 : OwnR Try.prog cfg 14 yXa:=fnR wYy [] (l:=[(16,yY9),(43,xXq)]) (lo:=[]) (lr:=[(28,yJc)]) zXn zQ2 (.cons xYd (.cons wWi .nil)) .nil (.cons xZx .nil) (fun d=>by kernel_rfl)
def zZh (d0 : (Int)×((Int)×(Int))) : Option (Bool) :=
 (bif (Z.ige d0.1 d0.2.1) then some (Z.zQx true (Z.ile d0.1 d0.2.2) false)
 else some false)
def xXp : PFn:={ args:=[(.int .i64),(.int .i64),(.int .i64)],res:=[.bool],fn:=zZh }
def vYv : List LSpec×List Nat:=([{ id:=3200,known:=false,toks:=[],items:=[],junk:=[],tails:=[] }],[6000000006])
def vYt : List LSpec×List Nat:=([],[5])
def vYw : List LSpec×List Nat:=([{ id:=2800,known:=true,toks:=[(9000000,(.int .u8)),(9000000,(.mix 900000001 (.int .u8))),(7005000,(.mix 900000001 (.mix 900000002 (.int .u8))))],items:=[.slot 18 (.val (.int .i64)), .cells 1000004 [.val (.mix 2005000 (.mix 12005000 (.mix 22005000 (.int .u8))))], .rows 2005000 (.mix 12005000 (.mix 22005000 (.int .u8))), .rows 22005000 (.int .u8), .rows 12005000 (.mix 22005000 (.int .u8))],junk:=[19,20,21,22,5,6,23,24,25,26,27,28,29,30,31,32,33,34,35],tails:=[] }],[4000000001])
def vYu : List LSpec×List Nat:=([{ id:=5900,known:=false,toks:=[],items:=[],junk:=[],tails:=[] }],[6000000006])
def spt75 : Tab (List LSpec×List Nat):=(.node (.node (.node .leaf none (.node .leaf none (.node .leaf none (.node .leaf (some vYu) .leaf)))) none .leaf) none (.node (.node (.node (.node (.node .leaf (some vYv) .leaf) none .leaf) none .leaf) none (.node (.node (.node (.node .leaf (some vYt) .leaf) none .leaf) none .leaf) none (.node .leaf (some vYw) .leaf))) none .leaf))
def spf75 (f : Nat) : List LSpec×List Nat:=(spt75.get f).getD ([],[])
theorem wWh : zW4 Try.prog cfg 75 xXp:=fnD spf75 (l:=[]) zXn zQ2 .nil (fun d=>by kernel_rfl)
def zKy (d0 : (Int)×((Int)×((Int)×((Int)×((Int)×((Int)×((Int)×((Int)×((Int)×(Unit)))))))))) : Option (Bool) :=
 Z.bind (zZh (d0.1,(1,64))) fun (x1 : Bool) =>
 (bif x1 then Z.bind (zZh (d0.2.1,(1,32))) fun (x2 : Bool) =>
 (bif (Z.zQx true x2 false) then Z.bind (zZh (d0.2.2.1,(2,8))) fun (x3 : Bool) =>
 (bif (Z.zQx true x3 false) then Z.bind (zZh (d0.2.2.2.1,(1,4))) fun (x4 : Bool) =>
 (bif (Z.zQx true x4 false) then Z.bind (zZh (d0.2.2.2.2.1,(1,64))) fun (x5 : Bool) =>
 (bif (Z.zQx true x5 false) then Z.bind (zZh (d0.2.2.2.2.2.1,(1,8))) fun (x6 : Bool) =>
 (bif (Z.zQx true x6 false) then Z.bind (zZh (d0.2.2.2.2.2.2.1,(1,4))) fun (x7 : Bool) =>
 (bif (Z.zQx true x7 false) then Z.bind (zZh (d0.2.2.2.2.2.2.2.1,(1,16))) fun (x8 : Bool) =>
 (bif (Z.zQx true x8 false) then Z.bind (zZh (d0.2.2.2.2.2.2.2.2.1,(1,16))) fun (x9 : Bool) =>
 some (Z.zQx true x9 false)
 else some false)
 else some false)
 else some false)
 else some false)
 else some false)
 else some false)
 else some false)
 else some false)
def yQo : PFn:={ args:=[(.pair (.int .i64) (.pair (.int .i64) (.pair (.int .i64) (.pair (.int .i64) (.pair (.int .i64) (.pair (.int .i64) (.pair (.int .i64) (.pair (.int .i64) (.pair (.int .i64) .unit)))))))))],res:=[.bool],fn:=zKy }
def uQe : List LSpec×List Nat:=([{ id:=3200,known:=false,toks:=[],items:=[],junk:=[],tails:=[] }],[6000000006])
def uQc : List LSpec×List Nat:=([],[5])
def uQf : List LSpec×List Nat:=([{ id:=2800,known:=true,toks:=[(9000000,(.int .u8)),(9000000,(.mix 900000001 (.int .u8))),(7005000,(.mix 900000001 (.mix 900000002 (.int .u8))))],items:=[.slot 18 (.val (.int .i64)), .cells 1000004 [.val (.mix 2005000 (.mix 12005000 (.mix 22005000 (.int .u8))))], .rows 2005000 (.mix 12005000 (.mix 22005000 (.int .u8))), .rows 22005000 (.int .u8), .rows 12005000 (.mix 22005000 (.int .u8))],junk:=[19,20,21,22,5,6,23,24,25,26,27,28,29,30,31,32,33,34,35],tails:=[] }],[4000000001])
def uQd : List LSpec×List Nat:=([{ id:=5900,known:=false,toks:=[],items:=[],junk:=[],tails:=[] }],[6000000006])
def spt67 : Tab (List LSpec×List Nat):=(.node (.node (.node .leaf none (.node .leaf none (.node .leaf none (.node .leaf (some uQd) .leaf)))) none .leaf) none (.node (.node (.node (.node (.node .leaf (some uQe) .leaf) none .leaf) none .leaf) none (.node (.node (.node (.node .leaf (some uQc) .leaf) none .leaf) none .leaf) none (.node .leaf (some uQf) .leaf))) none .leaf))
def spf67 (f : Nat) : List LSpec×List Nat:=(spt67.get f).getD ([],[])
theorem yJz : zW4 Try.prog cfg 67 yQo:=fnD spf67 (l:=[(75,xXp)]) zXn zQ2 (.cons wWh .nil) (fun d=>by kernel_rfl)
def zJ6 (d0 : Int) : Option (Int) :=
 Z.loop (fun (s1 : (Int)×(Int)) k2 =>
 (bif (Z.ilt s1.2 d0) then Z.bnd (Z.wrap .i64 (Z.mul 2 s1.1)) fun (x3 : Int) =>
 Z.bnd (Z.wrap .i64 (Z.add s1.2 1)) fun (x4 : Int) =>
 k2 (x3,x4)
 else some s1.1)) (1,0)
def yQp : PFn:={ args:=[(.int .i64)],res:=[(.int .i64)],fn:=zJ6 }
def uQj : List LSpec×List Nat:=([{ id:=3200,known:=false,toks:=[],items:=[],junk:=[],tails:=[] }],[6000000006])
def uQg : List LSpec×List Nat:=([],[5])
def uQk : List LSpec×List Nat:=([{ id:=2800,known:=true,toks:=[(9000000,(.int .u8)),(9000000,(.mix 900000001 (.int .u8))),(7005000,(.mix 900000001 (.mix 900000002 (.int .u8))))],items:=[.slot 18 (.val (.int .i64)), .cells 1000004 [.val (.mix 2005000 (.mix 12005000 (.mix 22005000 (.int .u8))))], .rows 2005000 (.mix 12005000 (.mix 22005000 (.int .u8))), .rows 22005000 (.int .u8), .rows 12005000 (.mix 22005000 (.int .u8))],junk:=[19,20,21,22,5,6,23,24,25,26,27,28,29,30,31,32,33,34,35],tails:=[] }],[4000000001])
def uQh : List LSpec×List Nat:=([{ id:=6600,known:=true,toks:=[],items:=[.slot 3 (.val (.int .i64)), .slot 4 (.val (.int .i64))],junk:=[5,6,7,10,11,8,9],tails:=[] }],[])
def uQi : List LSpec×List Nat:=([{ id:=5900,known:=false,toks:=[],items:=[],junk:=[],tails:=[] }],[6000000006])
def spt66 : Tab (List LSpec×List Nat):=(.node (.node (.node .leaf none (.node .leaf none (.node .leaf none (.node .leaf (some uQi) .leaf)))) none .leaf) none (.node (.node (.node (.node (.node .leaf (some uQj) .leaf) none .leaf) none .leaf) none (.node (.node (.node (.node .leaf (some uQg) .leaf) none .leaf) none .leaf) none (.node .leaf (some uQk) .leaf))) none (.node (.node (.node (.node (.node .leaf (some uQh) .leaf) none .leaf) none .leaf) none .leaf) none .leaf)))
def spf66 (f : Nat) : List LSpec×List Nat:=(spt66.get f).getD ([],[])
theorem yZi : zW4 Try.prog cfg 66 yQp:=fnD spf66 (l:=[]) zXn zQ2 .nil (fun d=>by kernel_rfl)
def yWn (d0 : Int) : Option (Int) :=
 Z.loop (fun (s1 : Int) k2 =>
 Z.bind (zJ6 s1) fun (x3 : Int) =>
 (bif (Z.ilt x3 d0) then Z.bnd (Z.wrap .i64 (Z.add s1 1)) fun (x4 : Int) =>
 k2 x4
 else some s1)) 1
def yJh : PFn:={ args:=[(.int .i64)],res:=[(.int .i64)],fn:=yWn }
def vY0 : List LSpec×List Nat:=([{ id:=3200,known:=false,toks:=[],items:=[],junk:=[],tails:=[] }],[6000000006])
def vYy : List LSpec×List Nat:=([],[5])
def vY1 : List LSpec×List Nat:=([{ id:=2800,known:=true,toks:=[(9000000,(.int .u8)),(9000000,(.mix 900000001 (.int .u8))),(7005000,(.mix 900000001 (.mix 900000002 (.int .u8))))],items:=[.slot 18 (.val (.int .i64)), .cells 1000004 [.val (.mix 2005000 (.mix 12005000 (.mix 22005000 (.int .u8))))], .rows 2005000 (.mix 12005000 (.mix 22005000 (.int .u8))), .rows 22005000 (.int .u8), .rows 12005000 (.mix 22005000 (.int .u8))],junk:=[19,20,21,22,5,6,23,24,25,26,27,28,29,30,31,32,33,34,35],tails:=[] }],[4000000001])
def vYx : List LSpec×List Nat:=([{ id:=7400,known:=true,toks:=[],items:=[.slot 3 (.val (.int .i64))],junk:=[4,5,6,7,8,9],tails:=[] }],[])
def vYz : List LSpec×List Nat:=([{ id:=5900,known:=false,toks:=[],items:=[],junk:=[],tails:=[] }],[6000000006])
def spt74 : Tab (List LSpec×List Nat):=(.node (.node (.node .leaf none (.node .leaf none (.node .leaf none (.node .leaf (some vYz) .leaf)))) none .leaf) none (.node (.node (.node (.node (.node .leaf (some vY0) .leaf) none .leaf) none .leaf) none (.node (.node (.node (.node .leaf (some vYy) .leaf) none .leaf) none .leaf) none (.node .leaf (some vY1) .leaf))) none (.node (.node .leaf none (.node (.node (.node .leaf (some vYx) .leaf) none .leaf) none .leaf)) none .leaf)))
def spf74 (f : Nat) : List LSpec×List Nat:=(spt74.get f).getD ([],[])
theorem xZ3 : zW4 Try.prog cfg 74 yJh:=fnD spf74 (l:=[(66,yQp)]) zXn zQ2 (.cons yZi .nil) (fun d=>by kernel_rfl)
def yQm (d0 : (Int)×((Int)×((Int)×((Int)×((Int)×((Int)×((Int)×((Int)×((Int)×(Unit)))))))))) : Option (List ((Int)×((Int)×((Int)×((Int)×(Unit)))))) :=
 if (Z.EqN 0 (Z.len ([] : List ((Int)×((Int)×((Int)×((Int)×(Unit)))))))) then Z.loop (fun (s3 : (List ((Int)×((Int)×((Int)×((Int)×(Unit))))))×((Int)×(Int))) k4 =>
 Z.bnd (Z.wrap .i64 (Z.add 8 s3.2.2)) fun (x5 : Int) =>
 Z.bnd (Z.wrap .i64 (Z.mul d0.2.2.2.1 x5)) fun (x6 : Int) =>
 Z.bnd (Z.wrap .i64 (Z.add x6 64)) fun (x7 : Int) =>
 Z.bind (yWn s3.2.1) fun (x8 : Int) =>
 if (Z.Le (Z.addN 0 1) (Z.len ((s3.2.1,(s3.2.2,(x8,(x7,()))))::([] : List ((Int)×((Int)×((Int)×((Int)×(Unit))))))))) then if (Z.Big (Z.len s3.1) (Z.len (Z.seg ((s3.2.1,(s3.2.2,(x8,(x7,()))))::([] : List ((Int)×((Int)×((Int)×((Int)×(Unit))))))) 0 1)) 32) then none
 else if (Z.EqN (Z.len s3.1) (Z.len s3.1)) then Z.bnd (Z.app s3.1 (Z.seg ((s3.2.1,(s3.2.2,(x8,(x7,()))))::([] : List ((Int)×((Int)×((Int)×((Int)×(Unit))))))) 0 1)) fun (x15 : List ((Int)×((Int)×((Int)×((Int)×(Unit)))))) =>
 (bif (Z.ile s3.2.1 d0.2.2.2.2.2.2.2.2.1) then some x15
 else Z.bnd (Z.wrap .i64 (Z.add s3.2.1 d0.2.2.1)) fun (x16 : Int) =>
 Z.bnd (Z.wrap .i64 (Z.sub x16 1)) fun (x17 : Int) =>
 if (Z.IsZ d0.2.2.1) then none
 else Z.bnd (Z.wrap .i64 (Z.tdiv x17 d0.2.2.1)) fun (x20 : Int) =>
 Z.bnd (Z.wrap .i64 (Z.mul 4 d0.2.2.1)) fun (x21 : Int) =>
 if (Z.EqN (Z.len x15) (Z.len x15)) then k4 (x15,(x20,x21))
 else none)
 else none
 else none) (([] : List ((Int)×((Int)×((Int)×((Int)×(Unit)))))),(d0.1,d0.2.1))
 else none
def yXr : PFn:={ args:=[(.pair (.int .i64) (.pair (.int .i64) (.pair (.int .i64) (.pair (.int .i64) (.pair (.int .i64) (.pair (.int .i64) (.pair (.int .i64) (.pair (.int .i64) (.pair (.int .i64) .unit)))))))))],res:=[(.list (.pair (.int .i64) (.pair (.int .i64) (.pair (.int .i64) (.pair (.int .i64) .unit)))))],fn:=yQm }
def uQo : List LSpec×List Nat:=([{ id:=3200,known:=false,toks:=[],items:=[],junk:=[],tails:=[] }],[6000000006])
def uQl : List LSpec×List Nat:=([],[5])
def uQp : List LSpec×List Nat:=([{ id:=2800,known:=true,toks:=[(9000000,(.int .u8)),(9000000,(.mix 900000001 (.int .u8))),(7005000,(.mix 900000001 (.mix 900000002 (.int .u8))))],items:=[.slot 18 (.val (.int .i64)), .cells 1000004 [.val (.mix 2005000 (.mix 12005000 (.mix 22005000 (.int .u8))))], .rows 2005000 (.mix 12005000 (.mix 22005000 (.int .u8))), .rows 22005000 (.int .u8), .rows 12005000 (.mix 22005000 (.int .u8))],junk:=[19,20,21,22,5,6,23,24,25,26,27,28,29,30,31,32,33,34,35],tails:=[] }],[4000000001])
def uQm : List LSpec×List Nat:=([{ id:=6500,known:=true,toks:=[(3,(.pair (.int .i64) (.pair (.int .i64) (.pair (.int .i64) (.pair (.int .i64) .unit)))))],items:=[.slot 3 (.slt (.pair (.int .i64) (.pair (.int .i64) (.pair (.int .i64) (.pair (.int .i64) .unit)))) (some 1000003) false), .slot 4 (.val (.int .i64)), .slot 5 (.val (.int .i64))],junk:=[10,11,12,13,14,15,16,17,18,19,20,21,22,23,24,25,26,27,28,2,29,30,31,32,33,34,35,36,37,38,39],tails:=[(1000003,3)] }],[])
def uQn : List LSpec×List Nat:=([{ id:=5900,known:=false,toks:=[],items:=[],junk:=[],tails:=[] }],[6000000006])
def spt65 : Tab (List LSpec×List Nat):=(.node (.node (.node .leaf none (.node .leaf none (.node .leaf none (.node .leaf (some uQn) .leaf)))) none (.node (.node (.node (.node (.node .leaf (some uQm) .leaf) none .leaf) none .leaf) none .leaf) none .leaf)) none (.node (.node (.node (.node (.node .leaf (some uQo) .leaf) none .leaf) none .leaf) none (.node (.node (.node (.node .leaf (some uQl) .leaf) none .leaf) none .leaf) none (.node .leaf (some uQp) .leaf))) none .leaf))
def spf65 (f : Nat) : List LSpec×List Nat:=(spt65.get f).getD ([],[])
theorem yJd : zW4 Try.prog cfg 65 yXr:=fnD spf65 (l:=[(74,yJh)]) zXn zQ2 (.cons xZ3 .nil) (fun d=>by kernel_rfl)
def yZd (d0 : (Int)×((Int)×((Int)×((Int)×((Int)×((Int)×((Int)×((Int)×((Int)×(Unit)))))))))) : Option (Bool) :=
 Z.bind (zKy (d0.1,(d0.2.1,(d0.2.2.1,(d0.2.2.2.1,(d0.2.2.2.2.1,(d0.2.2.2.2.2.1,(d0.2.2.2.2.2.2.1,(d0.2.2.2.2.2.2.2.1,(d0.2.2.2.2.2.2.2.2.1,())))))))))) fun (x1 : Bool) =>
 (bif x1 then Z.bind (yQm (d0.1,(d0.2.1,(d0.2.2.1,(d0.2.2.2.1,(d0.2.2.2.2.1,(d0.2.2.2.2.2.1,(d0.2.2.2.2.2.2.1,(d0.2.2.2.2.2.2.2.1,(d0.2.2.2.2.2.2.2.2.1,())))))))))) fun (x2 : List ((Int)×((Int)×((Int)×((Int)×(Unit)))))) =>
 some (Z.zQx true (Z.ile (Z.ofN (Z.len x2)) 4) false)
 else some false)
def yY8 : PFn:={ args:=[(.pair (.int .i64) (.pair (.int .i64) (.pair (.int .i64) (.pair (.int .i64) (.pair (.int .i64) (.pair (.int .i64) (.pair (.int .i64) (.pair (.int .i64) (.pair (.int .i64) .unit)))))))))],res:=[.bool],fn:=yZd }
def uWe : List LSpec×List Nat:=([{ id:=3200,known:=false,toks:=[],items:=[],junk:=[],tails:=[] }],[6000000006])
def uWc : List LSpec×List Nat:=([],[5])
def uWf : List LSpec×List Nat:=([{ id:=2800,known:=true,toks:=[(9000000,(.int .u8)),(9000000,(.mix 900000001 (.int .u8))),(7005000,(.mix 900000001 (.mix 900000002 (.int .u8))))],items:=[.slot 18 (.val (.int .i64)), .cells 1000004 [.val (.mix 2005000 (.mix 12005000 (.mix 22005000 (.int .u8))))], .rows 2005000 (.mix 12005000 (.mix 22005000 (.int .u8))), .rows 22005000 (.int .u8), .rows 12005000 (.mix 22005000 (.int .u8))],junk:=[19,20,21,22,5,6,23,24,25,26,27,28,29,30,31,32,33,34,35],tails:=[] }],[4000000001])
def uWd : List LSpec×List Nat:=([{ id:=5900,known:=false,toks:=[],items:=[],junk:=[],tails:=[] }],[6000000006])
def spt50 : Tab (List LSpec×List Nat):=(.node (.node (.node .leaf none (.node .leaf none (.node .leaf none (.node .leaf (some uWd) .leaf)))) none .leaf) none (.node (.node (.node (.node (.node .leaf (some uWe) .leaf) none .leaf) none .leaf) none (.node (.node (.node (.node .leaf (some uWc) .leaf) none .leaf) none .leaf) none (.node .leaf (some uWf) .leaf))) none .leaf))
def spf50 (f : Nat) : List LSpec×List Nat:=(spt50.get f).getD ([],[])
theorem xYc : zW4 Try.prog cfg 50 yY8:=fnD spf50 (l:=[(67,yQo),(65,yXr)]) zXn zQ2 (.cons yJz (.cons yJd .nil)) (fun d=>by kernel_rfl)
def yZb (d0 : TCf×((List (List (List (Int))))×(Unit))) : Option (Bool) :=
 Z.bind (yZd (pCf d0.1)) fun (x1 : Bool) =>
 (bif (Z.bnot x1) then some false
 else Z.bind (yQm (pCf d0.1)) fun (x2 : List ((Int)×((Int)×((Int)×((Int)×(Unit)))))) =>
 (bif (Z.ine (Z.ofN (Z.len d0.2.1)) (Z.ofN (Z.len x2))) then some false
 else Z.loop (fun (s3 : Int) k4 =>
 (bif (Z.ilt s3 (Z.ofN (Z.len x2))) then if (Z.Ix s3 (Z.len d0.2.1)) then Z.bnd (Z.get d0.2.1 (Z.toN s3) ([] : List (List (Int)))) fun (x7 : List (List (Int))) =>
 if (Z.Ix s3 (Z.len x2)) then Z.bnd (Z.get x2 (Z.toN s3) (0,(0,(0,(0,()))))) fun (x10 : (Int)×((Int)×((Int)×((Int)×(Unit))))) =>
 Z.bind (zJ6 x10.2.2.1) fun (x11 : Int) =>
 Z.bnd (Z.wrap .i64 (Z.mul 2 x11)) fun (x12 : Int) =>
 Z.bnd (Z.wrap .i64 (Z.sub x12 1)) fun (x13 : Int) =>
 (bif (Z.ine (Z.ofN (Z.len x7)) x13) then some false
 else Z.loop (fun (s14 : Int) k15 =>
 if (Z.Ix s3 (Z.len d0.2.1)) then Z.bnd (Z.get d0.2.1 (Z.toN s3) ([] : List (List (Int)))) fun (x18 : List (List (Int))) =>
 (bif (Z.ilt s14 (Z.ofN (Z.len x18))) then if (Z.Ix s3 (Z.len d0.2.1)) then Z.bnd (Z.get d0.2.1 (Z.toN s3) ([] : List (List (Int)))) fun (x21 : List (List (Int))) =>
 if (Z.Ix s14 (Z.len x21)) then Z.bnd (Z.get x21 (Z.toN s14) ([] : List (Int))) fun (x24 : List (Int)) =>
 if (Z.Ix s3 (Z.len x2)) then Z.bnd (Z.get x2 (Z.toN s3) (0,(0,(0,(0,()))))) fun (x27 : (Int)×((Int)×((Int)×((Int)×(Unit))))) =>
 Z.bnd (Z.wrap .i64 (Z.add 8 x27.2.2.2.1)) fun (x28 : Int) =>
 (bif (Z.ine (Z.ofN (Z.len x24)) x28) then some false
 else Z.bnd (Z.wrap .i64 (Z.add s14 1)) fun (x29 : Int) =>
 k15 x29)
 else none
 else none
 else none
 else Z.bnd (Z.wrap .i64 (Z.add s3 1)) fun (x30 : Int) =>
 k4 x30)
 else none) 0)
 else none
 else none
 else some true)) 0))
def yY7 : PFn:={ args:=[(.pair (.int .i64) (.pair (.int .i64) (.pair (.int .i64) (.pair (.int .i64) (.pair (.int .i64) (.pair (.int .i64) (.pair (.int .i64) (.pair (.int .i64) (.pair (.int .i64) .unit))))))))),(.pair (.list (.list (.list (.int .u8)))) .unit)],res:=[.bool],fn:=yZb }
def uWo : List LSpec×List Nat:=([{ id:=3200,known:=false,toks:=[],items:=[],junk:=[],tails:=[] }],[6000000006])
def uWl : List LSpec×List Nat:=([],[5])
def uWp : List LSpec×List Nat:=([{ id:=2800,known:=true,toks:=[(9000000,(.int .u8)),(9000000,(.mix 900000001 (.int .u8))),(7005000,(.mix 900000001 (.mix 900000002 (.int .u8))))],items:=[.slot 18 (.val (.int .i64)), .cells 1000004 [.val (.mix 2005000 (.mix 12005000 (.mix 22005000 (.int .u8))))], .rows 2005000 (.mix 12005000 (.mix 22005000 (.int .u8))), .rows 22005000 (.int .u8), .rows 12005000 (.mix 22005000 (.int .u8))],junk:=[19,20,21,22,5,6,23,24,25,26,27,28,29,30,31,32,33,34,35],tails:=[] }],[4000000001])
def uWn : List LSpec×List Nat:=([{ id:=4600,known:=true,toks:=[],items:=[.slot 6 (.val (.int .i64))],junk:=[19,20,21,22,25,26,27,28,29,30,31,32,33,34,35,36,37,38,39,4,7,40,41,42,43,44,45,46,47,50,51,52,53,54,55,56,57,58,59,60,61,62,63,64,65,48,49,23,24],tails:=[] },{ id:=4601,known:=true,toks:=[],items:=[.slot 7 (.val (.int .i64))],junk:=[40,41,42,43,44,45,46,47,50,51,52,53,54,55,56,57,58,59,60,61,62,63,64,65,4,48,49],tails:=[] }],[])
def uWm : List LSpec×List Nat:=([{ id:=5900,known:=false,toks:=[],items:=[],junk:=[],tails:=[] }],[6000000006])
def spt46 : Tab (List LSpec×List Nat):=(.node (.node (.node .leaf none (.node .leaf none (.node .leaf none (.node .leaf (some uWm) .leaf)))) none .leaf) none (.node (.node (.node (.node (.node .leaf (some uWo) .leaf) none .leaf) none .leaf) none (.node (.node (.node (.node .leaf (some uWl) .leaf) none .leaf) none .leaf) none (.node .leaf (some uWp) .leaf))) none (.node .leaf none (.node .leaf none (.node (.node .leaf (some uWn) .leaf) none .leaf)))))
def spf46 (f : Nat) : List LSpec×List Nat:=(spt46.get f).getD ([],[])
theorem xYb : zW4 Try.prog cfg 46 yY7:=fnD spf46 (l:=[(50,yY8),(65,yXr),(66,yQp)]) zXn zQ2 (.cons xYc (.cons yJd (.cons yZi .nil))) (fun d=>by kernel_rfl)
def zZ9 (d0 : ((List (List (List (Int))))×(Unit))×((Int)×(List (Int)))) : Option (Bool) :=
 (bif (Z.ilt d0.2.1 0) then some false
 else (bif (Z.zQx false true (Z.ige d0.2.1 (Z.ofN (Z.len d0.1.1)))) then some false
 else Z.loop (fun (s1 : Int) k2 =>
 (bif (Z.ilt s1 (Z.ofN (Z.len d0.2.2))) then if (Z.Ix s1 (Z.len d0.2.2)) then Z.bnd (Z.get d0.2.2 (Z.toN s1) 0) fun (x5 : Int) =>
 (bif (Z.ilt x5 1) then some false
 else if (Z.Ix s1 (Z.len d0.2.2)) then Z.bnd (Z.get d0.2.2 (Z.toN s1) 0) fun (x8 : Int) =>
 if (Z.Ix d0.2.1 (Z.len d0.1.1)) then Z.bnd (Z.get d0.1.1 (Z.toN d0.2.1) ([] : List (List (Int)))) fun (x11 : List (List (Int))) =>
 (bif (Z.zQx false true (Z.igt x8 (Z.ofN (Z.len x11)))) then some false
 else Z.bnd (Z.wrap .i64 (Z.add s1 1)) fun (x12 : Int) =>
 k2 x12)
 else none
 else none)
 else none
 else some true)) 0))
def yZl : PFn:={ args:=[(.pair (.list (.list (.list (.int .u8)))) .unit),(.int .i64),(.list (.int .i64))],res:=[.bool],fn:=zZ9 }
def uWj : List LSpec×List Nat:=([{ id:=3200,known:=false,toks:=[],items:=[],junk:=[],tails:=[] }],[6000000006])
def uWg : List LSpec×List Nat:=([],[5])
def uWk : List LSpec×List Nat:=([{ id:=2800,known:=true,toks:=[(9000000,(.int .u8)),(9000000,(.mix 900000001 (.int .u8))),(7005000,(.mix 900000001 (.mix 900000002 (.int .u8))))],items:=[.slot 18 (.val (.int .i64)), .cells 1000004 [.val (.mix 2005000 (.mix 12005000 (.mix 22005000 (.int .u8))))], .rows 2005000 (.mix 12005000 (.mix 22005000 (.int .u8))), .rows 22005000 (.int .u8), .rows 12005000 (.mix 22005000 (.int .u8))],junk:=[19,20,21,22,5,6,23,24,25,26,27,28,29,30,31,32,33,34,35],tails:=[] }],[4000000001])
def uWi : List LSpec×List Nat:=([{ id:=4700,known:=true,toks:=[],items:=[.slot 7 (.val (.int .i64))],junk:=[17,18,19,20,23,24,25,26,27,28,29,30,31,32,33,34,35,36,37,38,39,40,6,21,22],tails:=[] }],[])
def uWh : List LSpec×List Nat:=([{ id:=5900,known:=false,toks:=[],items:=[],junk:=[],tails:=[] }],[6000000006])
def spt47 : Tab (List LSpec×List Nat):=(.node (.node (.node (.node (.node .leaf none (.node .leaf (some uWi) .leaf)) none .leaf) none (.node .leaf none (.node .leaf none (.node .leaf (some uWh) .leaf)))) none .leaf) none (.node (.node (.node (.node (.node .leaf (some uWj) .leaf) none .leaf) none .leaf) none (.node (.node (.node (.node .leaf (some uWg) .leaf) none .leaf) none .leaf) none (.node .leaf (some uWk) .leaf))) none .leaf))
def spf47 (f : Nat) : List LSpec×List Nat:=(spt47.get f).getD ([],[])
theorem xWs : zW4 Try.prog cfg 47 yZl:=fnD spf47 (l:=[]) zXn zQ2 .nil (fun d=>by kernel_rfl)
def zJo (d0 : ((List (List (List (Int))))×(Unit))×TSe) : Option (Bool) :=
 (bif (Z.ieq d0.2.1 1) then if (Z.Le (Z.addN 0 1) (Z.len (d0.2.2.2.1::([] : List (Int))))) then Z.bind (zZ9 ((d0.1.1,()),(d0.2.2.1,(Z.seg (d0.2.2.2.1::([] : List (Int))) 0 1)))) fun (x3 : Bool) =>
 (bif (Z.zQx true x3 false) then if (Z.Ix d0.2.2.1 (Z.len d0.1.1)) then Z.bnd (Z.get d0.1.1 (Z.toN d0.2.2.1) ([] : List (List (Int)))) fun (x6 : List (List (Int))) =>
 if (Z.Ix 0 (Z.len x6)) then Z.bnd (Z.get x6 (Z.toN 0) ([] : List (Int))) fun (x9 : List (Int)) =>
 some (Z.zQx true (Z.ieq (Z.ofN (Z.len d0.2.2.2.2.1)) (Z.ofN (Z.len x9))) false)
 else none
 else none
 else some false)
 else none
 else (bif (Z.zQx false true (Z.ieq d0.2.1 2)) then if (Z.Le (Z.addN 0 1) (Z.len (d0.2.2.2.1::([] : List (Int))))) then Z.bind (zZ9 ((d0.1.1,()),(d0.2.2.1,(Z.seg (d0.2.2.2.1::([] : List (Int))) 0 1)))) fun (x12 : Bool) =>
 (bif (Z.zQx true x12 false) then if (Z.Ix d0.2.2.1 (Z.len d0.1.1)) then Z.bnd (Z.get d0.1.1 (Z.toN d0.2.2.1) ([] : List (List (Int)))) fun (x15 : List (List (Int))) =>
 if (Z.Ix 0 (Z.len x15)) then Z.bnd (Z.get x15 (Z.toN 0) ([] : List (Int))) fun (x18 : List (Int)) =>
 some (Z.zQx true (Z.ieq (Z.ofN (Z.len d0.2.2.2.2.1)) (Z.ofN (Z.len x18))) false)
 else none
 else none
 else some false)
 else none
 else some false))
def yXd : PFn:={ args:=[(.pair (.list (.list (.list (.int .u8)))) .unit),(.pair (.int .u8) (.pair (.int .i64) (.pair (.int .i64) (.pair (.list (.int .u8)) .unit))))],res:=[.bool],fn:=zJo }
def uQ5 : List LSpec×List Nat:=([{ id:=3200,known:=false,toks:=[],items:=[],junk:=[],tails:=[] }],[6000000006])
def uQ3 : List LSpec×List Nat:=([],[5])
def uQ6 : List LSpec×List Nat:=([{ id:=2800,known:=true,toks:=[(9000000,(.int .u8)),(9000000,(.mix 900000001 (.int .u8))),(7005000,(.mix 900000001 (.mix 900000002 (.int .u8))))],items:=[.slot 18 (.val (.int .i64)), .cells 1000004 [.val (.mix 2005000 (.mix 12005000 (.mix 22005000 (.int .u8))))], .rows 2005000 (.mix 12005000 (.mix 22005000 (.int .u8))), .rows 22005000 (.int .u8), .rows 12005000 (.mix 22005000 (.int .u8))],junk:=[19,20,21,22,5,6,23,24,25,26,27,28,29,30,31,32,33,34,35],tails:=[] }],[4000000001])
def uQ4 : List LSpec×List Nat:=([{ id:=5900,known:=false,toks:=[],items:=[],junk:=[],tails:=[] }],[6000000006])
def spt58 : Tab (List LSpec×List Nat):=(.node (.node (.node .leaf none (.node .leaf none (.node .leaf none (.node .leaf (some uQ4) .leaf)))) none .leaf) none (.node (.node (.node (.node (.node .leaf (some uQ5) .leaf) none .leaf) none .leaf) none (.node (.node (.node (.node .leaf (some uQ3) .leaf) none .leaf) none .leaf) none (.node .leaf (some uQ6) .leaf))) none .leaf))
def spf58 (f : Nat) : List LSpec×List Nat:=(spt58.get f).getD ([],[])
theorem yY5 : zW4 Try.prog cfg 58 yXd:=fnD spf58 (l:=[(47,yZl)]) zXn zQ2 (.cons xWs .nil) (fun d=>by kernel_rfl)
def zJp (d0 : ((List (List (List (Int))))×(Unit))×(List TSe)) : Option ((List (List (List (Int))))×(Unit)) :=
 Z.bind (zJm (d0.1.1,())) fun (x1 : ((List (List (List (Int))))×(List (List (MixE (List (Int))))))×((MixE (MixE (List (Int))))×(Unit))) =>
 Z.loop (fun (s2 : (Int)×(List (List (List (Int))))) k3 =>
 (bif (Z.ilt s2.1 (Z.ofN (Z.len d0.2))) then if (Z.Ix s2.1 (Z.len d0.2)) then Z.bnd (Z.get d0.2 (Z.toN s2.1) (0,(0,(0,(([] : List (Int)),()))))) fun (x6 : (Int)×((Int)×((Int)×((List (Int))×(Unit))))) =>
 (bif (Z.ieq x6.1 2) then if (Z.Ix s2.1 (Z.len d0.2)) then Z.bnd (Z.get d0.2 (Z.toN s2.1) (0,(0,(0,(([] : List (Int)),()))))) fun (x9 : (Int)×((Int)×((Int)×((List (Int))×(Unit))))) =>
 if (Z.Ix x9.2.1 (Z.xlen x1.2.1)) then if (Z.XPt x1.1.2 x1.2.1 (Z.toN x9.2.1)) then if (Z.XPt x1.1.2 x1.2.1 (Z.toN x9.2.1)) then Z.bnd (Z.xat x1.1.2 x1.2.1 (Z.toN x9.2.1) (MixE.nil : MixE (List (Int)))) fun (x16 : MixE (List (Int))) =>
 if (Z.Ix s2.1 (Z.len d0.2)) then Z.bnd (Z.get d0.2 (Z.toN s2.1) (0,(0,(0,(([] : List (Int)),()))))) fun (x19 : (Int)×((Int)×((Int)×((List (Int))×(Unit))))) =>
 Z.bnd (Z.wrap .i64 (Z.sub x19.2.2.1 1)) fun (x20 : Int) =>
 if (Z.Ix s2.1 (Z.len d0.2)) then Z.bnd (Z.get d0.2 (Z.toN s2.1) (0,(0,(0,(([] : List (Int)),()))))) fun (x23 : (Int)×((Int)×((Int)×((List (Int))×(Unit))))) =>
 if (Z.Le (Z.addN 0 0) (Z.len ([] : List (Int)))) then if (Z.Big (Z.len (Z.seg ([] : List (Int)) 0 0)) (Z.len x23.2.2.2.1) 1) then none
 else Z.bnd (Z.app (Z.seg ([] : List (Int)) 0 0) x23.2.2.2.1) fun (x28 : List (Int)) =>
 if (Z.Ix x20 (Z.xlen x16)) then if (Z.XPt s2.2 x16 (Z.toN x20)) then if (Z.XPt s2.2 x16 (Z.toN x20)) then Z.bnd (Z.xset s2.2 x16 (Z.toN x20) x28) fun (x35 : List (List (List (Int)))) =>
 Z.bnd (Z.wrap .i64 (Z.add s2.1 1)) fun (x36 : Int) =>
 k3 (x36,x35)
 else none
 else none
 else none
 else none
 else none
 else none
 else none
 else none
 else none
 else none
 else Z.bnd (Z.wrap .i64 (Z.add s2.1 1)) fun (x37 : Int) =>
 k3 (x37,s2.2))
 else none
 else if (Z.XOk x1.1.2 x1.2.1) then Z.bind (Z.mapO (fun (e40 : MixE (List (Int))) =>
 if (Z.XOk s2.2 e40) then Z.bnd (Z.xget s2.2 e40) fun (x43 : List (List (Int))) =>
 some x43
 else none) (Z.xget x1.1.2 x1.2.1)) fun (x44 : List (List (List (Int)))) =>
 some (x44,())
 else none)) (0,x1.1.1)
def yXe : PFn:={ args:=[(.pair (.list (.list (.list (.int .u8)))) .unit),(.list (.pair (.int .u8) (.pair (.int .i64) (.pair (.int .i64) (.pair (.list (.int .u8)) .unit)))))],res:=[(.pair (.list (.list (.list (.int .u8)))) .unit)],fn:=zJp }
def uQ1 : List LSpec×List Nat:=([{ id:=3200,known:=false,toks:=[],items:=[],junk:=[],tails:=[] }],[6000000006])
def uQz : List LSpec×List Nat:=([],[5])
def uQ2 : List LSpec×List Nat:=([{ id:=2800,known:=true,toks:=[(9000000,(.int .u8)),(9000000,(.mix 900000001 (.int .u8))),(7005000,(.mix 900000001 (.mix 900000002 (.int .u8))))],items:=[.slot 18 (.val (.int .i64)), .cells 1000004 [.val (.mix 2005000 (.mix 12005000 (.mix 22005000 (.int .u8))))], .rows 2005000 (.mix 12005000 (.mix 22005000 (.int .u8))), .rows 22005000 (.int .u8), .rows 12005000 (.mix 22005000 (.int .u8))],junk:=[19,20,21,22,5,6,23,24,25,26,27,28,29,30,31,32,33,34,35],tails:=[] }],[4000000001])
def uQ0 : List LSpec×List Nat:=([{ id:=5900,known:=true,toks:=[],items:=[.slot 6 (.val (.int .i64)), .rows 13005000 (.list (.int .u8))],junk:=[9,10,11,12,15,16,17,18,19,20,21,22,23,24,25,26,27,28,29,30,31,32,33,34,35,36,37,38,39,40,41,42,43,13,14],tails:=[] }],[6000000006])
def spt59 : Tab (List LSpec×List Nat):=(.node (.node (.node .leaf none (.node .leaf none (.node .leaf none (.node .leaf (some uQ0) .leaf)))) none .leaf) none (.node (.node (.node (.node (.node .leaf (some uQ1) .leaf) none .leaf) none .leaf) none (.node (.node (.node (.node .leaf (some uQz) .leaf) none .leaf) none .leaf) none (.node .leaf (some uQ2) .leaf))) none .leaf))
def spf59 (f : Nat) : List LSpec×List Nat:=(spt59.get f).getD ([],[])
theorem yY6 : zW4 Try.prog cfg 59 yXe:=fnDr spf59 [] (l:=[]) (lo:=[]) (lr:=[(19,yW9)]) zXn zQ2 .nil .nil (.cons yYz .nil) (fun d=>by kernel_rfl)
def zJn (d0 : TCf×(((List (List (List (Int))))×(Unit))×(List TSe))) : Option (((List (List (List (Int))))×(Unit))×(Int)) :=
 Z.bind (yZb ((pCf d0.1),(d0.2.1.1,()))) fun (x1 : Bool) =>
 (bif (Z.bnot x1) then some ((([] : List (List (List (Int)))),()),8)
 else Z.loop (fun (s2 : Int) k3 =>
 (bif (Z.ilt s2 (Z.ofN (Z.len d0.2.2))) then if (Z.Ix s2 (Z.len d0.2.2)) then Z.bnd (Z.get d0.2.2 (Z.toN s2) (0,(0,(0,(([] : List (Int)),()))))) fun (x6 : (Int)×((Int)×((Int)×((List (Int))×(Unit))))) =>
 Z.bind (zJo ((d0.2.1.1,()),(x6.1,(x6.2.1,(x6.2.2.1,(x6.2.2.2.1,())))))) fun (x7 : Bool) =>
 (bif (Z.bnot x7) then some ((([] : List (List (List (Int)))),()),2)
 else Z.bnd (Z.wrap .i64 (Z.add s2 1)) fun (x8 : Int) =>
 k3 x8)
 else none
 else Z.bind (zJp ((d0.2.1.1,()),d0.2.2)) fun (x9 : (List (List (List (Int))))×(Unit)) =>
 some ((x9.1,()),0))) 0)
def yXc : PFn:={ args:=[(.pair (.int .i64) (.pair (.int .i64) (.pair (.int .i64) (.pair (.int .i64) (.pair (.int .i64) (.pair (.int .i64) (.pair (.int .i64) (.pair (.int .i64) (.pair (.int .i64) .unit))))))))),(.pair (.list (.list (.list (.int .u8)))) .unit),(.list (.pair (.int .u8) (.pair (.int .i64) (.pair (.int .i64) (.pair (.list (.int .u8)) .unit)))))],res:=[(.pair (.list (.list (.list (.int .u8)))) .unit),(.int .i64)],fn:=zJn }
def uXb : List LSpec×List Nat:=([{ id:=3200,known:=false,toks:=[],items:=[],junk:=[],tails:=[] }],[6000000006])
def uW8 : List LSpec×List Nat:=([],[5])
def uXc : List LSpec×List Nat:=([{ id:=2800,known:=true,toks:=[(9000000,(.int .u8)),(9000000,(.mix 900000001 (.int .u8))),(7005000,(.mix 900000001 (.mix 900000002 (.int .u8))))],items:=[.slot 18 (.val (.int .i64)), .cells 1000004 [.val (.mix 2005000 (.mix 12005000 (.mix 22005000 (.int .u8))))], .rows 2005000 (.mix 12005000 (.mix 22005000 (.int .u8))), .rows 22005000 (.int .u8), .rows 12005000 (.mix 22005000 (.int .u8))],junk:=[19,20,21,22,5,6,23,24,25,26,27,28,29,30,31,32,33,34,35],tails:=[] }],[4000000001])
def uW9 : List LSpec×List Nat:=([{ id:=5900,known:=false,toks:=[],items:=[],junk:=[],tails:=[] }],[6000000006])
def uXa : List LSpec×List Nat:=([{ id:=3300,known:=true,toks:=[],items:=[.slot 8 (.val (.int .i64))],junk:=[14,15,16,17,20,21,22,23,24,25,26,27,7,18,19],tails:=[] }],[])
def spt33 : Tab (List LSpec×List Nat):=(.node (.node (.node .leaf none (.node .leaf none (.node .leaf none (.node .leaf (some uW9) .leaf)))) none (.node (.node (.node (.node .leaf (some uXa) .leaf) none .leaf) none .leaf) none .leaf)) none (.node (.node (.node (.node (.node .leaf (some uXb) .leaf) none .leaf) none .leaf) none (.node (.node (.node (.node .leaf (some uW8) .leaf) none .leaf) none .leaf) none (.node .leaf (some uXc) .leaf))) none .leaf))
def spf33 (f : Nat) : List LSpec×List Nat:=(spt33.get f).getD ([],[])
theorem yY4 : zW4 Try.prog cfg 33 yXc:=fnD spf33 (l:=[(46,yY7),(58,yXd),(59,yXe)]) zXn zQ2 (.cons xYb (.cons yY5 (.cons yY6 .nil))) (fun d=>by kernel_rfl)
def zJ7 (d0 : (List (Int))×(List (Int))) : Option (Bool) :=
 Z.bnd (Z.str d0.1) fun (x1 : List (UInt8)) =>
 Z.bnd (Z.str d0.2) fun (x2 : List (UInt8)) =>
 some (Z.seq x1 x2)
def yQr : PFn:={ args:=[(.list (.int .u8)),(.list (.int .u8))],res:=[.bool],fn:=zJ7 }
def uW6 : List LSpec×List Nat:=([{ id:=3200,known:=false,toks:=[],items:=[],junk:=[],tails:=[] }],[6000000006])
def uW4 : List LSpec×List Nat:=([],[5])
def uW7 : List LSpec×List Nat:=([{ id:=2800,known:=true,toks:=[(9000000,(.int .u8)),(9000000,(.mix 900000001 (.int .u8))),(7005000,(.mix 900000001 (.mix 900000002 (.int .u8))))],items:=[.slot 18 (.val (.int .i64)), .cells 1000004 [.val (.mix 2005000 (.mix 12005000 (.mix 22005000 (.int .u8))))], .rows 2005000 (.mix 12005000 (.mix 22005000 (.int .u8))), .rows 22005000 (.int .u8), .rows 12005000 (.mix 22005000 (.int .u8))],junk:=[19,20,21,22,5,6,23,24,25,26,27,28,29,30,31,32,33,34,35],tails:=[] }],[4000000001])
def uW5 : List LSpec×List Nat:=([{ id:=5900,known:=false,toks:=[],items:=[],junk:=[],tails:=[] }],[6000000006])
def spt34 : Tab (List LSpec×List Nat):=(.node (.node (.node .leaf none (.node .leaf none (.node .leaf none (.node .leaf (some uW5) .leaf)))) none .leaf) none (.node (.node (.node (.node (.node .leaf (some uW6) .leaf) none .leaf) none .leaf) none (.node (.node (.node (.node .leaf (some uW4) .leaf) none .leaf) none .leaf) none (.node .leaf (some uW7) .leaf))) none .leaf))
def spf34 (f : Nat) : List LSpec×List Nat:=(spt34.get f).getD ([],[])
theorem yZj : zW4 Try.prog cfg 34 yQr:=fnD spf34 (l:=[]) zXn zQ2 .nil (fun d=>by kernel_rfl)
def zKz (d0 : (List (List (Int)))×(List (List (Int)))) : Option (Bool) :=
 (bif (Z.ine (Z.ofN (Z.len d0.1)) (Z.ofN (Z.len d0.2))) then some false
 else Z.loop (fun (s1 : Int) k2 =>
 (bif (Z.ilt s1 (Z.ofN (Z.len d0.1))) then if (Z.Ix s1 (Z.len d0.1)) then Z.bnd (Z.get d0.1 (Z.toN s1) ([] : List (Int))) fun (x5 : List (Int)) =>
 if (Z.Ix s1 (Z.len d0.2)) then Z.bnd (Z.get d0.2 (Z.toN s1) ([] : List (Int))) fun (x8 : List (Int)) =>
 Z.bind (zJ7 (x5,x8)) fun (x9 : Bool) =>
 (bif (Z.bnot x9) then some false
 else Z.bnd (Z.wrap .i64 (Z.add s1 1)) fun (x10 : Int) =>
 k2 x10)
 else none
 else none
 else some true)) 0)
def yQq : PFn:={ args:=[(.list (.list (.int .u8))),(.list (.list (.int .u8)))],res:=[.bool],fn:=zKz }
def uXy : List LSpec×List Nat:=([{ id:=3200,known:=false,toks:=[],items:=[],junk:=[],tails:=[] }],[6000000006])
def uXw : List LSpec×List Nat:=([],[5])
def uXz : List LSpec×List Nat:=([{ id:=2800,known:=true,toks:=[(9000000,(.int .u8)),(9000000,(.mix 900000001 (.int .u8))),(7005000,(.mix 900000001 (.mix 900000002 (.int .u8))))],items:=[.slot 18 (.val (.int .i64)), .cells 1000004 [.val (.mix 2005000 (.mix 12005000 (.mix 22005000 (.int .u8))))], .rows 2005000 (.mix 12005000 (.mix 22005000 (.int .u8))), .rows 22005000 (.int .u8), .rows 12005000 (.mix 22005000 (.int .u8))],junk:=[19,20,21,22,5,6,23,24,25,26,27,28,29,30,31,32,33,34,35],tails:=[] }],[4000000001])
def uXx : List LSpec×List Nat:=([{ id:=5900,known:=false,toks:=[],items:=[],junk:=[],tails:=[] }],[6000000006])
def uX0 : List LSpec×List Nat:=([{ id:=2300,known:=true,toks:=[],items:=[.slot 5 (.val (.int .i64))],junk:=[11,12,13,14,17,18,19,20,21,22,23,24,25,26,4,15,16],tails:=[] }],[])
def spt23 : Tab (List LSpec×List Nat):=(.node (.node (.node (.node .leaf none (.node .leaf (some uX0) .leaf)) none (.node .leaf none (.node .leaf none (.node .leaf (some uXx) .leaf)))) none .leaf) none (.node (.node (.node (.node (.node .leaf (some uXy) .leaf) none .leaf) none .leaf) none (.node (.node (.node (.node .leaf (some uXw) .leaf) none .leaf) none .leaf) none (.node .leaf (some uXz) .leaf))) none .leaf))
def spf23 (f : Nat) : List LSpec×List Nat:=(spt23.get f).getD ([],[])
theorem yJ0 : zW4 Try.prog cfg 23 yQq:=fnD spf23 (l:=[(34,yQr)]) zXn zQ2 (.cons yZj .nil) (fun d=>by kernel_rfl)
def zK2 (d0 : ((List (List (List (Int))))×(Unit))×((List (List (List (Int))))×(Unit))) : Option (Bool) :=
 (bif (Z.ine (Z.ofN (Z.len d0.1.1)) (Z.ofN (Z.len d0.2.1))) then some false
 else Z.loop (fun (s1 : Int) k2 =>
 (bif (Z.ilt s1 (Z.ofN (Z.len d0.1.1))) then if (Z.Ix s1 (Z.len d0.1.1)) then Z.bnd (Z.get d0.1.1 (Z.toN s1) ([] : List (List (Int)))) fun (x5 : List (List (Int))) =>
 if (Z.Ix s1 (Z.len d0.2.1)) then Z.bnd (Z.get d0.2.1 (Z.toN s1) ([] : List (List (Int)))) fun (x8 : List (List (Int))) =>
 Z.bind (zKz (x5,x8)) fun (x9 : Bool) =>
 (bif (Z.bnot x9) then some false
 else Z.bnd (Z.wrap .i64 (Z.add s1 1)) fun (x10 : Int) =>
 k2 x10)
 else none
 else none
 else some true)) 0)
def yJg : PFn:={ args:=[(.pair (.list (.list (.list (.int .u8)))) .unit),(.pair (.list (.list (.list (.int .u8)))) .unit)],res:=[.bool],fn:=zK2 }
def uXo : List LSpec×List Nat:=([{ id:=3200,known:=false,toks:=[],items:=[],junk:=[],tails:=[] }],[6000000006])
def uXm : List LSpec×List Nat:=([],[5])
def uXp : List LSpec×List Nat:=([{ id:=2800,known:=true,toks:=[(9000000,(.int .u8)),(9000000,(.mix 900000001 (.int .u8))),(7005000,(.mix 900000001 (.mix 900000002 (.int .u8))))],items:=[.slot 18 (.val (.int .i64)), .cells 1000004 [.val (.mix 2005000 (.mix 12005000 (.mix 22005000 (.int .u8))))], .rows 2005000 (.mix 12005000 (.mix 22005000 (.int .u8))), .rows 22005000 (.int .u8), .rows 12005000 (.mix 22005000 (.int .u8))],junk:=[19,20,21,22,5,6,23,24,25,26,27,28,29,30,31,32,33,34,35],tails:=[] }],[4000000001])
def uXn : List LSpec×List Nat:=([{ id:=5900,known:=false,toks:=[],items:=[],junk:=[],tails:=[] }],[6000000006])
def uXq : List LSpec×List Nat:=([{ id:=2500,known:=true,toks:=[],items:=[.slot 5 (.val (.int .i64))],junk:=[13,14,15,16,17,20,21,22,23,24,25,26,27,28,29,30,31,4,18,19],tails:=[] }],[])
def spt25 : Tab (List LSpec×List Nat):=(.node (.node (.node .leaf none (.node .leaf none (.node .leaf none (.node .leaf (some uXn) .leaf)))) none (.node (.node .leaf none (.node .leaf (some uXq) .leaf)) none .leaf)) none (.node (.node (.node (.node (.node .leaf (some uXo) .leaf) none .leaf) none .leaf) none (.node (.node (.node (.node .leaf (some uXm) .leaf) none .leaf) none .leaf) none (.node .leaf (some uXp) .leaf))) none .leaf))
def spf25 (f : Nat) : List LSpec×List Nat:=(spt25.get f).getD ([],[])
theorem xZ2 : zW4 Try.prog cfg 25 yJg:=fnD spf25 (l:=[(23,yQq)]) zXn zQ2 (.cons yJ0 .nil) (fun d=>by kernel_rfl)
def zZe (d0 : (List TSe)×(List TSe)) : Option (Bool) :=
 (bif (Z.ine (Z.ofN (Z.len d0.1)) (Z.ofN (Z.len d0.2))) then some false
 else Z.loop (fun (s1 : Int) k2 =>
 (bif (Z.ilt s1 (Z.ofN (Z.len d0.1))) then if (Z.Ix s1 (Z.len d0.1)) then Z.bnd (Z.get d0.1 (Z.toN s1) (0,(0,(0,(([] : List (Int)),()))))) fun (x5 : (Int)×((Int)×((Int)×((List (Int))×(Unit))))) =>
 if (Z.Ix s1 (Z.len d0.2)) then Z.bnd (Z.get d0.2 (Z.toN s1) (0,(0,(0,(([] : List (Int)),()))))) fun (x8 : (Int)×((Int)×((Int)×((List (Int))×(Unit))))) =>
 (bif (Z.ine x5.1 x8.1) then some false
 else if (Z.Ix s1 (Z.len d0.1)) then Z.bnd (Z.get d0.1 (Z.toN s1) (0,(0,(0,(([] : List (Int)),()))))) fun (x11 : (Int)×((Int)×((Int)×((List (Int))×(Unit))))) =>
 if (Z.Ix s1 (Z.len d0.2)) then Z.bnd (Z.get d0.2 (Z.toN s1) (0,(0,(0,(([] : List (Int)),()))))) fun (x14 : (Int)×((Int)×((Int)×((List (Int))×(Unit))))) =>
 (bif (Z.zQx false true (Z.ine x11.2.1 x14.2.1)) then some false
 else if (Z.Ix s1 (Z.len d0.1)) then Z.bnd (Z.get d0.1 (Z.toN s1) (0,(0,(0,(([] : List (Int)),()))))) fun (x17 : (Int)×((Int)×((Int)×((List (Int))×(Unit))))) =>
 if (Z.Ix s1 (Z.len d0.2)) then Z.bnd (Z.get d0.2 (Z.toN s1) (0,(0,(0,(([] : List (Int)),()))))) fun (x20 : (Int)×((Int)×((Int)×((List (Int))×(Unit))))) =>
 (bif (Z.zQx false true (Z.ine x17.2.2.1 x20.2.2.1)) then some false
 else if (Z.Ix s1 (Z.len d0.1)) then Z.bnd (Z.get d0.1 (Z.toN s1) (0,(0,(0,(([] : List (Int)),()))))) fun (x23 : (Int)×((Int)×((Int)×((List (Int))×(Unit))))) =>
 if (Z.Ix s1 (Z.len d0.2)) then Z.bnd (Z.get d0.2 (Z.toN s1) (0,(0,(0,(([] : List (Int)),()))))) fun (x26 : (Int)×((Int)×((Int)×((List (Int))×(Unit))))) =>
 Z.bind (zJ7 (x23.2.2.2.1,x26.2.2.2.1)) fun (x27 : Bool) =>
 (bif (Z.zQx false true (Z.bnot x27)) then some false
 else Z.bnd (Z.wrap .i64 (Z.add s1 1)) fun (x28 : Int) =>
 k2 x28)
 else none
 else none)
 else none
 else none)
 else none
 else none)
 else none
 else none
 else some true)) 0)
def yQc : PFn:={ args:=[(.list (.pair (.int .u8) (.pair (.int .i64) (.pair (.int .i64) (.pair (.list (.int .u8)) .unit))))),(.list (.pair (.int .u8) (.pair (.int .i64) (.pair (.int .i64) (.pair (.list (.int .u8)) .unit)))))],res:=[.bool],fn:=zZe }
def uXt : List LSpec×List Nat:=([{ id:=3200,known:=false,toks:=[],items:=[],junk:=[],tails:=[] }],[6000000006])
def uXr : List LSpec×List Nat:=([],[5])
def uXu : List LSpec×List Nat:=([{ id:=2800,known:=true,toks:=[(9000000,(.int .u8)),(9000000,(.mix 900000001 (.int .u8))),(7005000,(.mix 900000001 (.mix 900000002 (.int .u8))))],items:=[.slot 18 (.val (.int .i64)), .cells 1000004 [.val (.mix 2005000 (.mix 12005000 (.mix 22005000 (.int .u8))))], .rows 2005000 (.mix 12005000 (.mix 22005000 (.int .u8))), .rows 22005000 (.int .u8), .rows 12005000 (.mix 22005000 (.int .u8))],junk:=[19,20,21,22,5,6,23,24,25,26,27,28,29,30,31,32,33,34,35],tails:=[] }],[4000000001])
def uXs : List LSpec×List Nat:=([{ id:=5900,known:=false,toks:=[],items:=[],junk:=[],tails:=[] }],[6000000006])
def uXv : List LSpec×List Nat:=([{ id:=2400,known:=true,toks:=[],items:=[.slot 5 (.val (.int .i64))],junk:=[11,12,13,14,17,18,19,20,21,22,23,24,25,26,27,28,29,30,31,32,33,34,35,36,37,38,39,40,41,42,43,44,45,46,47,48,49,50,51,52,53,54,55,56,57,58,59,60,61,62,63,64,65,66,67,4,15,16],tails:=[] }],[])
def spt24 : Tab (List LSpec×List Nat):=(.node (.node (.node .leaf none (.node .leaf none (.node .leaf none (.node .leaf (some uXs) .leaf)))) none .leaf) none (.node (.node (.node (.node (.node .leaf (some uXt) .leaf) none .leaf) none (.node .leaf (some uXv) .leaf)) none (.node (.node (.node (.node .leaf (some uXr) .leaf) none .leaf) none .leaf) none (.node .leaf (some uXu) .leaf))) none .leaf))
def spf24 (f : Nat) : List LSpec×List Nat:=(spt24.get f).getD ([],[])
theorem yKm : zW4 Try.prog cfg 24 yQc:=fnD spf24 (l:=[(34,yQr)]) zXn zQ2 (.cons yZj .nil) (fun d=>by kernel_rfl)
def zZi (d0 : TCf×(((List (List (List (Int))))×(Unit))×(List TSe))) : Option (Bool) :=
 Z.join (σ:=Bool) (fun k1 =>
 Z.bind (zYn (d0.2.1.1,())) fun (x2 : Bool) =>
 (bif x2 then k1 true
 else Z.bind (zZw d0.2.2) fun (x3 : Bool) =>
 k1 (Z.zQx false true x3))) fun (j4 : Bool) =>
 (bif j4 then some true
 else Z.bind (yWm (d0.2.1.1,())) fun (x5 : (List (List (List (Int))))×(Unit)) =>
 Z.bind (zKh d0.2.2) fun (x6 : List TSe) =>
 Z.bind (zJv ((pCf d0.1),((x5.1,()),x6))) fun (x7 : ((List (List (Int)))×((List (List (MixE (Int))))×(List (List (MixE (MixE (Int)))))))×(((MixE (MixE (MixE (Int))))×(Unit))×(Int))) =>
 Z.bind (zJn ((pCf d0.1),((d0.2.1.1,()),d0.2.2))) fun (x8 : ((List (List (List (Int))))×(Unit))×(Int)) =>
 Z.join (σ:=Bool) (fun k9 =>
 if (Z.XOk x7.1.2.2 x7.2.1.1) then Z.bind (Z.mapO (fun (e12 : MixE (MixE (Int))) =>
 if (Z.XOk x7.1.2.1 e12) then Z.bind (Z.mapO (fun (e15 : MixE (Int)) =>
 if (Z.XOk x7.1.1 e15) then Z.bnd (Z.xget x7.1.1 e15) fun (x18 : List (Int)) =>
 some x18
 else none) (Z.xget x7.1.2.1 e12)) fun (x19 : List (List (Int))) =>
 some x19
 else none) (Z.xget x7.1.2.2 x7.2.1.1)) fun (x20 : List (List (List (Int)))) =>
 Z.bind (zK2 ((x20,()),(x8.1.1,()))) fun (x21 : Bool) =>
 (bif x21 then k9 (Z.zQx true (Z.ieq x7.2.2 x8.2) false)
 else k9 false)
 else none) fun (j22 : Bool) =>
 Z.loop (fun (s23 : (Int)×(List (List (Int)))) k24 =>
 (bif (Z.ilt s23.1 (Z.ofN (Z.xlen x7.2.1.1))) then Z.loop (fun (s25 : (Int)×(List (List (Int)))) k26 =>
 if (Z.Ix s23.1 (Z.xlen x7.2.1.1)) then if (Z.XPt x7.1.2.2 x7.2.1.1 (Z.toN s23.1)) then if (Z.XPt x7.1.2.2 x7.2.1.1 (Z.toN s23.1)) then Z.bnd (Z.xat x7.1.2.2 x7.2.1.1 (Z.toN s23.1) (MixE.nil : MixE (MixE (Int)))) fun (x33 : MixE (MixE (Int))) =>
 (bif (Z.ilt s25.1 (Z.ofN (Z.xlen x33))) then Z.loop (fun (s34 : (Int)×(List (List (Int)))) k35 =>
 if (Z.Ix s23.1 (Z.xlen x7.2.1.1)) then if (Z.XPt x7.1.2.2 x7.2.1.1 (Z.toN s23.1)) then if (Z.XPt x7.1.2.2 x7.2.1.1 (Z.toN s23.1)) then Z.bnd (Z.xat x7.1.2.2 x7.2.1.1 (Z.toN s23.1) (MixE.nil : MixE (MixE (Int)))) fun (x42 : MixE (MixE (Int))) =>
 if (Z.Ix s25.1 (Z.xlen x42)) then if (Z.XPt x7.1.2.1 x42 (Z.toN s25.1)) then if (Z.XPt x7.1.2.1 x42 (Z.toN s25.1)) then Z.bnd (Z.xat x7.1.2.1 x42 (Z.toN s25.1) (MixE.nil : MixE (Int))) fun (x49 : MixE (Int)) =>
 (bif (Z.ilt s34.1 (Z.ofN (Z.xlen x49))) then if (Z.Ix s23.1 (Z.xlen x7.2.1.1)) then if (Z.XPt x7.1.2.2 x7.2.1.1 (Z.toN s23.1)) then if (Z.XPt x7.1.2.2 x7.2.1.1 (Z.toN s23.1)) then Z.bnd (Z.xat x7.1.2.2 x7.2.1.1 (Z.toN s23.1) (MixE.nil : MixE (MixE (Int)))) fun (x56 : MixE (MixE (Int))) =>
 if (Z.Ix s25.1 (Z.xlen x56)) then if (Z.XPt x7.1.2.1 x56 (Z.toN s25.1)) then if (Z.XPt x7.1.2.1 x56 (Z.toN s25.1)) then Z.bnd (Z.xat x7.1.2.1 x56 (Z.toN s25.1) (MixE.nil : MixE (Int))) fun (x63 : MixE (Int)) =>
 if (Z.Ix s23.1 (Z.xlen x7.2.1.1)) then if (Z.XPt x7.1.2.2 x7.2.1.1 (Z.toN s23.1)) then if (Z.XPt x7.1.2.2 x7.2.1.1 (Z.toN s23.1)) then Z.bnd (Z.xat x7.1.2.2 x7.2.1.1 (Z.toN s23.1) (MixE.nil : MixE (MixE (Int)))) fun (x70 : MixE (MixE (Int))) =>
 if (Z.Ix s25.1 (Z.xlen x70)) then if (Z.XPt x7.1.2.1 x70 (Z.toN s25.1)) then if (Z.XPt x7.1.2.1 x70 (Z.toN s25.1)) then Z.bnd (Z.xat x7.1.2.1 x70 (Z.toN s25.1) (MixE.nil : MixE (Int))) fun (x77 : MixE (Int)) =>
 if (Z.Ix s34.1 (Z.xlen x77)) then if (Z.XPt s34.2 x77 (Z.toN s34.1)) then if (Z.XPt s34.2 x77 (Z.toN s34.1)) then Z.bnd (Z.xat s34.2 x77 (Z.toN s34.1) 0) fun (x84 : Int) =>
 Z.bnd (Z.wrap .u8 (Z.add x84 1)) fun (x85 : Int) =>
 if (Z.Ix s34.1 (Z.xlen x63)) then if (Z.XPt s34.2 x63 (Z.toN s34.1)) then if (Z.XPt s34.2 x63 (Z.toN s34.1)) then Z.bnd (Z.xset s34.2 x63 (Z.toN s34.1) x85) fun (x92 : List (List (Int))) =>
 Z.bnd (Z.wrap .i64 (Z.add s34.1 1)) fun (x93 : Int) =>
 k35 (x93,x92)
 else none
 else none
 else none
 else none
 else none
 else none
 else none
 else none
 else none
 else none
 else none
 else none
 else none
 else none
 else none
 else none
 else none
 else none
 else Z.bnd (Z.wrap .i64 (Z.add s25.1 1)) fun (x94 : Int) =>
 k26 (x94,s34.2))
 else none
 else none
 else none
 else none
 else none
 else none) (0,s25.2)
 else Z.bnd (Z.wrap .i64 (Z.add s23.1 1)) fun (x95 : Int) =>
 k24 (x95,s25.2))
 else none
 else none
 else none) (0,s23.2)
 else Z.join (σ:=Bool) (fun k96 =>
 (bif j22 then Z.bind (zK2 ((x5.1,()),(d0.2.1.1,()))) fun (x97 : Bool) =>
 (bif (Z.zQx true x97 false) then Z.bind (zZe (x6,d0.2.2)) fun (x98 : Bool) =>
 k96 (Z.zQx true x98 false)
 else k96 false)
 else k96 false)) fun (j99 : Bool) =>
 some j99)) (0,x7.1.1))
def zWt : PFn:={ args:=[(.pair (.int .i64) (.pair (.int .i64) (.pair (.int .i64) (.pair (.int .i64) (.pair (.int .i64) (.pair (.int .i64) (.pair (.int .i64) (.pair (.int .i64) (.pair (.int .i64) .unit))))))))),(.pair (.list (.list (.list (.int .u8)))) .unit),(.list (.pair (.int .u8) (.pair (.int .i64) (.pair (.int .i64) (.pair (.list (.int .u8)) .unit)))))],res:=[.bool],fn:=zZi }
def sp6_17 : List LSpec×List Nat:=([{ id:=5017000,known:=false,toks:=[],items:=[],junk:=[2],tails:=[] },{ id:=5017001,known:=false,toks:=[],items:=[.slot 3 (.val (.int .i64))],junk:=[],tails:=[] },{ id:=5017002,known:=false,toks:=[],items:=[.slot 4 (.val (.int .i64))],junk:=[],tails:=[] },{ id:=1700,known:=false,toks:=[],items:=[],junk:=[],tails:=[] },{ id:=5017003,known:=true,toks:=[],items:=[.slot 14 (.val .bool)],junk:=[6,7,8,9,10,11,12,13],tails:=[] },{ id:=5017004,known:=false,toks:=[],items:=[],junk:=[],tails:=[] },{ id:=5017005,known:=false,toks:=[],items:=[.slot 5 (.val (.int .i64))],junk:=[],tails:=[] },{ id:=1701,known:=false,toks:=[],items:=[],junk:=[],tails:=[] },{ id:=5017006,known:=true,toks:=[],items:=[.slot 28 (.val .bool)],junk:=[17,18,19,20,21,22,23,24,25,26,27],tails:=[] },{ id:=5017007,known:=false,toks:=[],items:=[],junk:=[],tails:=[] },{ id:=5017008,known:=false,toks:=[],items:=[.slot 3 (.val (.int .i64))],junk:=[31,32,33,34,35,36,37,38,39,40,41,42],tails:=[] },{ id:=5017009,known:=false,toks:=[],items:=[.slot 5 (.val (.int .i64))],junk:=[29,30],tails:=[] },{ id:=5017010,known:=false,toks:=[],items:=[.slot 49 (.val .bool)],junk:=[43,44,45,46,47,48],tails:=[] },{ id:=5017011,known:=false,toks:=[],items:=[],junk:=[2],tails:=[] },{ id:=5017012,known:=false,toks:=[],items:=[.slot 2 (.val .bool)],junk:=[],tails:=[] },{ id:=5017013,known:=false,toks:=[],items:=[.slot 4 (.val (.int .i64))],junk:=[15,16],tails:=[] },{ id:=5017014,known:=true,toks:=[],items:=[.slot 2 (.val .bool)],junk:=[50,51,52,53,54,55,56,57],tails:=[] }],[])
def sp6_31 : List LSpec×List Nat:=([{ id:=5031000,known:=false,toks:=[],items:=[],junk:=[2],tails:=[] },{ id:=5031001,known:=false,toks:=[],items:=[.slot 3 (.val (.int .i64))],junk:=[],tails:=[] },{ id:=5031002,known:=false,toks:=[],items:=[.slot 4 (.val (.int .i64))],junk:=[],tails:=[] },{ id:=3100,known:=false,toks:=[],items:=[],junk:=[],tails:=[] },{ id:=5031003,known:=true,toks:=[],items:=[.slot 12 (.val .bool)],junk:=[5,6,7,8,9,10,11],tails:=[] },{ id:=5031004,known:=false,toks:=[],items:=[],junk:=[],tails:=[] },{ id:=5031005,known:=false,toks:=[],items:=[.slot 3 (.val (.int .i64))],junk:=[15,16,17,18,19,20,21,22,23],tails:=[] },{ id:=5031006,known:=false,toks:=[],items:=[.slot 4 (.val (.int .i64))],junk:=[13,14],tails:=[] },{ id:=5031007,known:=true,toks:=[],items:=[.slot 2 (.val .bool)],junk:=[24,25,26,27,28,29,30],tails:=[] }],[])
def sp6_32 : List LSpec×List Nat:=([{ id:=3200,known:=false,toks:=[],items:=[],junk:=[],tails:=[] }],[6000000006])
def sp6_77 : List LSpec×List Nat:=([{ id:=5077000,known:=false,toks:=[],items:=[],junk:=[2],tails:=[] },{ id:=5077001,known:=true,toks:=[],items:=[.slot 2 (.val .bool)],junk:=[3,4,5,6,7,8,9,10,11,12,13,14],tails:=[] }],[])
def sp6_71 : List LSpec×List Nat:=([{ id:=5071000,known:=false,toks:=[],items:=[],junk:=[2],tails:=[] },{ id:=5071001,known:=true,toks:=[],items:=[.slot 8 (.val .bool)],junk:=[3,4,5,6,7],tails:=[] },{ id:=5071002,known:=false,toks:=[],items:=[],junk:=[2],tails:=[] },{ id:=5071003,known:=false,toks:=[],items:=[.slot 2 (.val (.int .i64))],junk:=[],tails:=[] },{ id:=5071004,known:=false,toks:=[],items:=[.slot 2 (.val (.int .i64))],junk:=[],tails:=[] }],[])
def sp6_81 : List LSpec×List Nat:=([{ id:=5081000,known:=false,toks:=[],items:=[],junk:=[2],tails:=[] },{ id:=5081001,known:=false,toks:=[],items:=[.slot 3 (.val (.int .i64))],junk:=[],tails:=[] },{ id:=8100,known:=false,toks:=[],items:=[],junk:=[],tails:=[] },{ id:=5081002,known:=false,toks:=[],items:=[.slot 4 (.val (.int .i64)), .slot 5 (.val (.int .i64))],junk:=[9,10,8,11,12],tails:=[] },{ id:=5081003,known:=true,toks:=[],items:=[.slot 19 (.val .bool)],junk:=[13,14,15,16,17,18],tails:=[] },{ id:=5081004,known:=false,toks:=[],items:=[],junk:=[20,2],tails:=[] },{ id:=5081005,known:=false,toks:=[],items:=[.slot 2 (.val (.int .i64))],junk:=[20],tails:=[] },{ id:=5081006,known:=false,toks:=[],items:=[.slot 3 (.val (.int .i64))],junk:=[6,7],tails:=[] }],[])
def sp6_78 : List LSpec×List Nat:=([{ id:=5078000,known:=false,toks:=[],items:=[],junk:=[4,5,6,7,8,9],tails:=[] },{ id:=7800,known:=false,toks:=[],items:=[],junk:=[],tails:=[] },{ id:=5078001,known:=true,toks:=[],items:=[.slot 18 (.val .bool)],junk:=[10,11,12,13,14,15,16,17],tails:=[] },{ id:=5078002,known:=false,toks:=[],items:=[],junk:=[],tails:=[] },{ id:=5078003,known:=false,toks:=[],items:=[],junk:=[19,20,21,22,23,24,25,26,27,28,29,30,31,32],tails:=[] }],[])
def sp6_64 : List LSpec×List Nat:=([{ id:=5064000,known:=false,toks:=[],items:=[],junk:=[6],tails:=[] },{ id:=5064001,known:=true,toks:=[],items:=[.slot 6 (.val .bool)],junk:=[7,8,9,10,11,12,13,14,15,16,17,18],tails:=[] }],[])
def sp6_38 : List LSpec×List Nat:=([{ id:=5038000,known:=false,toks:=[],items:=[],junk:=[6],tails:=[] },{ id:=5038001,known:=true,toks:=[],items:=[.slot 15 (.val .bool)],junk:=[7,8,9,10,11,12,13,14],tails:=[] },{ id:=5038002,known:=false,toks:=[],items:=[],junk:=[6],tails:=[] },{ id:=5038003,known:=false,toks:=[],items:=[.slot 6 (.val .bool)],junk:=[],tails:=[] },{ id:=5038004,known:=false,toks:=[],items:=[.slot 6 (.val .bool)],junk:=[16,17,18,19],tails:=[] }],[])
def sp6_43 : List LSpec×List Nat:=([{ id:=5043000,known:=false,toks:=[],items:=[],junk:=[4],tails:=[] },{ id:=5043001,known:=true,toks:=[],items:=[.slot 22 (.val .bool)],junk:=[5,6,7,8,9,10,11,12,13,14,15,16,17,18,19,20,21],tails:=[] },{ id:=5043002,known:=false,toks:=[],items:=[],junk:=[4],tails:=[] },{ id:=5043003,known:=false,toks:=[],items:=[.slot 4 (.val .bool)],junk:=[],tails:=[] },{ id:=5043004,known:=false,toks:=[],items:=[.slot 4 (.val .bool)],junk:=[23,24,25,26,27,28,29,30,31,32,33,34,35,36,37,38],tails:=[] }],[])
def sp6_68 : List LSpec×List Nat:=([{ id:=5068000,known:=false,toks:=[],items:=[],junk:=[4],tails:=[] },{ id:=5068001,known:=false,toks:=[],items:=[.slot 6 (.val .bool)],junk:=[5],tails:=[] },{ id:=5068002,known:=true,toks:=[],items:=[],junk:=[7],tails:=[] },{ id:=5068003,known:=false,toks:=[],items:=[],junk:=[7],tails:=[] },{ id:=5068004,known:=false,toks:=[],items:=[.slot 1 (.val (.int .i64))],junk:=[8,9,10,11,12,13,14],tails:=[] },{ id:=5068005,known:=false,toks:=[],items:=[.slot 16 (.val .bool)],junk:=[15],tails:=[] },{ id:=5068006,known:=false,toks:=[],items:=[],junk:=[17,18,19,20,21,22,23,24,25],tails:=[] },{ id:=5068007,known:=false,toks:=[],items:=[],junk:=[17,18,19,20,21,22,23,24,25],tails:=[] },{ id:=5068008,known:=false,toks:=[],items:=[],junk:=[26],tails:=[] }],[5])
def sp6_53 : List LSpec×List Nat:=([{ id:=5053000,known:=false,toks:=[],items:=[],junk:=[2],tails:=[] },{ id:=5053001,known:=false,toks:=[],items:=[.slot 3 (.val (.int .i64))],junk:=[],tails:=[] },{ id:=5053002,known:=false,toks:=[],items:=[.slot 10 (.val (.int .i64)), .slot 11 (.val (.int .i64))],junk:=[],tails:=[] },{ id:=5300,known:=false,toks:=[],items:=[],junk:=[],tails:=[] },{ id:=5053003,known:=false,toks:=[],items:=[],junk:=[],tails:=[] },{ id:=5053004,known:=false,toks:=[],items:=[],junk:=[],tails:=[] },{ id:=5053005,known:=false,toks:=[],items:=[],junk:=[13,14],tails:=[] },{ id:=5053006,known:=false,toks:=[],items:=[.slot 3 (.val (.int .i64))],junk:=[15,16,17,18],tails:=[] },{ id:=5053007,known:=false,toks:=[],items:=[.slot 20 (.val .bool)],junk:=[19],tails:=[] },{ id:=5053008,known:=true,toks:=[],items:=[],junk:=[21],tails:=[] },{ id:=5053009,known:=false,toks:=[],items:=[],junk:=[21],tails:=[] },{ id:=5053010,known:=false,toks:=[],items:=[.slot 11 (.val (.int .i64))],junk:=[22],tails:=[] },{ id:=5053011,known:=false,toks:=[],items:=[],junk:=[23,24],tails:=[] },{ id:=5053012,known:=false,toks:=[],items:=[.slot 26 (.val (.int .i64)), .slot 27 (.val (.int .i64))],junk:=[],tails:=[] },{ id:=5301,known:=false,toks:=[],items:=[],junk:=[],tails:=[] },{ id:=5053013,known:=false,toks:=[],items:=[],junk:=[],tails:=[] },{ id:=5053014,known:=false,toks:=[],items:=[],junk:=[],tails:=[] },{ id:=5053015,known:=false,toks:=[],items:=[],junk:=[29,30],tails:=[] },{ id:=5053016,known:=false,toks:=[],items:=[],junk:=[31,32,33],tails:=[] },{ id:=5053017,known:=false,toks:=[],items:=[.slot 27 (.val (.int .i64))],junk:=[34],tails:=[] },{ id:=5053018,known:=false,toks:=[],items:=[],junk:=[35],tails:=[] }],[])
def sp6_28 : List LSpec×List Nat:=([{ id:=2800,known:=true,toks:=[(9000000,(.int .u8)),(9000000,(.mix 900000001 (.int .u8))),(7005000,(.mix 900000001 (.mix 900000002 (.int .u8))))],items:=[.slot 18 (.val (.int .i64)), .cells 1000004 [.val (.mix 2005000 (.mix 12005000 (.mix 22005000 (.int .u8))))], .rows 2005000 (.mix 12005000 (.mix 22005000 (.int .u8))), .rows 22005000 (.int .u8), .rows 12005000 (.mix 22005000 (.int .u8))],junk:=[19,20,21,22,5,6,23,24,25,26,27,28,29,30,31,32,33,34,35],tails:=[] }],[4000000001])
def sp6_14 : List LSpec×List Nat:=([{ id:=5014000,known:=false,toks:=[],items:=[],junk:=[7],tails:=[] },{ id:=5014001,known:=false,toks:=[],items:=[.slot 8 (.val (.int .i64))],junk:=[14,15,16],tails:=[] },{ id:=5014002,known:=false,toks:=[],items:=[.slot 18 (.val .bool)],junk:=[17],tails:=[] },{ id:=5014003,known:=false,toks:=[],items:=[],junk:=[19,20,7],tails:=[] },{ id:=5014004,known:=false,toks:=[],items:=[.slot 7 (.val (.int .i64))],junk:=[19,20],tails:=[] },{ id:=5014005,known:=false,toks:=[],items:=[.slot 22 (.val (.int .i64)), .slot 23 (.val (.int .i64))],junk:=[],tails:=[] },{ id:=1400,known:=false,toks:=[],items:=[],junk:=[],tails:=[] },{ id:=5014006,known:=false,toks:=[],items:=[],junk:=[],tails:=[] },{ id:=5014007,known:=false,toks:=[],items:=[],junk:=[],tails:=[] },{ id:=5014008,known:=false,toks:=[],items:=[],junk:=[25,26],tails:=[] },{ id:=5014009,known:=false,toks:=[],items:=[.slot 30 (.val .bool)],junk:=[27,28,29],tails:=[] },{ id:=5014010,known:=false,toks:=[],items:=[],junk:=[31,7],tails:=[] },{ id:=5014011,known:=false,toks:=[],items:=[.slot 7 (.val (.int .i64))],junk:=[31],tails:=[] },{ id:=5014012,known:=false,toks:=[],items:=[.slot 23 (.val (.int .i64))],junk:=[32],tails:=[] },{ id:=5014013,known:=false,toks:=[],items:=[],junk:=[33,34],tails:=[] },{ id:=5014014,known:=false,toks:=[],items:=[.slot 36 (.val (.int .i64)), .slot 37 (.val (.int .i64))],junk:=[],tails:=[] },{ id:=1401,known:=false,toks:=[],items:=[],junk:=[],tails:=[] },{ id:=5014015,known:=false,toks:=[],items:=[],junk:=[],tails:=[] },{ id:=5014016,known:=false,toks:=[],items:=[],junk:=[],tails:=[] },{ id:=5014017,known:=false,toks:=[],items:=[],junk:=[39,40],tails:=[] },{ id:=5014018,known:=false,toks:=[],items:=[.slot 43 (.val .bool)],junk:=[41,42],tails:=[] },{ id:=5014019,known:=true,toks:=[],items:=[],junk:=[44,45,46,47,48,49,50,51],tails:=[] },{ id:=5014020,known:=false,toks:=[],items:=[],junk:=[44,45,46,47,48,49,50,51],tails:=[] },{ id:=5014021,known:=false,toks:=[],items:=[.slot 37 (.val (.int .i64))],junk:=[52],tails:=[] },{ id:=5014022,known:=false,toks:=[],items:=[.slot 7 (.val (.int .i64))],junk:=[53],tails:=[] }],[])
def sp6_75 : List LSpec×List Nat:=([{ id:=5075000,known:=false,toks:=[],items:=[],junk:=[6],tails:=[] },{ id:=5075001,known:=true,toks:=[],items:=[.slot 6 (.val .bool)],junk:=[7,8,9,10,11,12,13,14],tails:=[] }],[])
def sp6_67 : List LSpec×List Nat:=([{ id:=5067000,known:=false,toks:=[],items:=[],junk:=[2],tails:=[] },{ id:=5067001,known:=true,toks:=[],items:=[.slot 2 (.val .bool)],junk:=[3,4,5,6,7,8,9,10,11,12,13,14,15,16,17,18,19,20,21,22,23,24,25,26,27,28,29,30,31,32,33,34,35,36,37,38,39,40,41,42,43,44,45],tails:=[] }],[])
def sp6_50 : List LSpec×List Nat:=([{ id:=5050000,known:=false,toks:=[],items:=[],junk:=[2],tails:=[] },{ id:=5050001,known:=true,toks:=[],items:=[.slot 2 (.val .bool)],junk:=[3,4,5,6,7,8,9,10],tails:=[] }],[])
def sp6_47 : List LSpec×List Nat:=([{ id:=5047000,known:=false,toks:=[],items:=[],junk:=[6],tails:=[] },{ id:=5047001,known:=true,toks:=[],items:=[.slot 16 (.val .bool)],junk:=[8,9,10,11,12,13,14,15],tails:=[] },{ id:=5047002,known:=false,toks:=[],items:=[],junk:=[6],tails:=[] },{ id:=5047003,known:=false,toks:=[],items:=[.slot 6 (.val .bool)],junk:=[],tails:=[] },{ id:=5047004,known:=false,toks:=[],items:=[.slot 7 (.val (.int .i64))],junk:=[],tails:=[] },{ id:=4700,known:=false,toks:=[],items:=[],junk:=[],tails:=[] },{ id:=5047005,known:=false,toks:=[],items:=[.slot 20 (.val .bool)],junk:=[17,18,19],tails:=[] },{ id:=5047006,known:=false,toks:=[],items:=[],junk:=[],tails:=[] },{ id:=5047007,known:=true,toks:=[],items:=[.slot 40 (.val .bool)],junk:=[23,24,25,26,27,28,29,30,31,32,33,34,35,36,37,38,39],tails:=[] },{ id:=5047008,known:=false,toks:=[],items:=[],junk:=[6],tails:=[] },{ id:=5047009,known:=false,toks:=[],items:=[.slot 6 (.val .bool)],junk:=[],tails:=[] },{ id:=5047010,known:=false,toks:=[],items:=[.slot 7 (.val (.int .i64))],junk:=[21,22],tails:=[] },{ id:=5047011,known:=false,toks:=[],items:=[.slot 6 (.val .bool)],junk:=[],tails:=[] }],[])
def sp6_58 : List LSpec×List Nat:=([{ id:=5058000,known:=false,toks:=[],items:=[],junk:=[4],tails:=[] },{ id:=5058001,known:=true,toks:=[],items:=[.slot 4 (.val .bool)],junk:=[5,6,7,8,9,10,11,12,13,14,15,16,17,18,19,20,21,22,23,24,25,26,27,28,29,30,31,32,33,34,35,36],tails:=[] }],[])
def sp6_59 : List LSpec×List Nat:=([{ id:=5059000,known:=false,toks:=[],items:=[],junk:=[],tails:=[] },{ id:=5059001,known:=false,toks:=[],items:=[],junk:=[7,8],tails:=[] },{ id:=5059002,known:=false,toks:=[],items:=[.slot 6 (.val (.int .i64))],junk:=[],tails:=[] },{ id:=5900,known:=false,toks:=[],items:=[],junk:=[],tails:=[] },{ id:=5059003,known:=false,toks:=[],items:=[.slot 12 (.val .bool)],junk:=[9,10,11],tails:=[] },{ id:=5059004,known:=false,toks:=[],items:=[],junk:=[],tails:=[] },{ id:=5059005,known:=false,toks:=[],items:=[.slot 20 (.val .bool)],junk:=[15,16,17,18,19],tails:=[] },{ id:=5059006,known:=true,toks:=[],items:=[],junk:=[21,22,23,24,25,26,27,28,29,30,31,32,33,34,35,36,37,38,39,40,41,42,43],tails:=[] },{ id:=5059007,known:=false,toks:=[],items:=[],junk:=[21,22,23,24,25,26,27,28,29,30,31,32,33,34,35,36,37,38,39,40,41,42,43],tails:=[] },{ id:=5059008,known:=false,toks:=[],items:=[.slot 6 (.val (.int .i64))],junk:=[13,14],tails:=[] },{ id:=5059009,known:=false,toks:=[],items:=[],junk:=[44],tails:=[] }],[6000000006])
def sp6_26 : List LSpec×List Nat:=([{ id:=2600,known:=true,toks:=[],items:=[.slot 2 (.val (.int .i64)), .rows 23001000 (.int .u8)],junk:=[5,6,7,8,9,3,12,13,14,15,16,17,18,19,4,22,23,24,25,26,27,28,29,30,31,32,35,36,37,38,39,40,41,42,43,44,45,46,47,48,49,50,51,52,53,54,55,56,33,34,20,21,10,11],tails:=[] },{ id:=2601,known:=true,toks:=[],items:=[.slot 3 (.val (.int .i64)), .rows 21000007 (.int .u8)],junk:=[12,13,14,15,16,17,18,19,4,22,23,24,25,26,27,28,29,30,31,32,35,36,37,38,39,40,41,42,43,44,45,46,47,48,49,50,51,52,53,54,55,56,33,34,20,21],tails:=[] },{ id:=2602,known:=true,toks:=[],items:=[.slot 4 (.val (.int .i64)), .rows 21000007 (.int .u8)],junk:=[22,23,24,25,26,27,28,29,30,31,32,35,36,37,38,39,40,41,42,43,44,45,46,47,48,49,50,51,52,53,54,55,56,33,34],tails:=[] }],[])
def sp6_24 : List LSpec×List Nat:=([{ id:=5024000,known:=false,toks:=[],items:=[],junk:=[4],tails:=[] },{ id:=5024001,known:=false,toks:=[],items:=[.slot 10 (.val .bool)],junk:=[6,7,8,9],tails:=[] },{ id:=5024002,known:=false,toks:=[],items:=[],junk:=[4],tails:=[] },{ id:=5024003,known:=false,toks:=[],items:=[.slot 4 (.val .bool)],junk:=[],tails:=[] },{ id:=5024004,known:=false,toks:=[],items:=[.slot 5 (.val (.int .i64))],junk:=[],tails:=[] },{ id:=2400,known:=false,toks:=[],items:=[],junk:=[],tails:=[] },{ id:=5024005,known:=false,toks:=[],items:=[.slot 14 (.val .bool)],junk:=[11,12,13],tails:=[] },{ id:=5024006,known:=false,toks:=[],items:=[],junk:=[],tails:=[] },{ id:=5024007,known:=true,toks:=[],items:=[.slot 67 (.val .bool)],junk:=[17,18,19,20,21,22,23,24,25,26,27,28,29,30,31,32,33,34,35,36,37,38,39,40,41,42,43,44,45,46,47,48,49,50,51,52,53,54,55,56,57,58,59,60,61,62,63,64,65,66],tails:=[] },{ id:=5024008,known:=false,toks:=[],items:=[],junk:=[4],tails:=[] },{ id:=5024009,known:=false,toks:=[],items:=[.slot 4 (.val .bool)],junk:=[],tails:=[] },{ id:=5024010,known:=false,toks:=[],items:=[.slot 5 (.val (.int .i64))],junk:=[15,16],tails:=[] },{ id:=5024011,known:=false,toks:=[],items:=[.slot 4 (.val .bool)],junk:=[],tails:=[] }],[])
def sp6_6 : List LSpec×List Nat:=([{ id:=5006000,known:=false,toks:=[],items:=[],junk:=[6],tails:=[] },{ id:=5006001,known:=true,toks:=[],items:=[.slot 19 (.val .bool)],junk:=[14,15,16,17,18],tails:=[] },{ id:=5006002,known:=false,toks:=[],items:=[],junk:=[6],tails:=[] },{ id:=5006003,known:=false,toks:=[],items:=[.slot 6 (.val .bool)],junk:=[],tails:=[] },{ id:=5006004,known:=false,toks:=[],items:=[],junk:=[20,21,22,23],tails:=[] },{ id:=5006005,known:=false,toks:=[],items:=[.slot 10 (.val (.int .i64))],junk:=[25,26,27,28,24,29,30],tails:=[] },{ id:=5006006,known:=false,toks:=[],items:=[.slot 12 (.val (.int .i64))],junk:=[32,33,34,35,31,36,37],tails:=[] },{ id:=5006007,known:=true,toks:=[],items:=[.slot 13 (.val .bool)],junk:=[38,39,40,41,42,43,44,45],tails:=[] },{ id:=5006008,known:=false,toks:=[],items:=[],junk:=[46,47],tails:=[] },{ id:=5006009,known:=true,toks:=[],items:=[.slot 6 (.val .bool)],junk:=[48,49,50,51,52,53,54,55,56,57,58],tails:=[] }],[])
def spt6 : Tab (List LSpec×List Nat):=(.node (.node (.node (.node (.node (.node .leaf (some sp6_31) .leaf) none (.node .leaf (some sp6_47) .leaf)) none (.node (.node (.node .leaf (some sp6_71) .leaf) none .leaf) none .leaf)) none (.node (.node (.node (.node .leaf (some sp6_67) .leaf) none .leaf) none .leaf) none (.node (.node (.node .leaf (some sp6_75) .leaf) (some sp6_43) .leaf) none (.node .leaf (some sp6_59) .leaf)))) none (.node (.node (.node .leaf (some sp6_17) (.node (.node .leaf (some sp6_81) .leaf) none .leaf)) none .leaf) none (.node (.node .leaf none (.node .leaf (some sp6_53) .leaf)) none (.node (.node (.node .leaf (some sp6_77) .leaf) none .leaf) none .leaf)))) none (.node (.node (.node (.node (.node (.node .leaf (some sp6_64) .leaf) (some sp6_32) .leaf) none .leaf) none (.node .leaf (some sp6_24) .leaf)) none (.node (.node (.node (.node .leaf (some sp6_68) .leaf) none .leaf) none .leaf) none (.node .leaf (some sp6_28) .leaf))) none (.node (.node (.node .leaf none (.node .leaf (some sp6_50) .leaf)) none (.node .leaf (some sp6_26) (.node .leaf (some sp6_58) .leaf))) (some sp6_6) (.node (.node (.node .leaf (some sp6_38) .leaf) none .leaf) (some sp6_14) (.node (.node (.node .leaf (some sp6_78) .leaf) none .leaf) none .leaf)))))
def spf6 (f : Nat) : List LSpec×List Nat:=(spt6.get f).getD ([],[])
theorem yXq : zW4 Try.prog cfg 6 zWt:=fnDr spf6 [] (l:=[(17,yZm),(31,zJ9),(19,yJf),(32,yQb),(33,yXc),(25,yJg),(24,yQc)]) (lo:=[]) (lr:=[(14,yXa)]) zXn zQ2 (.cons xWt (.cons yZh (.cons xZ1 (.cons yKl (.cons yY4 (.cons xZ2 (.cons yKm .nil))))))) .nil (.cons yY0 .nil) (fun d=>by kernel_rfl)
end
end Go.Proofs.Ytnbmjkbbppcbcaa
