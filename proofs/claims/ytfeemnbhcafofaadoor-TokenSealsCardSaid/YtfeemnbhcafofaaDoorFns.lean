/- The functions of the program, as functions on plain data. -/
import Derived.Test.YtfeemnbhcafofaaDoorCfg
import Derived.Test.YtfeemnbhcafofaaDoorM6
import Derived.ProofKit
import Derived.Test.YtfeemnbhcafofaaDoorConfS
namespace Go.Proofs.YtfeemnbhcafofaaDoor
open Go.Eng
noncomputable section
set_option linter.unusedVariables false
set_option maxRecDepth 100000
abbrev LBk : Type:=Int×Int×List Int×Unit
def uk (i : Nat) : LSpec:={ id:=i,known:=false,toks:=[],items:=[],junk:=[],tails:=[] }
@[reducible] def n32 (x : List Int) : List Int:=[Z.get x 0 0,Z.get x 1 0,Z.get x 2 0,Z.get x 3 0,Z.get x 4 0,Z.get x 5 0,Z.get x 6 0,Z.get x 7 0,Z.get x 8 0,Z.get x 9 0,Z.get x 10 0,Z.get x 11 0,Z.get x 12 0,Z.get x 13 0,Z.get x 14 0,Z.get x 15 0,Z.get x 16 0,Z.get x 17 0,Z.get x 18 0,Z.get x 19 0,Z.get x 20 0,Z.get x 21 0,Z.get x 22 0,Z.get x 23 0,Z.get x 24 0,Z.get x 25 0,Z.get x 26 0,Z.get x 27 0,Z.get x 28 0,Z.get x 29 0,Z.get x 30 0,Z.get x 31 0]
@[reducible] def z32n : List Int:=[0,0,0,0,0,0,0,0,0,0,0,0,0,0,0,0,0,0,0,0,0,0,0,0,0,0,0,0,0,0,0,0]
abbrev TCf : Type:=Int×(Int×(Int×(Int×(Int×(Int×(Int×(Int×(Int×Unit))))))))
abbrev TLv : Type:=Int×(Int×(Int×(Int×Unit)))
@[reducible] def cCf : C:=(.pair (.int .i64) (.pair (.int .i64) (.pair (.int .i64) (.pair (.int .i64) (.pair (.int .i64) (.pair (.int .i64) (.pair (.int .i64) (.pair (.int .i64) (.pair (.int .i64) .unit)))))))))
@[reducible] def cLv : C:=(.pair (.int .i64) (.pair (.int .i64) (.pair (.int .i64) (.pair (.int .i64) .unit))))
@[reducible] def cBk : C:=(.pair (.int .i64) (.pair (.int .i64) (.pair (.list (.int .u8)) .unit)))
@[reducible] def pCf (c : TCf) : TCf:=(c.1,(c.2.1,(c.2.2.1,(c.2.2.2.1,(c.2.2.2.2.1,(c.2.2.2.2.2.1,(c.2.2.2.2.2.2.1,(c.2.2.2.2.2.2.2.1,(c.2.2.2.2.2.2.2.2.1,())))))))))
@[reducible] def pLv {A B D F : Type} (c : A×(B×(D×(F×Unit)))) : A×(B×(D×(F×Unit))):=(c.1,(c.2.1,(c.2.2.1,(c.2.2.2.1,()))))
@[reducible] def zLv : TLv:=(0,(0,(0,(0,()))))
def sp0 (f : Nat) : List LSpec×List Nat:=([],[])
def zKf (d0 : (List (List (List Int)))×Unit) : Option Bool :=
 Z.loop (fun (s1 : Int×Int) k2 =>
 (bif (Z.ilt s1.2 (Z.ofN (Z.len d0.1))) then (bif (Z.zQr true (Z.ilt s1.2 10) false) then Z.loop (fun (s3 : Int×Int) k4 =>
 if (Z.Ix s1.2 (Z.len d0.1)) then Z.bnd (Z.get d0.1 (Z.toN s1.2) ([] : List (List Int))) fun x7 =>
 (bif (Z.ilt s3.2 (Z.ofN (Z.len x7))) then (bif (Z.zQr true (Z.ilt s3.2 200) false) then if (Z.Ix s1.2 (Z.len d0.1)) then Z.bnd (Z.get d0.1 (Z.toN s1.2) ([] : List (List Int))) fun x10 =>
 if (Z.Ix s3.2 (Z.len x10)) then Z.bnd (Z.get x10 (Z.toN s3.2) ([] : List Int)) fun x13 =>
 Z.bnd (Z.wrap .i64 (Z.add s3.1 (Z.imax false (Z.ofN (Z.len x13)) 100000))) fun x14 =>
 Z.bnd (Z.wrap .i64 (Z.add s3.2 1)) fun x15 =>
 k4 (x14,x15)
 else none
 else none
 else if (Z.Ix s1.2 (Z.len d0.1)) then Z.bnd (Z.get d0.1 (Z.toN s1.2) ([] : List (List Int))) fun x18 =>
 (bif (Z.igt (Z.ofN (Z.len x18)) 150) then some true
 else Z.bnd (Z.wrap .i64 (Z.add s1.2 1)) fun x19 =>
 k2 (s3.1,x19))
 else none)
 else if (Z.Ix s1.2 (Z.len d0.1)) then Z.bnd (Z.get d0.1 (Z.toN s1.2) ([] : List (List Int))) fun x22 =>
 (bif (Z.igt (Z.ofN (Z.len x22)) 150) then some true
 else Z.bnd (Z.wrap .i64 (Z.add s1.2 1)) fun x23 =>
 k2 (s3.1,x23))
 else none)
 else none) (s1.1,0)
 else (bif (Z.igt (Z.ofN (Z.len d0.1)) 6) then some true
 else some (Z.zQr false true (Z.igt s1.1 40000))))
 else (bif (Z.igt (Z.ofN (Z.len d0.1)) 6) then some true
 else some (Z.zQr false true (Z.igt s1.1 40000))))) (0,0)
def yJp : PFn:={ args:=[(.pair (.list (.list (.list (.int .u8)))) .unit)],res:=[.bool],fn:=zKf }
def uXy : List LSpec×List Nat:=([{ id:=1200,known:=true,toks:=[],items:=[.slot 3 (.val (.int .i64)), .slot 4 (.val (.int .i64))],junk:=[6,7,8,9,10,11,12,13,14,5,17,18,19,20,21,22,23,24,25,26,27,28,31,32,33,34,35,36,37,38,39,40,41,42,29,30,43,44,45,46,47,48,49,2,15,16],tails:=[] },{ id:=1201,known:=true,toks:=[],items:=[.slot 3 (.val (.int .i64)), .slot 5 (.val (.int .i64))],junk:=[17,18,19,20,21,22,23,24,25,26,27,28,31,32,33,34,35,36,37,38,39,40,41,42,29,30],tails:=[] }],[])
def spt12 : Tab (List LSpec×List Nat):=(.node .leaf none (.node (.node .leaf none (.node .leaf (some uXy) .leaf)) none .leaf))
def spf12 (f : Nat) : List LSpec×List Nat:=(spt12.get f).getD ([],[])
theorem xJj : zQz Tryd.prog cfg 12 yJp:=fnD spf12 (l:=[]) zQ4 zQh .nil (fun d=>by kernel_rfl)
def yQn (d0 : ((List (List Int×(List LBk×Unit)))×(List Int×(Int×(Int×Unit))))×((List (List (List Int)))×Unit)) : Option Bool :=
 Z.loop (fun (s1 : Int×Int) k2 =>
 (bif (Z.ilt s1.2 (Z.ofN (Z.len d0.1.1))) then (bif (Z.zQr true (Z.ilt s1.2 10) false) then if (Z.Ix s1.2 (Z.len d0.1.1)) then Z.bnd (Z.get d0.1.1 (Z.toN s1.2) (z32n,(([] : List LBk),()))) fun x5 =>
 Z.bnd (Z.wrap .i64 (Z.add s1.1 (Z.imax false (Z.ofN (Z.len x5.2.1)) 1000))) fun x6 =>
 Z.loop (fun (s7 : Int) k8 =>
 if (Z.Ix s1.2 (Z.len d0.1.1)) then Z.bnd (Z.get d0.1.1 (Z.toN s1.2) (z32n,(([] : List LBk),()))) fun x11 =>
 (bif (Z.ilt s7 (Z.ofN (Z.len x11.2.1))) then (bif (Z.zQr true (Z.ilt s7 200) false) then if (Z.Ix s1.2 (Z.len d0.1.1)) then Z.bnd (Z.get d0.1.1 (Z.toN s1.2) (z32n,(([] : List LBk),()))) fun x14 =>
 if (Z.Ix s7 (Z.len x14.2.1)) then Z.bnd (Z.get x14.2.1 (Z.toN s7) (0,(0,(([] : List Int),())))) fun x17 =>
 (bif (Z.igt (Z.ofN (Z.len x17.2.2.1)) 100) then some true
 else Z.bnd (Z.wrap .i64 (Z.add s7 1)) fun x18 =>
 k8 x18)
 else none
 else none
 else Z.bnd (Z.wrap .i64 (Z.add s1.2 1)) fun x19 =>
 k2 (x6,x19))
 else Z.bnd (Z.wrap .i64 (Z.add s1.2 1)) fun x20 =>
 k2 (x6,x20))
 else none) 0
 else none
 else (bif (Z.igt (Z.ofN (Z.len d0.1.1)) 6) then some true
 else (bif (Z.zQr false true (Z.igt s1.1 60)) then some true
 else (bif (Z.zQr false true (Z.igt (Z.ofN (Z.len d0.1.2.1)) 100)) then some true
 else Z.bind (zKf (d0.2.1,())) fun x21 =>
 some (Z.zQr false true x21)))))
 else (bif (Z.igt (Z.ofN (Z.len d0.1.1)) 6) then some true
 else (bif (Z.zQr false true (Z.igt s1.1 60)) then some true
 else (bif (Z.zQr false true (Z.igt (Z.ofN (Z.len d0.1.2.1)) 100)) then some true
 else Z.bind (zKf (d0.2.1,())) fun x22 =>
 some (Z.zQr false true x22)))))) (0,0)
def yJm : PFn:={ args:=[(.pair (.list (.pair (.arr 32 (.int .u8)) (.pair (.list cBk) .unit))) (.pair (.list (.int .i64)) (.pair (.int .u64) (.pair (.int .u64) .unit)))),(.pair (.list (.list (.list (.int .u8)))) .unit)],res:=[.bool],fn:=yQn }
def sp4_4 : List LSpec×List Nat:=([{ id:=400,known:=true,toks:=[],items:=[.slot 5 (.val (.int .i64)), .slot 6 (.val (.int .i64))],junk:=[8,9,10,11,12,13,14,15,16,19,20,21,22,23,24,25,26,27,28,7,29,30,31,32,33,34,35,36,37,38,39,40,41,44,45,46,47,48,49,50,51,52,53,54,55,4,42,43,17,18],tails:=[] },{ id:=401,known:=true,toks:=[],items:=[.slot 7 (.val (.int .i64))],junk:=[29,30,31,32,33,34,35,36,37,38,39,40,41,44,45,46,47,48,49,50,51,52,53,54,55,4,42,43],tails:=[] }],[])
def spt4 : Tab (List LSpec×List Nat):=(.node .leaf none (.node (.node .leaf (some sp4_4) .leaf) none .leaf))
def spf4 (f : Nat) : List LSpec×List Nat:=(spt4.get f).getD ([],[])
theorem xJg : zQz Tryd.prog cfg 4 yJm:=fnD spf4 (l:=[(12,yJp)]) zQ4 zQh (.cons xJj .nil) (fun d=>by kernel_rfl)
def yX9 (d0 : LBk) : Option LBk :=
 if (Z.Le (Z.addN 0 0) (Z.len ([] : List Int))) then if (Z.Big (Z.len (Z.seg ([] : List Int) 0 0)) (Z.len d0.2.2.1) 1) then none
 else Z.bnd (Z.app (Z.seg ([] : List Int) 0 0) d0.2.2.1) fun x5 =>
 some (d0.1,(d0.2.1,(x5,())))
 else none
def xQw : PFn:={ args:=[cBk],res:=[cBk],fn:=yX9 }
theorem wWe : zQz Tryd.prog cfg 49 xQw:=fnD sp0 (l:=[]) zQ4 zQh .nil (fun d=>by kernel_rfl)
def zJi (d0 : List LBk) : Option (List LBk) :=
 if (Z.EqN 0 (Z.len ([] : List LBk))) then Z.loop (fun (s3 : List LBk×Int) k4 =>
 (bif (Z.ilt s3.2 (Z.ofN (Z.len d0))) then if (Z.Ix s3.2 (Z.len d0)) then Z.bnd (Z.get d0 (Z.toN s3.2) (0,(0,(([] : List Int),())))) fun x7 =>
 Z.bind (yX9 (x7.1,(x7.2.1,(x7.2.2.1,())))) fun x8 =>
 if (Z.Le (Z.addN 0 1) (Z.len ((x8.1,(x8.2.1,(x8.2.2.1,())))::([] : List LBk)))) then if (Z.Big (Z.len s3.1) (Z.len (Z.seg ((x8.1,(x8.2.1,(x8.2.2.1,())))::([] : List LBk)) 0 1)) 40) then none
 else if (Z.EqN (Z.len s3.1) (Z.len s3.1)) then Z.bnd (Z.app s3.1 (Z.seg ((x8.1,(x8.2.1,(x8.2.2.1,())))::([] : List LBk)) 0 1)) fun x15 =>
 Z.bnd (Z.wrap .i64 (Z.add s3.2 1)) fun x16 =>
 if (Z.EqN (Z.len x15) (Z.len x15)) then k4 (x15,x16)
 else none
 else none
 else none
 else none
 else some s3.1)) (([] : List LBk),0)
 else none
def yW5 : PFn:={ args:=[(.list cBk)],res:=[(.list cBk)],fn:=zJi }
def uXq : List LSpec×List Nat:=([{ id:=2700,known:=true,toks:=[(3,cBk)],items:=[.slot 3 (.slt cBk (some 1000003) false), .slot 4 (.val (.int .i64))],junk:=[5,6,7,8,11,12,13,14,15,16,17,18,9,10],tails:=[(1000003,3)] }],[])
def spt27 : Tab (List LSpec×List Nat):=(.node (.node (.node .leaf none (.node .leaf none (.node .leaf (some uXq) .leaf))) none .leaf) none .leaf)
def spf27 (f : Nat) : List LSpec×List Nat:=(spt27.get f).getD ([],[])
theorem xWq : zQz Tryd.prog cfg 27 yW5:=fnD spf27 (l:=[(49,xQw)]) zQ4 zQh (.cons wWe .nil) (fun d=>by kernel_rfl)
def zKp (d0 : List Int×(List LBk×Unit)) : Option (List Int×(List LBk×Unit)) :=
 Z.bind (zJi d0.2.1) fun x1 =>
 some ((n32 d0.1),(x1,()))
def yWf : PFn:={ args:=[(.pair (.arr 32 (.int .u8)) (.pair (.list cBk) .unit))],res:=[(.pair (.arr 32 (.int .u8)) (.pair (.list cBk) .unit))],fn:=zKp }
theorem yYs : zQz Tryd.prog cfg 13 yWf:=fnD sp0 (l:=[(27,yW5)]) zQ4 zQh (.cons xWq .nil) (fun d=>by kernel_rfl)
def zZz (d0 : (List (List Int×(List LBk×Unit)))×(List Int×(Int×(Int×Unit)))) : Option ((List (List Int×(List LBk×Unit)))×(List Int×(Int×(Int×Unit)))) :=
 if (Z.Le (Z.addN 0 0) (Z.len ([] : List Int))) then if (Z.Big (Z.len (Z.seg ([] : List Int) 0 0)) (Z.len d0.2.1) 8) then none
 else Z.bnd (Z.app (Z.seg ([] : List Int) 0 0) d0.2.1) fun x5 =>
 if (Z.EqN (Z.len x5) (Z.len x5)) then if (Z.EqN 0 (Z.len ([] : List (List Int×(List LBk×Unit))))) then Z.loop (fun (s10 : Int×((List (List Int×(List LBk×Unit)))×(List Int×(Int×Int)))) k11 =>
 (bif (Z.ilt s10.1 (Z.ofN (Z.len d0.1))) then if (Z.Ix s10.1 (Z.len d0.1)) then Z.bnd (Z.get d0.1 (Z.toN s10.1) (z32n,(([] : List LBk),()))) fun x14 =>
 Z.bind (zKp ((n32 x14.1),(x14.2.1,()))) fun x15 =>
 if (Z.Le (Z.addN 0 1) (Z.len (((n32 x15.1),(x15.2.1,()))::([] : List (List Int×(List LBk×Unit)))))) then if (Z.Big (Z.len s10.2.1) (Z.len (Z.seg (((n32 x15.1),(x15.2.1,()))::([] : List (List Int×(List LBk×Unit)))) 0 1)) 56) then none
 else if (Z.EqN (Z.len s10.2.1) (Z.len s10.2.1)) then Z.bnd (Z.app s10.2.1 (Z.seg (((n32 x15.1),(x15.2.1,()))::([] : List (List Int×(List LBk×Unit)))) 0 1)) fun x22 =>
 Z.bnd (Z.wrap .i64 (Z.add s10.1 1)) fun x23 =>
 if (Z.EqN (Z.len s10.2.2.1) (Z.len s10.2.2.1)) then if (Z.EqN (Z.len x22) (Z.len x22)) then k11 (x23,(x22,(s10.2.2.1,(s10.2.2.2.1,s10.2.2.2.2))))
 else none
 else none
 else none
 else none
 else none
 else some (s10.2.1,(s10.2.2.1,(s10.2.2.2.1,(s10.2.2.2.2,())))))) (0,(([] : List (List Int×(List LBk×Unit))),(x5,(d0.2.2.1,d0.2.2.2.1))))
 else none
 else none
 else none
def zY6 : PFn:={ args:=[(.pair (.list (.pair (.arr 32 (.int .u8)) (.pair (.list cBk) .unit))) (.pair (.list (.int .i64)) (.pair (.int .u64) (.pair (.int .u64) .unit))))],res:=[(.pair (.list (.pair (.arr 32 (.int .u8)) (.pair (.list cBk) .unit))) (.pair (.list (.int .i64)) (.pair (.int .u64) (.pair (.int .u64) .unit))))],fn:=zZz }
def sp5_5 : List LSpec×List Nat:=([{ id:=500,known:=true,toks:=[(2003000,(.pair (.arr 32 (.int .u8)) (.pair (.list cBk) .unit)))],items:=[.slot 4 (.val (.int .i64)), .cells 1000003 [.slt (.pair (.arr 32 (.int .u8)) (.pair (.list cBk) .unit)) (some 2003000) false, .slt (.int .i64) (some 3003001) false, .val (.int .u64), .val (.int .u64)]],junk:=[14,15,16,17,18,21,22,23,24,25,26,27,28,29,30,31,19,20],tails:=[(3003001,3003001),(2003000,2003000)] }],[])
def spt5 : Tab (List LSpec×List Nat):=(.node (.node .leaf none (.node .leaf (some sp5_5) .leaf)) none .leaf)
def spf5 (f : Nat) : List LSpec×List Nat:=(spt5.get f).getD ([],[])
theorem yJg : zQz Tryd.prog cfg 5 zY6:=fnD spf5 (l:=[(13,yWf)]) zQ4 zQh (.cons yYs .nil) (fun d=>by kernel_rfl)
def zXj (d0 : Int×(Int×(Int×Unit))) : Option Bool :=
 (bif (Z.ile d0.2.1 d0.1) then some (Z.zQr true (Z.ile d0.1 d0.2.2.1) false)
 else some false)
def zZ9 : PFn:={ args:=[(.pair (.int .i64) (.pair (.int .i64) (.pair (.int .i64) .unit)))],res:=[.bool],fn:=zXj }
theorem yQy : zQz Tryd.prog cfg 51 zZ9:=fnD sp0 (l:=[]) zQ4 zQh .nil (fun d=>by kernel_rfl)
def yJ3 (d0 : Int) : Option Int :=
 (bif (Z.ilt d0 1) then some 2
 else (bif (Z.zQr false true (Z.igt d0 6)) then some 2
 else some 0))
def xZq : PFn:={ args:=[(.int .i64)],res:=[(.int .i64)],fn:=yJ3 }
theorem wZl : zQz Tryd.prog cfg 79 xZq:=fnD sp0 (l:=[]) zQ4 zQh .nil (fun d=>by kernel_rfl)
def zKj (d0 : Int) : Option (Int×Int) :=
 Z.bind (yJ3 d0) fun x1 =>
 (bif (Z.ine x1 0) then some (0,x1)
 else if (Z.Neg d0) then none
 else Z.bnd (Z.shl .i64 1 d0) fun x4 =>
 some (x4,0))
def zKy : PFn:={ args:=[(.int .i64)],res:=[(.int .i64),(.int .i64)],fn:=zKj }
theorem zJm : zQz Tryd.prog cfg 56 zKy:=fnD sp0 (l:=[(79,xZq)]) zQ4 zQh (.cons wZl .nil) (fun d=>by kernel_rfl)
def yYc (d0 : Int) : Option Int :=
 Z.loop (fun (s1 : Int) k2 =>
 Z.bind (zKj s1) fun x3 =>
 (bif (Z.ine x3.2 0) then some s1
 else (bif (Z.zQr false true (Z.ige x3.1 d0)) then some s1
 else Z.bnd (Z.wrap .i64 (Z.add s1 1)) fun x4 =>
 k2 x4))) 1
def xZr : PFn:={ args:=[(.int .i64)],res:=[(.int .i64)],fn:=yYc }
def uW4 : List LSpec×List Nat:=([{ id:=7800,known:=true,toks:=[],items:=[.slot 3 (.val (.int .i64))],junk:=[9,10,8,11,12,4,5,13,14,15,16,17,18,19,20,2,6,7],tails:=[] }],[])
def spt78 : Tab (List LSpec×List Nat):=(.node .leaf none (.node .leaf none (.node .leaf none (.node .leaf none (.node (.node (.node .leaf (some uW4) .leaf) none .leaf) none .leaf)))))
def spf78 (f : Nat) : List LSpec×List Nat:=(spt78.get f).getD ([],[])
theorem wZm : zQz Tryd.prog cfg 78 xZr:=fnD spf78 (l:=[(56,zKy)]) zQ4 zQh (.cons zJm .nil) (fun d=>by kernel_rfl)
def zZe (d0 : TCf×(Int×Int)) : Option TLv :=
 Z.bnd (Z.wrap .i64 (Z.add 8 d0.2.2)) fun x1 =>
 Z.bnd (Z.wrap .i64 (Z.mul d0.1.2.2.2.1 x1)) fun x2 =>
 Z.bnd (Z.wrap .i64 (Z.add x2 64)) fun x3 =>
 Z.bind (yYc d0.2.1) fun x4 =>
 some (d0.2.1,(d0.2.2,(x4,(x3,()))))
def yXb : PFn:={ args:=[cCf,(.int .i64),(.int .i64)],res:=[cLv],fn:=zZe }
theorem yJk : zQz Tryd.prog cfg 53 yXb:=fnD sp0 (l:=[(78,xZr)]) zQ4 zQh (.cons wZm .nil) (fun d=>by kernel_rfl)
def yWb (d0 : TCf×TLv) : Option Bool :=
 some (Z.ile d0.2.1 d0.1.2.2.2.2.2.2.2.2.1)
def yQ1 : PFn:={ args:=[cCf,cLv],res:=[.bool],fn:=yWb }
theorem yZy : zQz Tryd.prog cfg 54 yQ1:=fnD sp0 (l:=[]) zQ4 zQh .nil (fun d=>by kernel_rfl)
def yQf (d0 : TCf) : Option Int :=
 Z.bind (yKp (d0.1,(d0.2.1,(d0.2.2.1,(d0.2.2.2.1,(d0.2.2.2.2.1,(d0.2.2.2.2.2.1,(d0.2.2.2.2.2.2.1,(d0.2.2.2.2.2.2.2.1,(d0.2.2.2.2.2.2.2.2.1,())))))))))) fun x1 =>
 Z.loop (fun (s2 : Int) k3 =>
 (bif (Z.ilt s2 9) then if (Z.In s2 9) then Z.bnd (Z.get x1 (Z.toN s2) (0,(0,(0,())))) fun x6 =>
 Z.bind (zXj (x6.1,(x6.2.1,(x6.2.2.1,())))) fun x7 =>
 (bif (Z.bnot x7) then some 8
 else Z.bnd (Z.wrap .i64 (Z.add s2 1)) fun x8 =>
 k3 x8)
 else none
 else Z.bind (zZe ((d0.1,(d0.2.1,(d0.2.2.1,(d0.2.2.2.1,(d0.2.2.2.2.1,(d0.2.2.2.2.2.1,(d0.2.2.2.2.2.2.1,(d0.2.2.2.2.2.2.2.1,(d0.2.2.2.2.2.2.2.2.1,()))))))))),(d0.1,d0.2.1))) fun x9 =>
 Z.loop (fun (s10 : (Int×(Int×(Int×Int)))×Int) k11 =>
 Z.bnd (Z.wrap .i64 (Z.add s10.2 1)) fun x12 =>
 Z.bind (yWb ((d0.1,(d0.2.1,(d0.2.2.1,(d0.2.2.2.1,(d0.2.2.2.2.1,(d0.2.2.2.2.2.1,(d0.2.2.2.2.2.2.1,(d0.2.2.2.2.2.2.2.1,(d0.2.2.2.2.2.2.2.2.1,()))))))))),(s10.1.1,(s10.1.2.1,(s10.1.2.2.1,(s10.1.2.2.2,())))))) fun x13 =>
 (bif (Z.zQr true (Z.bnot x13) false) then Z.bnd (Z.wrap .i64 (Z.add s10.1.1 d0.2.2.1)) fun x14 =>
 Z.bnd (Z.wrap .i64 (Z.sub x14 1)) fun x15 =>
 if (Z.IsZ d0.2.2.1) then none
 else Z.bnd (Z.wrap .i64 (Z.tdiv x15 d0.2.2.1)) fun x18 =>
 Z.bnd (Z.wrap .i64 (Z.mul 4 d0.2.2.1)) fun x19 =>
 Z.bind (zZe ((d0.1,(d0.2.1,(d0.2.2.1,(d0.2.2.2.1,(d0.2.2.2.2.1,(d0.2.2.2.2.2.1,(d0.2.2.2.2.2.2.1,(d0.2.2.2.2.2.2.2.1,(d0.2.2.2.2.2.2.2.2.1,()))))))))),(x18,x19))) fun x20 =>
 k11 ((x20.1,(x20.2.1,(x20.2.2.1,x20.2.2.2.1))),x12)
 else (bif (Z.igt x12 4) then some 8
 else some 0))) ((x9.1,(x9.2.1,(x9.2.2.1,x9.2.2.2.1))),0))) 0
def xQ1 : PFn:={ args:=[cCf],res:=[(.int .i64)],fn:=yQf }
def uXo : List LSpec×List Nat:=([{ id:=5200,known:=true,toks:=[],items:=[.cells 1000003 [.val (.int .i64), .val (.int .i64), .val (.int .i64), .val (.int .i64)], .cells 1 [.val (.int .i64)]],junk:=[10,11,12,13,14,15,16,17,18,19,20,21,22,23,24,25,26,27,28,29,30,31,32],tails:=[] }],[])
def uXp : List LSpec×List Nat:=([{ id:=2800,known:=true,toks:=[],items:=[.slot 8 (.val (.int .i64))],junk:=[9,10,4,11,12,13,2,14],tails:=[] }],[])
def spt28 : Tab (List LSpec×List Nat):=(.node .leaf none (.node (.node .leaf none (.node (.node .leaf none (.node .leaf (some uXo) .leaf)) none (.node .leaf (some uXp) .leaf))) none .leaf))
def spf28 (f : Nat) : List LSpec×List Nat:=(spt28.get f).getD ([],[])
theorem wWj : zQz Tryd.prog cfg 28 xQ1:=fnD spf28 (l:=[(50,yJw),(51,zZ9),(53,yXb),(54,yQ1)]) zQ4 zQh (.cons xJq (.cons yQy (.cons yJk (.cons yZy .nil)))) (fun d=>by kernel_rfl)
def zZq (d0 : TCf) : Option ((List TLv)×Int) :=
 Z.bind (yQf (d0.1,(d0.2.1,(d0.2.2.1,(d0.2.2.2.1,(d0.2.2.2.2.1,(d0.2.2.2.2.2.1,(d0.2.2.2.2.2.2.1,(d0.2.2.2.2.2.2.2.1,(d0.2.2.2.2.2.2.2.2.1,())))))))))) fun x1 =>
 (bif (Z.ine x1 0) then some (([] : List TLv),x1)
 else if (Z.MkOk 0 4 32) then Z.bind (zZe ((d0.1,(d0.2.1,(d0.2.2.1,(d0.2.2.2.1,(d0.2.2.2.2.1,(d0.2.2.2.2.2.1,(d0.2.2.2.2.2.2.1,(d0.2.2.2.2.2.2.2.1,(d0.2.2.2.2.2.2.2.2.1,()))))))))),(d0.1,d0.2.1))) fun x4 =>
 if (Z.EqN (Z.toN 0) 0) then if (Z.EqN 0 (Z.len ([] : List TLv))) then Z.loop (fun (s9 : (Int×(Int×(Int×Int)))×(List TLv)) k10 =>
 if (Z.Le (Z.addN 0 1) (Z.len ((s9.1.1,(s9.1.2.1,(s9.1.2.2.1,(s9.1.2.2.2,()))))::([] : List TLv)))) then if (Z.Big (Z.len s9.2) (Z.len (Z.seg ((s9.1.1,(s9.1.2.1,(s9.1.2.2.1,(s9.1.2.2.2,()))))::([] : List TLv)) 0 1)) 32) then none
 else if (Z.EqN (Z.len s9.2) (Z.len s9.2)) then Z.bnd (Z.app s9.2 (Z.seg ((s9.1.1,(s9.1.2.1,(s9.1.2.2.1,(s9.1.2.2.2,()))))::([] : List TLv)) 0 1)) fun x17 =>
 Z.bind (yWb ((d0.1,(d0.2.1,(d0.2.2.1,(d0.2.2.2.1,(d0.2.2.2.2.1,(d0.2.2.2.2.2.1,(d0.2.2.2.2.2.2.1,(d0.2.2.2.2.2.2.2.1,(d0.2.2.2.2.2.2.2.2.1,()))))))))),(s9.1.1,(s9.1.2.1,(s9.1.2.2.1,(s9.1.2.2.2,())))))) fun x18 =>
 (bif (Z.zQr true (Z.bnot x18) false) then Z.bnd (Z.wrap .i64 (Z.add s9.1.1 d0.2.2.1)) fun x19 =>
 Z.bnd (Z.wrap .i64 (Z.sub x19 1)) fun x20 =>
 if (Z.IsZ d0.2.2.1) then none
 else Z.bnd (Z.wrap .i64 (Z.tdiv x20 d0.2.2.1)) fun x23 =>
 Z.bnd (Z.wrap .i64 (Z.mul 4 d0.2.2.1)) fun x24 =>
 Z.bind (zZe ((d0.1,(d0.2.1,(d0.2.2.1,(d0.2.2.2.1,(d0.2.2.2.2.1,(d0.2.2.2.2.2.1,(d0.2.2.2.2.2.2.1,(d0.2.2.2.2.2.2.2.1,(d0.2.2.2.2.2.2.2.2.1,()))))))))),(x23,x24))) fun x25 =>
 if (Z.EqN (Z.len x17) (Z.len x17)) then k10 ((x25.1,(x25.2.1,(x25.2.2.1,x25.2.2.2.1))),x17)
 else none
 else some (x17,0))
 else none
 else none) ((x4.1,(x4.2.1,(x4.2.2.1,x4.2.2.2.1))),([] : List TLv))
 else none
 else none
 else none)
def zZ2 : PFn:={ args:=[cCf],res:=[(.list cLv),(.int .i64)],fn:=zZq }
def uXx : List LSpec×List Nat:=([{ id:=5200,known:=true,toks:=[(2002000,cLv)],items:=[.cells 1000003 [.val (.int .i64), .val (.int .i64), .val (.int .i64), .val (.int .i64)], .cells 2 [.slt cLv (some 2002000) false]],junk:=[10,11,12,13,14,15,16,17,18,19,20,21,22,23,24,25,26,27,28,29,30,31,32],tails:=[(2002000,2002000)] }],[])
def spt14 : Tab (List LSpec×List Nat):=(.node .leaf none (.node (.node .leaf none (.node (.node .leaf none (.node .leaf (some uXx) .leaf)) none .leaf)) none .leaf))
def spf14 (f : Nat) : List LSpec×List Nat:=(spt14.get f).getD ([],[])
theorem zKs : zQz Tryd.prog cfg 14 zZ2:=fnD spf14 (l:=[(28,xQ1),(53,yXb),(54,yQ1)]) zQ4 zQh (.cons wWj (.cons yJk (.cons yZy .nil))) (fun d=>by kernel_rfl)
def yWr (d0 : TLv) : Option Int :=
 Z.bnd (Z.wrap .i64 (Z.add 8 d0.2.1)) fun x1 =>
 some x1
def yKc : PFn:={ args:=[cLv],res:=[(.int .i64)],fn:=yWr }
theorem xQl : zQz Tryd.prog cfg 32 yKc:=fnD sp0 (l:=[]) zQ4 zQh .nil (fun d=>by kernel_rfl)
def zJp (d0 : TLv) : Option (Int×Int) :=
 (bif (Z.ilt d0.1 1) then some (0,8)
 else (bif (Z.zQr false true (Z.igt d0.1 64)) then some (0,8)
 else (bif (Z.zQr false true (Z.ilt d0.2.1 1)) then some (0,8)
 else (bif (Z.zQr false true (Z.igt d0.2.1 32)) then some (0,8)
 else Z.bind (zKj d0.2.2.1) fun x1 =>
 (bif (Z.ine x1.2 0) then some (0,8)
 else (bif (Z.zQr false true (Z.ilt x1.1 d0.1)) then some (0,8)
 else Z.loop (fun (s2 : Int) k3 =>
 (bif (Z.ile s2 4) then Z.bind (yWr (d0.1,(d0.2.1,(d0.2.2.1,(d0.2.2.2.1,()))))) fun x4 =>
 Z.bnd (Z.wrap .i64 (Z.mul s2 x4)) fun x5 =>
 Z.bnd (Z.wrap .i64 (Z.add x5 64)) fun x6 =>
 (bif (Z.ieq d0.2.2.2.1 x6) then some (s2,0)
 else Z.bnd (Z.wrap .i64 (Z.add s2 1)) fun x7 =>
 k3 x7)
 else some (0,8))) 1))))))
def zJ9 : PFn:={ args:=[cLv],res:=[(.int .i64),(.int .i64)],fn:=zJp }
def uXn : List LSpec×List Nat:=([{ id:=3100,known:=true,toks:=[],items:=[.slot 6 (.val (.int .i64))],junk:=[39,40,43,44,45,46,47,48,49,50,51,2,3,41,42],tails:=[] }],[])
def spt31 : Tab (List LSpec×List Nat):=(.node (.node (.node (.node (.node (.node .leaf (some uXn) .leaf) none .leaf) none .leaf) none .leaf) none .leaf) none .leaf)
def spf31 (f : Nat) : List LSpec×List Nat:=(spt31.get f).getD ([],[])
theorem yQw : zQz Tryd.prog cfg 31 zJ9:=fnD spf31 (l:=[(56,zKy),(32,yKc)]) zQ4 zQh (.cons zJm (.cons xQl .nil)) (fun d=>by kernel_rfl)
def zYt (d0 : TLv) : Option (List Int×Int) :=
 Z.bind (zJp (d0.1,(d0.2.1,(d0.2.2.1,(d0.2.2.2.1,()))))) fun x1 =>
 (bif (Z.ine x1.2 0) then some (([] : List Int),x1.2)
 else Z.bind (yWr (d0.1,(d0.2.1,(d0.2.2.1,(d0.2.2.2.1,()))))) fun x2 =>
 if (Z.MkOk x2 x2 1) then if (Z.Le (Z.addN 0 (Z.toN x2)) (Z.len (Z.rep (α:=Int) (Z.toN x2) 0))) then some ((Z.seg (Z.rep (α:=Int) (Z.toN x2) 0) 0 (Z.toN x2)),0)
 else none
 else none)
def yKd : PFn:={ args:=[cLv],res:=[(.list (.int .u8)),(.int .i64)],fn:=zYt }
theorem xQm : zQz Tryd.prog cfg 16 yKd:=fnD sp0 (l:=[(31,zJ9),(32,yKc)]) zQ4 zQh (.cons yQw (.cons xQl .nil)) (fun d=>by kernel_rfl)
def yX0 (d0 : TCf) : Option (Int×Int) :=
 Z.bind (zZq (pCf d0)) fun x1 =>
 (bif (Z.ine x1.2 0) then some (0,x1.2)
 else Z.loop (fun (s2 : Int×Int) k3 =>
 (bif (Z.ilt s2.1 (Z.ofN (Z.len x1.1))) then if (Z.Ix s2.1 (Z.len x1.1)) then Z.bnd (Z.get x1.1 (Z.toN s2.1) zLv) fun x6 =>
 Z.bind (zYt (pLv x6)) fun x7 =>
 (bif (Z.ine x7.2 0) then some (0,x7.2)
 else Z.bnd (Z.wrap .i64 (Z.mul d0.2.2.2.2.1 (Z.ofN (Z.len x7.1)))) fun x8 =>
 Z.bnd (Z.wrap .i64 (Z.add 32 x8)) fun x9 =>
 Z.bnd (Z.wrap .i64 (Z.add s2.2 x9)) fun x10 =>
 Z.bnd (Z.wrap .i64 (Z.add s2.1 1)) fun x11 =>
 k3 (x11,x10))
 else none
 else Z.bnd (Z.wrap .i64 (Z.sub (Z.ofN (Z.len x1.1)) 1)) fun x12 =>
 if (Z.Ix x12 (Z.len x1.1)) then Z.bnd (Z.get x1.1 (Z.toN x12) zLv) fun x15 =>
 Z.bnd (Z.wrap .i64 (Z.mul 4 x15.1)) fun x16 =>
 Z.bnd (Z.wrap .i64 (Z.add s2.2 x16)) fun x17 =>
 some (x17,0)
 else none)) (0,32))
def xQo : PFn:={ args:=[cCf],res:=[(.int .i64),(.int .i64)],fn:=yX0 }
def sp6_55 : List LSpec×List Nat:=([{ id:=5500,known:=true,toks:=[],items:=[.slot 7 (.val (.int .i64)), .cells 3 [.val (.int .i64)]],junk:=[8,9,10,11,4,3,12,13,14,15,16,17],tails:=[] }],[])
def spt6 : Tab (List LSpec×List Nat):=(.node (.node (.node (.node .leaf none (.node .leaf none (.node .leaf (some sp6_55) .leaf))) none .leaf) none .leaf) none .leaf)
def spf6 (f : Nat) : List LSpec×List Nat:=(spt6.get f).getD ([],[])
theorem wQ6 : zQz Tryd.prog cfg 6 xQo:=fnD spf6 (l:=[(14,zZ2),(16,yKd)]) zQ4 zQh (.cons zKs (.cons xQm .nil)) (fun d=>by kernel_rfl)
def zZj (d0 : Int×(Int×Int)) : Option Bool :=
 (bif (Z.ige d0.1 d0.2.1) then some (Z.zQr true (Z.ile d0.1 d0.2.2) false)
 else some false)
def xYn : PFn:={ args:=[(.int .i64),(.int .i64),(.int .i64)],res:=[.bool],fn:=zZj }
theorem wJd : zQz Tryd.prog cfg 57 xYn:=fnD sp0 (l:=[]) zQ4 zQh .nil (fun d=>by kernel_rfl)
def zJk (d0 : TCf) : Option Bool :=
 Z.bind (zZj (d0.1,(1,64))) fun x1 =>
 (bif x1 then Z.bind (zZj (d0.2.1,(1,32))) fun x2 =>
 (bif (Z.zQr true x2 false) then Z.bind (zZj (d0.2.2.1,(2,8))) fun x3 =>
 (bif (Z.zQr true x3 false) then Z.bind (zZj (d0.2.2.2.1,(1,4))) fun x4 =>
 (bif (Z.zQr true x4 false) then Z.bind (zZj (d0.2.2.2.2.1,(1,64))) fun x5 =>
 (bif (Z.zQr true x5 false) then Z.bind (zZj (d0.2.2.2.2.2.1,(1,8))) fun x6 =>
 (bif (Z.zQr true x6 false) then Z.bind (zZj (d0.2.2.2.2.2.2.1,(1,4))) fun x7 =>
 (bif (Z.zQr true x7 false) then Z.bind (zZj (d0.2.2.2.2.2.2.2.1,(1,16))) fun x8 =>
 (bif (Z.zQr true x8 false) then Z.bind (zZj (d0.2.2.2.2.2.2.2.2.1,(1,16))) fun x9 =>
 some (Z.zQr true x9 false)
 else some false)
 else some false)
 else some false)
 else some false)
 else some false)
 else some false)
 else some false)
 else some false)
def yW7 : PFn:={ args:=[cCf],res:=[.bool],fn:=zJk }
theorem xWs : zQz Tryd.prog cfg 33 yW7:=fnD sp0 (l:=[(57,xYn)]) zQ4 zQh (.cons wJd .nil) (fun d=>by kernel_rfl)
def zJq (d0 : Int) : Option Int :=
 Z.loop (fun (s1 : Int×Int) k2 =>
 (bif (Z.ilt s1.2 d0) then Z.bnd (Z.wrap .i64 (Z.mul 2 s1.1)) fun x3 =>
 Z.bnd (Z.wrap .i64 (Z.add s1.2 1)) fun x4 =>
 k2 (x3,x4)
 else some s1.1)) (1,0)
def zYa : PFn:={ args:=[(.int .i64)],res:=[(.int .i64)],fn:=zJq }
def uW9 : List LSpec×List Nat:=([{ id:=7100,known:=true,toks:=[],items:=[.slot 3 (.val (.int .i64)), .slot 4 (.val (.int .i64))],junk:=[5,6,7,10,11,8,9],tails:=[] }],[])
def spt71 : Tab (List LSpec×List Nat):=(.node (.node (.node (.node .leaf none (.node (.node (.node .leaf (some uW9) .leaf) none .leaf) none .leaf)) none .leaf) none .leaf) none .leaf)
def spf71 (f : Nat) : List LSpec×List Nat:=(spt71.get f).getD ([],[])
theorem yQx : zQz Tryd.prog cfg 71 zYa:=fnD spf71 (l:=[]) zQ4 zQh .nil (fun d=>by kernel_rfl)
def yZc (d0 : Int) : Option Int :=
 Z.loop (fun (s1 : Int) k2 =>
 Z.bind (zJq s1) fun x3 =>
 (bif (Z.ilt x3 d0) then Z.bnd (Z.wrap .i64 (Z.add s1 1)) fun x4 =>
 k2 x4
 else some s1)) 1
def xQy : PFn:={ args:=[(.int .i64)],res:=[(.int .i64)],fn:=yZc }
def uXf : List LSpec×List Nat:=([{ id:=5800,known:=true,toks:=[],items:=[.slot 3 (.val (.int .i64))],junk:=[4,5,6,7,8,9],tails:=[] }],[])
def spt58 : Tab (List LSpec×List Nat):=(.node .leaf none (.node .leaf none (.node (.node .leaf none (.node .leaf none (.node .leaf (some uXf) .leaf))) none .leaf)))
def spf58 (f : Nat) : List LSpec×List Nat:=(spt58.get f).getD ([],[])
theorem wWg : zQz Tryd.prog cfg 58 xQy:=fnD spf58 (l:=[(71,zYa)]) zQ4 zQh (.cons yQx .nil) (fun d=>by kernel_rfl)
def zKv (d0 : TCf) : Option (List TLv) :=
 if (Z.EqN 0 (Z.len ([] : List TLv))) then Z.loop (fun (s3 : (List TLv)×(Int×Int)) k4 =>
 Z.bnd (Z.wrap .i64 (Z.add 8 s3.2.2)) fun x5 =>
 Z.bnd (Z.wrap .i64 (Z.mul d0.2.2.2.1 x5)) fun x6 =>
 Z.bnd (Z.wrap .i64 (Z.add x6 64)) fun x7 =>
 Z.bind (yZc s3.2.1) fun x8 =>
 if (Z.Le (Z.addN 0 1) (Z.len ((s3.2.1,(s3.2.2,(x8,(x7,()))))::([] : List TLv)))) then if (Z.Big (Z.len s3.1) (Z.len (Z.seg ((s3.2.1,(s3.2.2,(x8,(x7,()))))::([] : List TLv)) 0 1)) 32) then none
 else if (Z.EqN (Z.len s3.1) (Z.len s3.1)) then Z.bnd (Z.app s3.1 (Z.seg ((s3.2.1,(s3.2.2,(x8,(x7,()))))::([] : List TLv)) 0 1)) fun x15 =>
 (bif (Z.ile s3.2.1 d0.2.2.2.2.2.2.2.2.1) then some x15
 else Z.bnd (Z.wrap .i64 (Z.add s3.2.1 d0.2.2.1)) fun x16 =>
 Z.bnd (Z.wrap .i64 (Z.sub x16 1)) fun x17 =>
 if (Z.IsZ d0.2.2.1) then none
 else Z.bnd (Z.wrap .i64 (Z.tdiv x17 d0.2.2.1)) fun x20 =>
 Z.bnd (Z.wrap .i64 (Z.mul 4 d0.2.2.1)) fun x21 =>
 if (Z.EqN (Z.len x15) (Z.len x15)) then k4 (x15,(x20,x21))
 else none)
 else none
 else none) (([] : List TLv),(d0.1,d0.2.1))
 else none
def zKh : PFn:={ args:=[cCf],res:=[(.list cLv)],fn:=zKv }
def uXm : List LSpec×List Nat:=([{ id:=3400,known:=true,toks:=[(3,cLv)],items:=[.slot 3 (.slt cLv (some 1000003) false), .slot 4 (.val (.int .i64)), .slot 5 (.val (.int .i64))],junk:=[10,11,12,13,14,15,16,17,18,19,20,21,22,23,24,25,26,27,28,2,29,30,31,32,33,34,35,36,37,38,39],tails:=[(1000003,3)] }],[])
def spt34 : Tab (List LSpec×List Nat):=(.node .leaf none (.node .leaf none (.node (.node (.node (.node .leaf (some uXm) .leaf) none .leaf) none .leaf) none .leaf)))
def spf34 (f : Nat) : List LSpec×List Nat:=(spt34.get f).getD ([],[])
theorem zKx : zQz Tryd.prog cfg 34 zKh:=fnD spf34 (l:=[(58,xQy)]) zQ4 zQh (.cons wWg .nil) (fun d=>by kernel_rfl)
def zY0 (d0 : TCf) : Option Bool :=
 Z.bind (zJk (d0.1,(d0.2.1,(d0.2.2.1,(d0.2.2.2.1,(d0.2.2.2.2.1,(d0.2.2.2.2.2.1,(d0.2.2.2.2.2.2.1,(d0.2.2.2.2.2.2.2.1,(d0.2.2.2.2.2.2.2.2.1,())))))))))) fun x1 =>
 (bif x1 then Z.bind (zKv (d0.1,(d0.2.1,(d0.2.2.1,(d0.2.2.2.1,(d0.2.2.2.2.1,(d0.2.2.2.2.2.1,(d0.2.2.2.2.2.2.1,(d0.2.2.2.2.2.2.2.1,(d0.2.2.2.2.2.2.2.2.1,())))))))))) fun x2 =>
 some (Z.zQr true (Z.ile (Z.ofN (Z.len x2)) 4) false)
 else some false)
def yQz : PFn:={ args:=[cCf],res:=[.bool],fn:=zY0 }
theorem yW1 : zQz Tryd.prog cfg 17 yQz:=fnD sp0 (l:=[(33,yW7),(34,zKh)]) zQ4 zQh (.cons xWs (.cons zKx .nil)) (fun d=>by kernel_rfl)
def yX8 (d0 : TCf) : Option Int :=
 Z.bind (zKv (pCf d0)) fun x1 =>
 Z.loop (fun (s2 : Int×Int) k3 =>
 (bif (Z.ilt s2.2 (Z.ofN (Z.len x1))) then Z.bnd (Z.wrap .i64 (Z.add s2.1 32)) fun x4 =>
 if (Z.Ix s2.2 (Z.len x1)) then Z.bnd (Z.get x1 (Z.toN s2.2) zLv) fun x7 =>
 Z.bnd (Z.wrap .i64 (Z.add 8 x7.2.1)) fun x8 =>
 Z.bnd (Z.wrap .i64 (Z.mul d0.2.2.2.2.1 x8)) fun x9 =>
 Z.bnd (Z.wrap .i64 (Z.add x4 x9)) fun x10 =>
 Z.bnd (Z.wrap .i64 (Z.add s2.2 1)) fun x11 =>
 k3 (x10,x11)
 else none
 else Z.bnd (Z.wrap .i64 (Z.sub (Z.ofN (Z.len x1)) 1)) fun x12 =>
 if (Z.Ix x12 (Z.len x1)) then Z.bnd (Z.get x1 (Z.toN x12) zLv) fun x15 =>
 Z.bnd (Z.wrap .i64 (Z.mul 4 x15.1)) fun x16 =>
 Z.bnd (Z.wrap .i64 (Z.add s2.1 x16)) fun x17 =>
 Z.bnd (Z.wrap .i64 (Z.add x17 32)) fun x18 =>
 some x18
 else none)) (0,0)
def xQv : PFn:={ args:=[cCf],res:=[(.int .i64)],fn:=yX8 }
def uXw : List LSpec×List Nat:=([{ id:=1800,known:=true,toks:=[],items:=[.slot 4 (.val (.int .i64)), .slot 5 (.val (.int .i64))],junk:=[8,9,10,11,14,15,16,17,18,19,20,21,22,23,24,25,12,13],tails:=[] }],[])
def spt18 : Tab (List LSpec×List Nat):=(.node .leaf none (.node .leaf none (.node (.node (.node .leaf (some uXw) .leaf) none .leaf) none .leaf)))
def spf18 (f : Nat) : List LSpec×List Nat:=(spt18.get f).getD ([],[])
theorem wWd : zQz Tryd.prog cfg 18 xQv:=fnD spf18 (l:=[(34,zKh)]) zQ4 zQh (.cons zKx .nil) (fun d=>by kernel_rfl)
def yX6 (d0 : TCf) : Option (Int×Int) :=
 Z.bind (zY0 (pCf d0)) fun x1 =>
 (bif (Z.bnot x1) then some (0,8)
 else Z.bind (yX8 (pCf d0)) fun x2 =>
 some (x2,0))
def xQt : PFn:={ args:=[cCf],res:=[(.int .i64),(.int .i64)],fn:=yX6 }
theorem wWb : zQz Tryd.prog cfg 7 xQt:=fnD sp0 (l:=[(17,yQz),(18,xQv)]) zQ4 zQh (.cons yW1 (.cons wWd .nil)) (fun d=>by kernel_rfl)
def zYb (d0 : TCf×Int) : Option (TLv×Int) :=
 Z.bind (zZq (pCf d0.1)) fun x1 =>
 (bif (Z.ine x1.2 0) then some (zLv,x1.2)
 else (bif (Z.ilt d0.2 0) then some (zLv,8)
 else (bif (Z.zQr false true (Z.ige d0.2 (Z.ofN (Z.len x1.1)))) then some (zLv,8)
 else if (Z.Ix d0.2 (Z.len x1.1)) then Z.bnd (Z.get x1.1 (Z.toN d0.2) zLv) fun x4 =>
 some ((pLv x4),0)
 else none)))
def yZz : PFn:={ args:=[cCf,(.int .i64)],res:=[cLv,(.int .i64)],fn:=zYb }
theorem xZe : zQz Tryd.prog cfg 59 yZz:=fnD sp0 (l:=[(14,zZ2)]) zQ4 zQh (.cons zKs .nil) (fun d=>by kernel_rfl)
def zYu (d0 : TLv×LBk) : Option Int :=
 Z.bind (zJp (d0.1.1,(d0.1.2.1,(d0.1.2.2.1,(d0.1.2.2.2.1,()))))) fun x1 =>
 (bif (Z.ine x1.2 0) then some x1.2
 else Z.bind (zKj d0.1.2.2.1) fun x2 =>
 (bif (Z.ilt d0.2.1 0) then some 8
 else (bif (Z.zQr false true (Z.ige d0.2.1 d0.1.1)) then some 8
 else (bif (Z.zQr false true (Z.ilt d0.2.2.1 0)) then some 8
 else (bif (Z.zQr false true (Z.ige d0.2.2.1 x2.1)) then some 8
 else (bif (Z.zQr false true (Z.ine (Z.ofN (Z.len d0.2.2.2.1)) d0.1.2.1)) then some 8
 else some 0))))))
def yW4 : PFn:={ args:=[cLv,cBk],res:=[(.int .i64)],fn:=zYu }
theorem yJf : zQz Tryd.prog cfg 37 yW4:=fnD sp0 (l:=[(31,zJ9),(56,zKy)]) zQ4 zQh (.cons yQw (.cons zJm .nil)) (fun d=>by kernel_rfl)
def yQl (d0 : TLv×(List LBk)) : Option Int :=
 Z.bind (zJp (pLv d0.1)) fun x1 =>
 (bif (Z.ine x1.2 0) then some x1.2
 else Z.loop (fun (s2 : Int) k3 =>
 (bif (Z.ilt s2 (Z.ofN (Z.len d0.2))) then if (Z.Ix s2 (Z.len d0.2)) then Z.bnd (Z.get d0.2 (Z.toN s2) (0,(0,(([] : List Int),())))) fun x6 =>
 Z.bind (zYu ((pLv d0.1),(x6.1,(x6.2.1,(x6.2.2.1,()))))) fun x7 =>
 (bif (Z.ine x7 0) then some 8
 else (bif (Z.igt s2 0) then Z.bnd (Z.wrap .i64 (Z.sub s2 1)) fun x8 =>
 if (Z.Ix x8 (Z.len d0.2)) then Z.bnd (Z.get d0.2 (Z.toN x8) (0,(0,(([] : List Int),())))) fun x11 =>
 (bif (Z.zQr false true (Z.zQr true (Z.ige x11.1 x6.1) false)) then some 8
 else Z.bnd (Z.wrap .i64 (Z.add s2 1)) fun x12 =>
 k3 x12)
 else none
 else Z.bnd (Z.wrap .i64 (Z.add s2 1)) fun x13 =>
 k3 x13))
 else none
 else some 0)) 0)
def yJl : PFn:={ args:=[cLv,(.list cBk)],res:=[(.int .i64)],fn:=yQl }
def uXe : List LSpec×List Nat:=([{ id:=6000,known:=true,toks:=[],items:=[.slot 19 (.val (.int .i64))],junk:=[20,21,22,23,8,7,24,25,26,27,28,29,30,31,32,33,34,35,36,37,38,39,40,41,42,4,43],tails:=[] }],[])
def spt60 : Tab (List LSpec×List Nat):=(.node .leaf none (.node (.node .leaf none (.node .leaf none (.node .leaf none (.node .leaf (some uXe) .leaf)))) none .leaf))
def spf60 (f : Nat) : List LSpec×List Nat:=(spt60.get f).getD ([],[])
theorem xJf : zQz Tryd.prog cfg 60 yJl:=fnD spf60 (l:=[(31,zJ9),(37,yW4)]) zQ4 zQh (.cons yQw (.cons yJf .nil)) (fun d=>by kernel_rfl)
def yZg (d0 : TCf×(Int×(List Int×(List LBk×Unit)))) : Option Int :=
 Z.bind (zYb ((pCf d0.1),d0.2.1)) fun x1 =>
 (bif (Z.ine x1.2 0) then some x1.2
 else Z.bind (yQl ((pLv x1.1),d0.2.2.2.1)) fun x2 =>
 some x2)
def xQ0 : PFn:={ args:=[cCf,(.int .i64),(.pair (.arr 32 (.int .u8)) (.pair (.list cBk) .unit))],res:=[(.int .i64)],fn:=yZg }
theorem wWi : zQz Tryd.prog cfg 35 xQ0:=fnD sp0 (l:=[(59,yZz),(60,yJl)]) zQ4 zQh (.cons xZe (.cons xJf .nil)) (fun d=>by kernel_rfl)
def zKl (d0 : Int×Int) : Option Int :=
 Z.bind (zKj d0.1) fun x1 =>
 (bif (Z.ine x1.2 0) then (bif (Z.ine x1.2 0) then some x1.2
 else Z.bnd (Z.wrap .u64 d0.2) fun x2 =>
 none)
 else (bif (Z.ine 0 0) then some 0
 else Z.bnd (Z.wrap .u64 d0.2) fun x3 =>
 (bif (Z.ieq x3 0) then some 0
 else Z.bnd (Z.wrap .i64 (Z.add 1 x1.1)) fun x4 =>
 Z.bnd (Z.wrap .u64 x4) fun x5 =>
 (bif (Z.bnot (Z.zQr false true (Z.ilt x3 x5))) then some 8
 else some 0))))
def yQ0 : PFn:={ args:=[(.int .i64),(.int .i64)],res:=[(.int .i64)],fn:=zKl }
theorem yZx : zQz Tryd.prog cfg 36 yQ0:=fnD sp0 (l:=[(56,zKy)]) zQ4 zQh (.cons zJm .nil) (fun d=>by kernel_rfl)
def yJd (d0 : TCf×((List (List Int×(List LBk×Unit)))×(List Int×(Int×(Int×Unit))))) : Option Int :=
 Z.bind (zZq (pCf d0.1)) fun x1 =>
 (bif (Z.ine x1.2 0) then some x1.2
 else (bif (Z.ine (Z.ofN (Z.len d0.2.1)) (Z.ofN (Z.len x1.1))) then some 8
 else Z.loop (fun (s2 : Int) k3 =>
 (bif (Z.ilt s2 (Z.ofN (Z.len d0.2.1))) then if (Z.Ix s2 (Z.len d0.2.1)) then Z.bnd (Z.get d0.2.1 (Z.toN s2) (z32n,(([] : List LBk),()))) fun x6 =>
 Z.bind (yZg ((pCf d0.1),(s2,((n32 x6.1),(x6.2.1,()))))) fun x7 =>
 (bif (Z.ine x7 0) then some x7
 else Z.bnd (Z.wrap .i64 (Z.add s2 1)) fun x8 =>
 k3 x8)
 else none
 else Z.bnd (Z.wrap .i64 (Z.sub (Z.ofN (Z.len x1.1)) 1)) fun x9 =>
 if (Z.Ix x9 (Z.len x1.1)) then Z.bnd (Z.get x1.1 (Z.toN x9) zLv) fun x12 =>
 (bif (Z.ine (Z.ofN (Z.len d0.2.2.1)) x12.1) then some 8
 else Z.loop (fun (s13 : Int) k14 =>
 (bif (Z.ilt s13 (Z.ofN (Z.len d0.2.2.1))) then if (Z.Ix s13 (Z.len d0.2.2.1)) then Z.bnd (Z.get d0.2.2.1 (Z.toN s13) 0) fun x17 =>
 Z.bind (zKl (x12.2.2.1,x17)) fun x18 =>
 (bif (Z.ine x18 0) then some 8
 else Z.bnd (Z.wrap .i64 (Z.add s13 1)) fun x19 =>
 k14 x19)
 else none
 else some 0)) 0)
 else none)) 0))
def xZo : PFn:={ args:=[cCf,(.pair (.list (.pair (.arr 32 (.int .u8)) (.pair (.list cBk) .unit))) (.pair (.list (.int .i64)) (.pair (.int .u64) (.pair (.int .u64) .unit))))],res:=[(.int .i64)],fn:=yJd }
def uXv : List LSpec×List Nat:=([{ id:=1900,known:=true,toks:=[],items:=[.slot 30 (.val (.int .i64))],junk:=[31,32,33,34,8,7,35,36,37,38,9,39,40,41,4,42],tails:=[] },{ id:=1901,known:=true,toks:=[],items:=[.slot 58 (.val (.int .i64))],junk:=[59,60,61,12,62,63,64,65,66,4,67],tails:=[] }],[])
def spt19 : Tab (List LSpec×List Nat):=(.node (.node (.node .leaf none (.node (.node .leaf (some uXv) .leaf) none .leaf)) none .leaf) none .leaf)
def spf19 (f : Nat) : List LSpec×List Nat:=(spt19.get f).getD ([],[])
theorem wZk : zQz Tryd.prog cfg 19 xZo:=fnD spf19 (l:=[(14,zZ2),(35,xQ0),(36,yQ0)]) zQ4 zQh (.cons zKs (.cons wWi (.cons yZx .nil))) (fun d=>by kernel_rfl)
def yX4 (d0 : TLv) : Option (List Int) :=
 if (Z.EqN (Z.len (Z.rep 3 0)) (Z.len (4::(4::(d0.2.1::([] : List Int)))))) then if (Z.EqN (Z.len (4::(4::(d0.2.1::([] : List Int))))) 3) then some (4::(4::(d0.2.1::([] : List Int))))
 else none
 else none
def xQq : PFn:={ args:=[cLv],res:=[(.arr 3 (.int .i64))],fn:=yX4 }
theorem wQ8 : zQz Tryd.prog cfg 38 xQq:=fnD sp0 (l:=[]) zQ4 zQh .nil (fun d=>by kernel_rfl)
def zYd (d0 : List Int×(Int×Int)) : Option (Int×Int) :=
 (bif (Z.igt (Z.ofN (Z.len d0.1)) 64) then some (0,2)
 else Z.loop (fun (s1 : Int×Int) k2 =>
 (bif (Z.ilt s1.1 (Z.ofN (Z.len d0.1))) then if (Z.Ix s1.1 (Z.len d0.1)) then Z.bnd (Z.get d0.1 (Z.toN s1.1) 0) fun x5 =>
 (bif (Z.ilt x5 d0.2.1) then some (0,2)
 else (bif (Z.zQr false true (Z.igt x5 d0.2.2)) then some (0,2)
 else Z.bnd (Z.wrap .i64 (Z.add s1.2 x5)) fun x6 =>
 (bif (Z.bnot (Z.ile x6 65536)) then some (0,2)
 else Z.bnd (Z.wrap .i64 (Z.add s1.1 1)) fun x7 =>
 k2 (x7,x6))))
 else none
 else some (s1.2,0))) (0,0))
def yZ0 : PFn:={ args:=[(.list (.int .i64)),(.int .i64),(.int .i64)],res:=[(.int .i64),(.int .i64)],fn:=zYd }
def uXd : List LSpec×List Nat:=([{ id:=6200,known:=true,toks:=[],items:=[.slot 18 (.val (.int .i64)), .cells 1000008 [.val (.int .i64)]],junk:=[19,20,21,11,22,23,24,25,6,7,26],tails:=[] }],[])
def spt62 : Tab (List LSpec×List Nat):=(.node .leaf none (.node .leaf none (.node .leaf none (.node .leaf none (.node .leaf none (.node .leaf (some uXd) .leaf))))))
def spf62 (f : Nat) : List LSpec×List Nat:=(spt62.get f).getD ([],[])
theorem xZf : zQz Tryd.prog cfg 62 yZ0:=fnD spf62 (l:=[]) zQ4 zQh .nil (fun d=>by kernel_rfl)
def xW2 (d0 : Int×Int) : Option Bool :=
 (bif (Z.ige d0.2 8) then some true
 else Z.bnd (Z.wrap .i64 (Z.mul 8 d0.2)) fun x1 =>
 if (Z.Neg x1) then none
 else Z.bnd (Z.shr .u64 d0.1 x1) fun x4 =>
 some (Z.zQr false true (Z.ieq x4 0)))
def xYp : PFn:={ args:=[(.int .u64),(.int .i64)],res:=[.bool],fn:=xW2 }
theorem wJf : zQz Tryd.prog cfg 63 xYp:=fnD sp0 (l:=[]) zQ4 zQh .nil (fun d=>by kernel_rfl)
def yKi (d0 : List Int×(List Int)) : Option (List Int×Int) :=
 Z.bind (zYd (d0.2,(1,8))) fun x1 =>
 (bif (Z.ine x1.2 0) then some (([] : List Int),x1.2)
 else (bif (Z.ine (Z.ofN (Z.len d0.1)) (Z.ofN (Z.len d0.2))) then some (([] : List Int),2)
 else if (Z.MkOk 0 x1.1 1) then if (Z.EqN (Z.toN 0) 0) then if (Z.EqN 0 (Z.len ([] : List Int))) then Z.loop (fun (s8 : List Int×Int) k9 =>
 (bif (Z.ilt s8.2 (Z.ofN (Z.len d0.2))) then if (Z.Ix s8.2 (Z.len d0.2)) then Z.bnd (Z.get d0.2 (Z.toN s8.2) 0) fun x12 =>
 if (Z.Ix s8.2 (Z.len d0.1)) then Z.bnd (Z.get d0.1 (Z.toN s8.2) 0) fun x15 =>
 Z.bind (xW2 (x15,x12)) fun x16 =>
 (bif (Z.bnot x16) then some (([] : List Int),4)
 else if (Z.Ix s8.2 (Z.len d0.1)) then Z.bnd (Z.get d0.1 (Z.toN s8.2) 0) fun x19 =>
 if (Z.EqN (Z.len s8.1) (Z.len s8.1)) then Z.loop (fun (s22 : List Int×Int) k23 =>
 (bif (Z.ilt s22.2 x12) then Z.bnd (Z.wrap .i64 (Z.mul 8 s22.2)) fun x24 =>
 if (Z.Neg x24) then none
 else Z.bnd (Z.shr .u64 x19 x24) fun x27 =>
 Z.bnd (Z.wrap .u8 x27) fun x28 =>
 if (Z.Le (Z.addN 0 1) (Z.len (x28::([] : List Int)))) then if (Z.Big (Z.len s22.1) (Z.len (Z.seg (x28::([] : List Int)) 0 1)) 1) then none
 else if (Z.EqN (Z.len s22.1) (Z.len s22.1)) then Z.bnd (Z.app s22.1 (Z.seg (x28::([] : List Int)) 0 1)) fun x35 =>
 Z.bnd (Z.wrap .i64 (Z.add s22.2 1)) fun x36 =>
 if (Z.EqN (Z.len x35) (Z.len x35)) then k23 (x35,x36)
 else none
 else none
 else none
 else Z.bnd (Z.wrap .i64 (Z.add s8.2 1)) fun x39 =>
 if (Z.EqN (Z.len s22.1) (Z.len s22.1)) then k9 (s22.1,x39)
 else none)) (s8.1,0)
 else none
 else none)
 else none
 else none
 else if (Z.EqN (Z.len s8.1) (Z.len s8.1)) then some (s8.1,0)
 else none)) (([] : List Int),0)
 else none
 else none
 else none))
def xZp : PFn:={ args:=[(.list (.int .u64)),(.list (.int .i64))],res:=[(.list (.int .u8)),(.int .i64)],fn:=yKi }
def uXk : List LSpec×List Nat:=([{ id:=6400,known:=true,toks:=[(0,(.int .u8))],items:=[.slot 0 (.slt (.int .u8) (some 1000000) false), .slot 9 (.val (.int .i64))],junk:=[10,11,7,12,13,14,15,16,17,18,19,20],tails:=[(1000000,0)] }],[])
def uXl : List LSpec×List Nat:=([{ id:=3900,known:=true,toks:=[(8,(.int .u8))],items:=[.slot 8 (.slt (.int .u8) (some 1000008) false), .slot 28 (.val (.int .i64))],junk:=[29,30,31,32,9,10,33,34,35,36,37,38,39,4,5,40,41,42,43,44,45,46,47],tails:=[(1000008,8)] }],[])
def spt39 : Tab (List LSpec×List Nat):=(.node (.node (.node (.node .leaf none (.node (.node .leaf (some uXl) .leaf) none .leaf)) none .leaf) none .leaf) none (.node (.node (.node (.node (.node (.node .leaf (some uXk) .leaf) none .leaf) none .leaf) none .leaf) none .leaf) none .leaf))
def spf39 (f : Nat) : List LSpec×List Nat:=(spt39.get f).getD ([],[])
def xZy : OFn:={ args:=[(.list (.int .u64)),(.list (.int .i64))],ores:=[(.own (.int .u8)),(.plain (.int .i64))],fn:=yKi }
theorem xYr : OwnD Tryd.prog cfg 39 xZy∧zQz Tryd.prog cfg 39 xZy.pfn:=fnO spf39 [] (l:=[(62,yZ0),(63,xYp)]) (lo:=[]) zQ4 zQh (.cons xZf (.cons wJf .nil)) .nil (fun d=>by kernel_rfl)
theorem xYi : zQz Tryd.prog cfg 39 xZp:=xYr.2
def zJo (d0 : TLv×LBk) : Option (List Int×Int) :=
 Z.bind (zYu ((d0.1.1,(d0.1.2.1,(d0.1.2.2.1,(d0.1.2.2.2.1,())))),(d0.2.1,(d0.2.2.1,(d0.2.2.2.1,()))))) fun x1 =>
 (bif (Z.ine x1 0) then some (([] : List Int),x1)
 else Z.bind (yX4 (d0.1.1,(d0.1.2.1,(d0.1.2.2.1,(d0.1.2.2.2.1,()))))) fun x2 =>
 if (Z.EqN (Z.len (Z.rep 3 0)) 3) then Z.bnd (Z.wrap .u64 d0.2.1) fun x5 =>
 Z.bnd (Z.wrap .u64 (Z.add x5 1)) fun x6 =>
 Z.bnd (Z.wrap .u64 d0.2.2.1) fun x7 =>
 if (Z.Le 3 (Z.len (Z.norm 3 x2 0))) then if (Z.Bd 2 3) then if (Z.Lt 0 3) then if (Z.Le (Z.addN 0 2) (Z.len (x6::(x7::([] : List Int))))) then if (Z.Le (Z.addN 0 (Z.subN (Z.toN 2) 0)) (Z.len (Z.norm 3 x2 0))) then Z.bind (yKi ((Z.seg (x6::(x7::([] : List Int))) 0 2),(Z.seg (Z.norm 3 x2 0) 0 (Z.subN (Z.toN 2) 0)))) fun x18 =>
 if (Z.EqN (Z.len x18.1) 0) then if (Z.Big (Z.len x18.1) (Z.len d0.2.2.2.1) 1) then none
 else none
 else if (Z.Le (Z.addN 0 (Z.len x18.1)) (Z.len x18.1)) then if (Z.Big (Z.len (Z.seg x18.1 0 (Z.len x18.1))) (Z.len d0.2.2.2.1) 1) then none
 else Z.bnd (Z.app (Z.seg x18.1 0 (Z.len x18.1)) d0.2.2.2.1) fun x27 =>
 if (Z.EqN (Z.len x27) (Z.len x27)) then some (x27,x18.2)
 else none
 else none
 else none
 else none
 else if (Z.Le (Z.addN 0 2) (Z.len (x6::(x7::([] : List Int))))) then Z.bind (yKi ((Z.seg (x6::(x7::([] : List Int))) 0 2),([] : List Int))) fun x32 =>
 if (Z.EqN (Z.len x32.1) 0) then if (Z.Big (Z.len x32.1) (Z.len d0.2.2.2.1) 1) then none
 else none
 else if (Z.Le (Z.addN 0 (Z.len x32.1)) (Z.len x32.1)) then if (Z.Big (Z.len (Z.seg x32.1 0 (Z.len x32.1))) (Z.len d0.2.2.2.1) 1) then none
 else Z.bnd (Z.app (Z.seg x32.1 0 (Z.len x32.1)) d0.2.2.2.1) fun x41 =>
 if (Z.EqN (Z.len x41) (Z.len x41)) then some (x41,x32.2)
 else none
 else none
 else none
 else none
 else none
 else none)
def xQr : PFn:={ args:=[cLv,cBk],res:=[(.list (.int .u8)),(.int .i64)],fn:=zJo }
def xQ5 : OFn:={ args:=[cLv,cBk],ores:=[(.own (.int .u8)),(.plain (.int .i64))],fn:=zJo }
theorem wWm : OwnD Tryd.prog cfg 20 xQ5∧zQz Tryd.prog cfg 20 xQ5.pfn:=fnO sp0 [] (l:=[(37,yW4),(38,xQq),(39,xZp)]) (lo:=[(39,xZy)]) zQ4 zQh (.cons yJf (.cons wQ8 (.cons xYi .nil))) (.cons xYr.1 .nil) (fun d=>by kernel_rfl)
theorem wQ9 : zQz Tryd.prog cfg 20 xQr:=wWm.2
def zJ3 (d0 : Int×Int) : Option (List Int×Int) :=
 Z.bind (zKl (d0.1,d0.2)) fun x1 =>
 (bif (Z.ine x1 0) then some (([] : List Int),x1)
 else Z.bnd (Z.wrap .u64 d0.2) fun x2 =>
 if (Z.Le (Z.addN 0 1) (Z.len (x2::([] : List Int)))) then if (Z.Le (Z.addN 0 1) (Z.len (4::([] : List Int)))) then Z.bind (yKi ((Z.seg (x2::([] : List Int)) 0 1),(Z.seg (4::([] : List Int)) 0 1))) fun x7 =>
 some (x7.1,x7.2)
 else none
 else none)
def yJv : PFn:={ args:=[(.int .i64),(.int .i64)],res:=[(.list (.int .u8)),(.int .i64)],fn:=zJ3 }
theorem xJp : zQz Tryd.prog cfg 21 yJv:=fnD sp0 (l:=[(36,yQ0),(39,xZp)]) zQ4 zQh (.cons yZx (.cons xYi .nil)) (fun d=>by kernel_rfl)
def yK3 (d0 : Unit) : Option (List Int×(List Int×(Int×Unit))) :=
 some ((1779033703::(3144134277::(1013904242::(2773480762::(1359893119::(2600822924::(528734635::(1541459225::([] : List Int))))))))),(([] : List Int),(0,())))
def xZh : PFn:={ args:=[],res:=[(.pair (.arr 8 (.int .u32)) (.pair (.list (.int .u8)) (.pair (.int .u64) .unit)))],fn:=yK3 }
theorem wZd : zQz Tryd.prog cfg 40 xZh:=fnD sp0 (l:=[]) zQ4 zQh .nil (fun d=>by kernel_rfl)
def yWt (d0 : List Int×(List Int×(Int×Unit))) : Option Int :=
 (bif (Z.ige d0.2.2.1 72057594037927936) then some 8
 else Z.bnd (Z.wrap .u64 (Z.ofN (Z.len d0.2.1))) fun x1 =>
 if (Z.IsZ 64) then none
 else Z.bnd (Z.tmod d0.2.2.1 64) fun x4 =>
 (bif (Z.zQr false true (Z.ine x1 x4)) then some 8
 else some 0))
def yKe : PFn:={ args:=[(.pair (.arr 8 (.int .u32)) (.pair (.list (.int .u8)) (.pair (.int .u64) .unit)))],res:=[(.int .i64)],fn:=yWt }
theorem xQn : zQz Tryd.prog cfg 65 yKe:=fnD sp0 (l:=[]) zQ4 zQh .nil (fun d=>by kernel_rfl)
def zQ2 (d0 : Int×Int) : Option Int :=
 Z.bnd (Z.wrap .u64 d0.2) fun x1 =>
 Z.bnd (Z.band .u64 x1 31) fun x2 =>
 if (Z.Neg x2) then none
 else Z.bnd (Z.shl .u32 d0.1 x2) fun x5 =>
 Z.bnd (Z.wrap .u64 (Z.sub 32 x2)) fun x6 =>
 if (Z.Neg x6) then none
 else Z.bnd (Z.shr .u32 d0.1 x6) fun x9 =>
 Z.bnd (Z.bor .u32 x5 x9) fun x10 =>
 some x10
def zZw : PFn:={ args:=[(.int .u32),(.int .i64)],res:=[(.int .u32)],fn:=zQ2 }
theorem zYl : zQz Tryd.prog cfg 92 zZw:=fnD sp0 (l:=[]) zQ4 zQh .nil (fun d=>by kernel_rfl)
def zXe (d0 : (List Int×(Bool×Unit))×Int) : Option Int :=
 if (Z.In 2 3) then Z.bnd (Z.wrap .i64 (Z.sub 0 (Z.get d0.1.1 2 0))) fun x3 =>
 Z.bind (zQ2 (d0.2,x3)) fun x4 =>
 (bif d0.1.2.1 then if (Z.In 2 3) then if (Z.Neg (Z.get d0.1.1 2 0)) then none
 else Z.bnd (Z.shr .u32 d0.2 (Z.get d0.1.1 2 0)) fun x9 =>
 if (Z.In 0 3) then Z.bnd (Z.wrap .i64 (Z.sub 0 (Z.get d0.1.1 0 0))) fun x12 =>
 if (Z.In 1 3) then Z.bnd (Z.wrap .i64 (Z.sub 0 (Z.get d0.1.1 1 0))) fun x15 =>
 Z.bind (zQ2 (d0.2,x12)) fun x16 =>
 Z.bind (zQ2 (d0.2,x15)) fun x17 =>
 Z.bnd (Z.bxor .u32 x16 x17) fun x18 =>
 Z.bnd (Z.bxor .u32 x18 x9) fun x19 =>
 some x19
 else none
 else none
 else none
 else if (Z.In 0 3) then Z.bnd (Z.wrap .i64 (Z.sub 0 (Z.get d0.1.1 0 0))) fun x22 =>
 if (Z.In 1 3) then Z.bnd (Z.wrap .i64 (Z.sub 0 (Z.get d0.1.1 1 0))) fun x25 =>
 Z.bind (zQ2 (d0.2,x22)) fun x26 =>
 Z.bind (zQ2 (d0.2,x25)) fun x27 =>
 Z.bnd (Z.bxor .u32 x26 x27) fun x28 =>
 Z.bnd (Z.bxor .u32 x28 x4) fun x29 =>
 some x29
 else none
 else none)
 else none
def zK2 : PFn:={ args:=[(.pair (.arr 3 (.int .i64)) (.pair .bool .unit)),(.int .u32)],res:=[(.int .u32)],fn:=zXe }
theorem zY4 : zQz Tryd.prog cfg 87 zK2:=fnD sp0 (l:=[(92,zZw)]) zQ4 zQh (.cons zYl .nil) (fun d=>by kernel_rfl)
def yX5 (d0 : List Int) : Option (List Int) :=
 Z.loop (fun (s1 : Int×(List Int)) k2 =>
 (bif (Z.ilt s1.1 64) then (bif (Z.ilt s1.1 16) then Z.bnd (Z.wrap .i64 (Z.mul 4 s1.1)) fun x3 =>
 if (Z.In x3 64) then if (Z.Lt (Z.toN x3) (Z.len (Z.norm 64 d0 0))) then Z.bnd (Z.get (Z.norm 64 d0 0) (Z.toN x3) 0) fun x8 =>
 Z.bnd (Z.wrap .u32 x8) fun x9 =>
 if (Z.Neg 24) then none
 else Z.bnd (Z.shl .u32 x9 24) fun x12 =>
 Z.bnd (Z.wrap .i64 (Z.mul 4 s1.1)) fun x13 =>
 Z.bnd (Z.wrap .i64 (Z.add x13 1)) fun x14 =>
 if (Z.In x14 64) then if (Z.Lt (Z.toN x14) (Z.len (Z.norm 64 d0 0))) then Z.bnd (Z.get (Z.norm 64 d0 0) (Z.toN x14) 0) fun x19 =>
 Z.bnd (Z.wrap .u32 x19) fun x20 =>
 if (Z.Neg 16) then none
 else Z.bnd (Z.shl .u32 x20 16) fun x23 =>
 Z.bnd (Z.bor .u32 x12 x23) fun x24 =>
 Z.bnd (Z.wrap .i64 (Z.mul 4 s1.1)) fun x25 =>
 Z.bnd (Z.wrap .i64 (Z.add x25 2)) fun x26 =>
 if (Z.In x26 64) then if (Z.Lt (Z.toN x26) (Z.len (Z.norm 64 d0 0))) then Z.bnd (Z.get (Z.norm 64 d0 0) (Z.toN x26) 0) fun x31 =>
 Z.bnd (Z.wrap .u32 x31) fun x32 =>
 if (Z.Neg 8) then none
 else Z.bnd (Z.shl .u32 x32 8) fun x35 =>
 Z.bnd (Z.bor .u32 x24 x35) fun x36 =>
 Z.bnd (Z.wrap .i64 (Z.mul 4 s1.1)) fun x37 =>
 Z.bnd (Z.wrap .i64 (Z.add x37 3)) fun x38 =>
 if (Z.In x38 64) then if (Z.Lt (Z.toN x38) (Z.len (Z.norm 64 d0 0))) then Z.bnd (Z.get (Z.norm 64 d0 0) (Z.toN x38) 0) fun x43 =>
 Z.bnd (Z.wrap .u32 x43) fun x44 =>
 Z.bnd (Z.bor .u32 x36 x44) fun x45 =>
 if (Z.In s1.1 64) then if (Z.Lt (Z.toN s1.1) (Z.len s1.2)) then Z.bnd (Z.set s1.2 (Z.toN s1.1) x45) fun x50 =>
 Z.bnd (Z.wrap .i64 (Z.add s1.1 1)) fun x51 =>
 k2 (x51,x50)
 else none
 else none
 else none
 else none
 else none
 else none
 else none
 else none
 else none
 else none
 else Z.bnd (Z.wrap .i64 (Z.sub s1.1 16)) fun x52 =>
 if (Z.In x52 64) then if (Z.Lt (Z.toN x52) (Z.len s1.2)) then Z.bnd (Z.get s1.2 (Z.toN x52) 0) fun x57 =>
 Z.bnd (Z.wrap .i64 (Z.sub s1.1 7)) fun x58 =>
 if (Z.In x58 64) then if (Z.Lt (Z.toN x58) (Z.len s1.2)) then Z.bnd (Z.get s1.2 (Z.toN x58) 0) fun x63 =>
 Z.bnd (Z.wrap .u32 (Z.add x57 x63)) fun x64 =>
 Z.bnd (Z.wrap .i64 (Z.sub s1.1 15)) fun x65 =>
 if (Z.In x65 64) then if (Z.Lt (Z.toN x65) (Z.len s1.2)) then Z.bnd (Z.get s1.2 (Z.toN x65) 0) fun x70 =>
 Z.bnd (Z.wrap .i64 (Z.sub s1.1 2)) fun x71 =>
 if (Z.In x71 64) then if (Z.Lt (Z.toN x71) (Z.len s1.2)) then Z.bnd (Z.get s1.2 (Z.toN x71) 0) fun x76 =>
 Z.bind (zXe (((7::(18::(3::([] : List Int)))),(true,())),x70)) fun x77 =>
 Z.bnd (Z.wrap .u32 (Z.add x64 x77)) fun x78 =>
 Z.bind (zXe (((17::(19::(10::([] : List Int)))),(true,())),x76)) fun x79 =>
 Z.bnd (Z.wrap .u32 (Z.add x78 x79)) fun x80 =>
 if (Z.In s1.1 64) then if (Z.Lt (Z.toN s1.1) (Z.len s1.2)) then Z.bnd (Z.set s1.2 (Z.toN s1.1) x80) fun x85 =>
 Z.bnd (Z.wrap .i64 (Z.add s1.1 1)) fun x86 =>
 k2 (x86,x85)
 else none
 else none
 else none
 else none
 else none
 else none
 else none
 else none
 else none
 else none)
 else if (Z.EqN (Z.len s1.2) 64) then if (Z.EqN (Z.len (Z.rep 64 0)) 64) then if (Z.EqN (Z.len (Z.norm 64 s1.2 0)) 64) then some (Z.norm 64 s1.2 0)
 else none
 else none
 else none)) (0,(Z.rep 64 0))
def xQs : PFn:={ args:=[(.arr 64 (.int .u8))],res:=[(.arr 64 (.int .u32))],fn:=yX5 }
def uW3 : List LSpec×List Nat:=([{ id:=8200,known:=true,toks:=[],items:=[.slot 11 (.val (.int .i64)), .vec 1000005 (.int .u32)],junk:=[12,13,6,14,15,16,17,18,19,20,21,22,23,24,25,26,27,28,29,30,31,32,33,34,35,36,37,38,39,40,41,42,43,44,45,46,47,48,49,50,51,52,53,54,55,56,57,58,59,60,61,62,63,64,65,66,67,68,69,70,71,72],tails:=[] }],[])
def spt82 : Tab (List LSpec×List Nat):=(.node .leaf none (.node .leaf none (.node (.node (.node .leaf none (.node (.node .leaf (some uW3) .leaf) none .leaf)) none .leaf) none .leaf)))
def spf82 (f : Nat) : List LSpec×List Nat:=(spt82.get f).getD ([],[])
theorem wWa : zQz Tryd.prog cfg 82 xQs:=fnD spf82 (l:=[(87,zK2)]) zQ4 zQh (.cons zY4 .nil) (fun d=>by kernel_rfl)
def yK1 (d0 : List Int×Int) : Option (List Int) :=
 if (Z.In 0 8) then if (Z.Lt (Z.toN 0) (Z.len (Z.norm 8 d0.1 0))) then Z.bnd (Z.get (Z.norm 8 d0.1 0) (Z.toN 0) 0) fun x5 =>
 if (Z.In 1 8) then if (Z.Lt (Z.toN 1) (Z.len (Z.norm 8 d0.1 0))) then Z.bnd (Z.get (Z.norm 8 d0.1 0) (Z.toN 1) 0) fun x10 =>
 if (Z.In 2 8) then if (Z.Lt (Z.toN 2) (Z.len (Z.norm 8 d0.1 0))) then Z.bnd (Z.get (Z.norm 8 d0.1 0) (Z.toN 2) 0) fun x15 =>
 if (Z.In 3 8) then if (Z.Lt (Z.toN 3) (Z.len (Z.norm 8 d0.1 0))) then Z.bnd (Z.get (Z.norm 8 d0.1 0) (Z.toN 3) 0) fun x20 =>
 if (Z.In 4 8) then if (Z.Lt (Z.toN 4) (Z.len (Z.norm 8 d0.1 0))) then Z.bnd (Z.get (Z.norm 8 d0.1 0) (Z.toN 4) 0) fun x25 =>
 if (Z.In 5 8) then if (Z.Lt (Z.toN 5) (Z.len (Z.norm 8 d0.1 0))) then Z.bnd (Z.get (Z.norm 8 d0.1 0) (Z.toN 5) 0) fun x30 =>
 if (Z.In 6 8) then if (Z.Lt (Z.toN 6) (Z.len (Z.norm 8 d0.1 0))) then Z.bnd (Z.get (Z.norm 8 d0.1 0) (Z.toN 6) 0) fun x35 =>
 if (Z.In 7 8) then if (Z.Lt (Z.toN 7) (Z.len (Z.norm 8 d0.1 0))) then Z.bnd (Z.get (Z.norm 8 d0.1 0) (Z.toN 7) 0) fun x40 =>
 Z.bind (zXe (((6::(11::(25::([] : List Int)))),(false,())),x25)) fun x41 =>
 Z.bnd (Z.wrap .u32 (Z.add x40 x41)) fun x42 =>
 Z.bnd (Z.band .u32 x25 x30) fun x43 =>
 Z.bnd (Z.bxor .u32 4294967295 x25) fun x44 =>
 Z.bnd (Z.band .u32 x44 x35) fun x45 =>
 Z.bnd (Z.bxor .u32 x43 x45) fun x46 =>
 Z.bnd (Z.wrap .u32 (Z.add x42 x46)) fun x47 =>
 Z.bnd (Z.wrap .u32 (Z.add x47 d0.2)) fun x48 =>
 Z.bind (zXe (((2::(13::(22::([] : List Int)))),(false,())),x5)) fun x49 =>
 Z.bnd (Z.band .u32 x5 x10) fun x50 =>
 Z.bnd (Z.band .u32 x5 x15) fun x51 =>
 Z.bnd (Z.bxor .u32 x50 x51) fun x52 =>
 Z.bnd (Z.band .u32 x10 x15) fun x53 =>
 Z.bnd (Z.bxor .u32 x52 x53) fun x54 =>
 Z.bnd (Z.wrap .u32 (Z.add x49 x54)) fun x55 =>
 Z.bnd (Z.wrap .u32 (Z.add x48 x55)) fun x56 =>
 Z.bnd (Z.wrap .u32 (Z.add x20 x48)) fun x57 =>
 if (Z.EqN (Z.len (Z.rep 8 0)) (Z.len (x56::(x5::(x10::(x15::(x57::(x25::(x30::(x35::([] : List Int))))))))))) then if (Z.EqN (Z.len (x56::(x5::(x10::(x15::(x57::(x25::(x30::(x35::([] : List Int)))))))))) 8) then some (x56::(x5::(x10::(x15::(x57::(x25::(x30::(x35::([] : List Int)))))))))
 else none
 else none
 else none
 else none
 else none
 else none
 else none
 else none
 else none
 else none
 else none
 else none
 else none
 else none
 else none
 else none
 else none
 else none
def xZg : PFn:={ args:=[(.arr 8 (.int .u32)),(.int .u32)],res:=[(.arr 8 (.int .u32))],fn:=yK1 }
theorem wZc : zQz Tryd.prog cfg 83 xZg:=fnD sp0 (l:=[(87,zK2)]) zQ4 zQh (.cons zY4 .nil) (fun d=>by kernel_rfl)
def yQm (d0 : List Int×(List Int)) : Option (List Int) :=
 if (Z.EqN (Z.len (Z.norm 64 d0.2 0)) 64) then Z.bind (yX5 (Z.norm 64 d0.2 0)) fun x3 =>
 if (Z.EqN (Z.len (Z.rep 64 0)) 64) then if (Z.EqN (Z.len (Z.norm 8 d0.1 0)) 8) then if (Z.EqN (Z.len (Z.rep 8 0)) 8) then Z.loop (fun (s10 : Int×(List Int)) k11 =>
 (bif (Z.ilt s10.1 64) then if (Z.EqN (Z.len s10.2) 8) then if (Z.In s10.1 64) then Z.bnd (Z.get gl0 (Z.toN s10.1) 0) fun x16 =>
 if (Z.In s10.1 64) then if (Z.Lt (Z.toN s10.1) (Z.len (Z.norm 64 x3 0))) then Z.bnd (Z.get (Z.norm 64 x3 0) (Z.toN s10.1) 0) fun x21 =>
 Z.bnd (Z.wrap .u32 (Z.add x16 x21)) fun x22 =>
 Z.bind (yK1 (s10.2,x22)) fun x23 =>
 if (Z.EqN (Z.len s10.2) 8) then Z.bnd (Z.wrap .i64 (Z.add s10.1 1)) fun x26 =>
 k11 (x26,(Z.norm 8 x23 0))
 else none
 else none
 else none
 else none
 else none
 else Z.loop (fun (s27 : Int×(List Int)) k28 =>
 (bif (Z.ilt s27.1 8) then if (Z.In s27.1 8) then if (Z.Lt (Z.toN s27.1) (Z.len s27.2)) then Z.bnd (Z.get s27.2 (Z.toN s27.1) 0) fun x33 =>
 if (Z.In s27.1 8) then if (Z.Lt (Z.toN s27.1) (Z.len s10.2)) then Z.bnd (Z.get s10.2 (Z.toN s27.1) 0) fun x38 =>
 Z.bnd (Z.wrap .u32 (Z.add x33 x38)) fun x39 =>
 if (Z.In s27.1 8) then if (Z.Lt (Z.toN s27.1) (Z.len s27.2)) then Z.bnd (Z.set s27.2 (Z.toN s27.1) x39) fun x44 =>
 Z.bnd (Z.wrap .i64 (Z.add s27.1 1)) fun x45 =>
 k28 (x45,x44)
 else none
 else none
 else none
 else none
 else none
 else none
 else if (Z.EqN (Z.len s27.2) 8) then if (Z.EqN (Z.len (Z.rep 8 0)) 8) then if (Z.EqN (Z.len (Z.norm 8 s27.2 0)) 8) then some (Z.norm 8 s27.2 0)
 else none
 else none
 else none)) (0,(Z.norm 8 d0.1 0)))) (0,(Z.norm 8 (Z.norm 8 d0.1 0) 0))
 else none
 else none
 else none
 else none
def yYw : PFn:={ args:=[(.arr 8 (.int .u32)),(.arr 64 (.int .u8))],res:=[(.arr 8 (.int .u32))],fn:=yQm }
def uXc : List LSpec×List Nat:=([{ id:=6600,known:=true,toks:=[],items:=[.slot 12 (.val (.int .i64)), .vec 1000006 (.int .u32)],junk:=[13,14,7,15,16,17,18,19,20,21,22,23,24],tails:=[] },{ id:=6601,known:=true,toks:=[],items:=[.slot 25 (.val (.int .i64)), .vec 1000002 (.int .u32)],junk:=[26,27,8,28,29,30,31,32,33,34,35,36],tails:=[] }],[])
def spt66 : Tab (List LSpec×List Nat):=(.node .leaf none (.node .leaf none (.node (.node (.node (.node (.node .leaf (some uXc) .leaf) none .leaf) none .leaf) none .leaf) none .leaf)))
def spf66 (f : Nat) : List LSpec×List Nat:=(spt66.get f).getD ([],[])
theorem xZd : zQz Tryd.prog cfg 66 yYw:=fnD spf66 (l:=[(82,xQs),(83,xZg)]) zQ4 zQh (.cons wWa (.cons wZc .nil)) (fun d=>by kernel_rfl)
def zWg (d0 : List Int) : Option (List Int) :=
 if (Z.Le (Z.addN 0 0) (Z.len ([] : List Int))) then if (Z.Big (Z.len (Z.seg ([] : List Int) 0 0)) (Z.len d0) 1) then none
 else Z.bnd (Z.app (Z.seg ([] : List Int) 0 0) d0) fun x5 =>
 some x5
 else none
def zZv : PFn:={ args:=[(.list (.int .u8))],res:=[(.list (.int .u8))],fn:=zWg }
def cx67 : CloneX Tryd.prog cfg 67 5 (.int .u8) := clx xf67 5 (xf67.body.cOps.getD 0 ⟨none, .move (.tmp 0), 0, "", #[], none⟩) (xf67.body.cOps.getD 1 ⟨none, .move (.tmp 0), 0, "", #[], none⟩) (by kernel_rfl) (by kernel_rfl) (by kernel_rfl) (by kernel_rfl) (by kernel_rfl) (by kernel_rfl) (by kernel_rfl) (by kernel_rfl) (by kernel_rfl)
theorem zYk : zQz Tryd.prog cfg 67 zZv:=cloneD sp0 zQ4 zQh cx67 (of_decide_eq_true (by kernel_rfl)) (by kernel_rfl) (by kernel_rfl) (by kernel_rfl) (fun d=>by kernel_rfl) (fun d=>by kernel_rfl) (by kernel_rfl) (fun d r h=>by
  unfold zWg at h
  split at h
  · split at h
    · cases h
    · have h1 : some d = some r := h
      exact (Option.some.inj h1).symm
  · cases h)
def yK2 (d0 : (List Int×(List Int×(Int×Unit)))×(List Int)) : Option ((List Int×(List Int×(Int×Unit)))×Int) :=
 Z.bind (yWt (((Z.get d0.1.1 0 0)::((Z.get d0.1.1 1 0)::((Z.get d0.1.1 2 0)::((Z.get d0.1.1 3 0)::((Z.get d0.1.1 4 0)::((Z.get d0.1.1 5 0)::((Z.get d0.1.1 6 0)::((Z.get d0.1.1 7 0)::([] : List Int))))))))),(d0.1.2.1,(d0.1.2.2.1,())))) fun x1 =>
 (bif (Z.ine x1 0) then some (((0::(0::(0::(0::(0::(0::(0::(0::([] : List Int))))))))),(([] : List Int),(0,()))),x1)
 else Z.bnd (Z.wrap .u64 (Z.ofN (Z.len d0.2))) fun x2 =>
 Z.bnd (Z.wrap .u64 (Z.sub 72057594037927936 d0.1.2.2.1)) fun x3 =>
 (bif (Z.ige x2 x3) then some (((0::(0::(0::(0::(0::(0::(0::(0::([] : List Int))))))))),(([] : List Int),(0,()))),4)
 else Z.bnd (Z.wrap .u64 (Z.ofN (Z.len d0.2))) fun x4 =>
 Z.bnd (Z.wrap .u64 (Z.add d0.1.2.2.1 x4)) fun x5 =>
 if (Z.Le 64 (Z.len (Z.rep 64 0))) then if (Z.Lt 0 64) then if (Z.Le (Z.addN 0 (Z.subN 64 0)) (Z.len (Z.rep 64 0))) then Z.loop (fun (s12 : Int×(List Int×((Int×(Int×(Int×(Int×(Int×(Int×(Int×(Int×(List Int×Int)))))))))×(List Int)))) k13 =>
 if (Z.Le 64 (Z.len s12.2.2.2)) then if (Z.Bd s12.1 64) then if (Z.Lt (Z.toN s12.1) 64) then if (Z.Le (Z.addN (Z.toN s12.1) (Z.subN 64 (Z.toN s12.1))) (Z.len s12.2.2.2)) then Z.bnd (Z.wrap .i64 (Z.add s12.1 (Z.ofN (Z.minN (Z.len s12.2.1) (Z.subN 64 (Z.toN s12.1)))))) fun x22 =>
 if (Z.Bd (Z.ofN (Z.minN (Z.len s12.2.1) (Z.subN 64 (Z.toN s12.1)))) (Z.len s12.2.1)) then Z.bnd (Z.slice s12.2.1 (Z.toN (Z.ofN (Z.minN (Z.len s12.2.1) (Z.subN 64 (Z.toN s12.1))))) (Z.len s12.2.1)) fun x25 =>
 (bif (Z.ilt x22 64) then if (Z.Le 64 (Z.len (Z.put s12.2.2.2 (Z.toN s12.1) (Z.take (Z.minN (Z.len s12.2.1) (Z.subN 64 (Z.toN s12.1))) s12.2.1)))) then if (Z.Bd x22 64) then if (Z.Lt 0 64) then if (Z.Le (Z.addN 0 (Z.subN (Z.toN x22) 0)) (Z.len (Z.put s12.2.2.2 (Z.toN s12.1) (Z.take (Z.minN (Z.len s12.2.1) (Z.subN 64 (Z.toN s12.1))) s12.2.1)))) then if (Z.EqN (Z.len (Z.seg (Z.put s12.2.2.2 (Z.toN s12.1) (Z.take (Z.minN (Z.len s12.2.1) (Z.subN 64 (Z.toN s12.1))) s12.2.1)) 0 (Z.subN (Z.toN x22) 0))) 0) then if (Z.Le (Z.addN 0 (Z.subN (Z.toN x22) 0)) (Z.len (Z.put s12.2.2.2 (Z.toN s12.1) (Z.take (Z.minN (Z.len s12.2.1) (Z.subN 64 (Z.toN s12.1))) s12.2.1)))) then Z.bind (zWg (Z.seg (Z.put s12.2.2.2 (Z.toN s12.1) (Z.take (Z.minN (Z.len s12.2.1) (Z.subN 64 (Z.toN s12.1))) s12.2.1)) 0 (Z.subN (Z.toN x22) 0))) fun x38 =>
 if (Z.EqN (Z.len x38) 0) then some (((s12.2.2.1.1::(s12.2.2.1.2.1::(s12.2.2.1.2.2.1::(s12.2.2.1.2.2.2.1::(s12.2.2.1.2.2.2.2.1::(s12.2.2.1.2.2.2.2.2.1::(s12.2.2.1.2.2.2.2.2.2.1::(s12.2.2.1.2.2.2.2.2.2.2.1::([] : List Int))))))))),(x38,(s12.2.2.1.2.2.2.2.2.2.2.2.2,()))),0)
 else none
 else none
 else if (Z.Le (Z.addN 0 (Z.subN (Z.toN x22) 0)) (Z.len (Z.put s12.2.2.2 (Z.toN s12.1) (Z.take (Z.minN (Z.len s12.2.1) (Z.subN 64 (Z.toN s12.1))) s12.2.1)))) then if (Z.Le (Z.addN 0 0) (Z.len ([] : List Int))) then if (Z.EqN (Z.len (Z.seg (Z.put s12.2.2.2 (Z.toN s12.1) (Z.take (Z.minN (Z.len s12.2.1) (Z.subN 64 (Z.toN s12.1))) s12.2.1)) 0 (Z.subN (Z.toN x22) 0))) 0) then if (Z.Le (Z.addN 0 0) (Z.len ([] : List Int))) then some (((s12.2.2.1.1::(s12.2.2.1.2.1::(s12.2.2.1.2.2.1::(s12.2.2.1.2.2.2.1::(s12.2.2.1.2.2.2.2.1::(s12.2.2.1.2.2.2.2.2.1::(s12.2.2.1.2.2.2.2.2.2.1::(s12.2.2.1.2.2.2.2.2.2.2.1::([] : List Int))))))))),((Z.seg ([] : List Int) 0 0),(s12.2.2.1.2.2.2.2.2.2.2.2.2,()))),0)
 else none
 else if (Z.Big (Z.len (Z.seg ([] : List Int) 0 0)) (Z.len (Z.seg (Z.put s12.2.2.2 (Z.toN s12.1) (Z.take (Z.minN (Z.len s12.2.1) (Z.subN 64 (Z.toN s12.1))) s12.2.1)) 0 (Z.subN (Z.toN x22) 0))) 1) then none
 else Z.bnd (Z.app (Z.seg ([] : List Int) 0 0) (Z.seg (Z.put s12.2.2.2 (Z.toN s12.1) (Z.take (Z.minN (Z.len s12.2.1) (Z.subN 64 (Z.toN s12.1))) s12.2.1)) 0 (Z.subN (Z.toN x22) 0))) fun x51 =>
 if (Z.Le (Z.addN 0 (Z.len x51)) (Z.len x51)) then some (((s12.2.2.1.1::(s12.2.2.1.2.1::(s12.2.2.1.2.2.1::(s12.2.2.1.2.2.2.1::(s12.2.2.1.2.2.2.2.1::(s12.2.2.1.2.2.2.2.2.1::(s12.2.2.1.2.2.2.2.2.2.1::(s12.2.2.1.2.2.2.2.2.2.2.1::([] : List Int))))))))),((Z.seg x51 0 (Z.len x51)),(s12.2.2.1.2.2.2.2.2.2.2.2.2,()))),0)
 else none
 else none
 else none
 else none
 else if (Z.EqN (Z.len ([] : List Int)) 0) then Z.bind (zWg ([] : List Int)) fun x56 =>
 if (Z.EqN (Z.len x56) 0) then some (((s12.2.2.1.1::(s12.2.2.1.2.1::(s12.2.2.1.2.2.1::(s12.2.2.1.2.2.2.1::(s12.2.2.1.2.2.2.2.1::(s12.2.2.1.2.2.2.2.2.1::(s12.2.2.1.2.2.2.2.2.2.1::(s12.2.2.1.2.2.2.2.2.2.2.1::([] : List Int))))))))),(x56,(s12.2.2.1.2.2.2.2.2.2.2.2.2,()))),0)
 else none
 else if (Z.EqN (Z.len ([] : List Int)) 0) then none
 else if (Z.Le (Z.addN 0 0) (Z.len ([] : List Int))) then if (Z.EqN (Z.len ([] : List Int)) 0) then if (Z.Le (Z.addN 0 0) (Z.len ([] : List Int))) then some (((s12.2.2.1.1::(s12.2.2.1.2.1::(s12.2.2.1.2.2.1::(s12.2.2.1.2.2.2.1::(s12.2.2.1.2.2.2.2.1::(s12.2.2.1.2.2.2.2.2.1::(s12.2.2.1.2.2.2.2.2.2.1::(s12.2.2.1.2.2.2.2.2.2.2.1::([] : List Int))))))))),((Z.seg ([] : List Int) 0 0),(s12.2.2.1.2.2.2.2.2.2.2.2.2,()))),0)
 else none
 else if (Z.Big (Z.len (Z.seg ([] : List Int) 0 0)) (Z.len ([] : List Int)) 1) then none
 else Z.bnd (Z.app (Z.seg ([] : List Int) 0 0) ([] : List Int)) fun x69 =>
 if (Z.Le (Z.addN 0 (Z.len x69)) (Z.len x69)) then some (((s12.2.2.1.1::(s12.2.2.1.2.1::(s12.2.2.1.2.2.1::(s12.2.2.1.2.2.2.1::(s12.2.2.1.2.2.2.2.1::(s12.2.2.1.2.2.2.2.2.1::(s12.2.2.1.2.2.2.2.2.2.1::(s12.2.2.1.2.2.2.2.2.2.2.1::([] : List Int))))))))),((Z.seg x69 0 (Z.len x69)),(s12.2.2.1.2.2.2.2.2.2.2.2.2,()))),0)
 else none
 else none
 else none
 else none
 else if (Z.EqN (Z.len (Z.put s12.2.2.2 (Z.toN s12.1) (Z.take (Z.minN (Z.len s12.2.1) (Z.subN 64 (Z.toN s12.1))) s12.2.1))) 64) then Z.bind (yQm ((s12.2.2.1.1::(s12.2.2.1.2.1::(s12.2.2.1.2.2.1::(s12.2.2.1.2.2.2.1::(s12.2.2.1.2.2.2.2.1::(s12.2.2.1.2.2.2.2.2.1::(s12.2.2.1.2.2.2.2.2.2.1::(s12.2.2.1.2.2.2.2.2.2.2.1::([] : List Int))))))))),(Z.put s12.2.2.2 (Z.toN s12.1) (Z.take (Z.minN (Z.len s12.2.1) (Z.subN 64 (Z.toN s12.1))) s12.2.1)))) fun x74 =>
 k13 (0,(x25,(((Z.get x74 0 0),((Z.get x74 1 0),((Z.get x74 2 0),((Z.get x74 3 0),((Z.get x74 4 0),((Z.get x74 5 0),((Z.get x74 6 0),((Z.get x74 7 0),(s12.2.2.1.2.2.2.2.2.2.2.2.1,s12.2.2.1.2.2.2.2.2.2.2.2.2))))))))),(Z.put s12.2.2.2 (Z.toN s12.1) (Z.take (Z.minN (Z.len s12.2.1) (Z.subN 64 (Z.toN s12.1))) s12.2.1)))))
 else none)
 else none
 else none
 else none
 else none
 else none) ((Z.ofN (Z.minN (Z.len d0.1.2.1) (Z.subN 64 0))),(d0.2,(((Z.get d0.1.1 0 0),((Z.get d0.1.1 1 0),((Z.get d0.1.1 2 0),((Z.get d0.1.1 3 0),((Z.get d0.1.1 4 0),((Z.get d0.1.1 5 0),((Z.get d0.1.1 6 0),((Z.get d0.1.1 7 0),(([] : List Int),x5))))))))),(Z.put (Z.rep 64 0) 0 (Z.take (Z.minN (Z.len d0.1.2.1) (Z.subN 64 0)) d0.1.2.1)))))
 else none
 else none
 else none))
def xYk : PFn:={ args:=[(.pair (.arr 8 (.int .u32)) (.pair (.list (.int .u8)) (.pair (.int .u64) .unit))),(.list (.int .u8))],res:=[(.pair (.arr 8 (.int .u32)) (.pair (.list (.int .u8)) (.pair (.int .u64) .unit))),(.int .i64)],fn:=yK2 }
def uXi : List LSpec×List Nat:=([],[3])
def uXj : List LSpec×List Nat:=([{ id:=4100,known:=true,toks:=[(4002008,(.int .u8))],items:=[.slot 9 (.val (.int .i64)), .slot 1 (.val (.list (.int .u8))), .cells 1000007 [.val (.int .u32), .val (.int .u32), .val (.int .u32), .val (.int .u32), .val (.int .u32), .val (.int .u32), .val (.int .u32), .val (.int .u32), .val (.list (.int .u8)), .val (.int .u64)], .vec 1000008 (.int .u8)],junk:=[38,39,40,41,10,42,43,44,45,46,47,48,49,50,51,52,53,54],tails:=[] }],[])
def spt41 : Tab (List LSpec×List Nat):=(.node (.node (.node .leaf none (.node (.node (.node (.node .leaf (some uXi) .leaf) none .leaf) none .leaf) none .leaf)) none (.node (.node .leaf none (.node (.node .leaf (some uXj) .leaf) none .leaf)) none .leaf)) none .leaf)
def spf41 (f : Nat) : List LSpec×List Nat:=(spt41.get f).getD ([],[])
def xYs : OFn:={ args:=[(.pair (.arr 8 (.int .u32)) (.pair (.list (.int .u8)) (.pair (.int .u64) .unit))),(.list (.int .u8))],ores:=[(.pair (.plain (.arr 8 (.int .u32))) (.pair (.own (.int .u8)) (.pair (.plain (.int .u64)) (.plain .unit)))),(.plain (.int .i64))],fn:=yK2 }
theorem wJj : OwnD Tryd.prog cfg 41 xYs∧zQz Tryd.prog cfg 41 xYs.pfn:=fnO spf41 [67] (l:=[(65,yKe),(67,zZv),(66,yYw)]) (lo:=[]) zQ4 zQh (.cons xQn (.cons zYk (.cons xZd .nil))) .nil (fun d=>by kernel_rfl)
theorem wJa : zQz Tryd.prog cfg 41 xYk:=wJj.2
def yK0 (d0 : List Int) : Option (List Int) :=
 if (Z.EqN (Z.len (Z.norm 8 d0 0)) 8) then Z.loop (fun (s3 : Int×(List Int)) k4 =>
 (bif (Z.ilt s3.1 8) then if (Z.In s3.1 8) then Z.bnd (Z.get (Z.norm 8 d0 0) (Z.toN s3.1) 0) fun x7 =>
 Z.loop (fun (s8 : Int×(List Int)) k9 =>
 (bif (Z.ilt s8.1 4) then Z.bnd (Z.wrap .i64 (Z.mul 4 s3.1)) fun x10 =>
 Z.bnd (Z.wrap .i64 (Z.add x10 s8.1)) fun x11 =>
 Z.bnd (Z.wrap .i64 (Z.mul 8 s8.1)) fun x12 =>
 Z.bnd (Z.wrap .i64 (Z.sub 24 x12)) fun x13 =>
 if (Z.Neg x13) then none
 else Z.bnd (Z.shr .u32 x7 x13) fun x16 =>
 Z.bnd (Z.wrap .u8 x16) fun x17 =>
 if (Z.In x11 32) then if (Z.Lt (Z.toN x11) (Z.len s8.2)) then Z.bnd (Z.set s8.2 (Z.toN x11) x17) fun x22 =>
 Z.bnd (Z.wrap .i64 (Z.add s8.1 1)) fun x23 =>
 k9 (x23,x22)
 else none
 else none
 else Z.bnd (Z.wrap .i64 (Z.add s3.1 1)) fun x24 =>
 k4 (x24,s8.2))) (0,s3.2)
 else none
 else if (Z.EqN (Z.len s3.2) 32) then if (Z.EqN (Z.len (Z.rep 32 0)) 32) then if (Z.EqN (Z.len (Z.norm 32 s3.2 0)) 32) then some (Z.norm 32 s3.2 0)
 else none
 else none
 else none)) (0,(Z.rep 32 0))
 else none
def xYj : PFn:={ args:=[(.arr 8 (.int .u32))],res:=[(.arr 32 (.int .u8))],fn:=yK0 }
def uXb : List LSpec×List Nat:=([{ id:=6800,known:=true,toks:=[],items:=[.slot 8 (.val (.int .i64)), .vec 1000003 (.int .u8)],junk:=[9,10,11,4,5,12,13,14,6,15,16,17,18,19,20,21,22,23,24,25,26,27],tails:=[] },{ id:=6801,known:=true,toks:=[],items:=[.slot 12 (.val (.int .i64)), .vec 1000003 (.int .u8)],junk:=[13,14,6,15,16,17,18,19,20,21,22,23,24,25,26],tails:=[] }],[])
def spt68 : Tab (List LSpec×List Nat):=(.node .leaf none (.node (.node .leaf none (.node (.node (.node (.node .leaf (some uXb) .leaf) none .leaf) none .leaf) none .leaf)) none .leaf))
def spf68 (f : Nat) : List LSpec×List Nat:=(spt68.get f).getD ([],[])
theorem wK9 : zQz Tryd.prog cfg 68 xYj:=fnD spf68 (l:=[]) zQ4 zQh .nil (fun d=>by kernel_rfl)
def wQw (d0 : List Int×(List Int×(Int×Unit))) : Option (List Int×Int) :=
 Z.bind (yWt (((Z.get d0.1 0 0)::((Z.get d0.1 1 0)::((Z.get d0.1 2 0)::((Z.get d0.1 3 0)::((Z.get d0.1 4 0)::((Z.get d0.1 5 0)::((Z.get d0.1 6 0)::((Z.get d0.1 7 0)::([] : List Int))))))))),(d0.2.1,(d0.2.2.1,())))) fun x1 =>
 (bif (Z.ine x1 0) then if (Z.EqN (Z.len (Z.rep 32 0)) (Z.len z32n)) then if (Z.EqN (Z.len z32n) 32) then some (z32n,x1)
 else none
 else none
 else if (Z.EqN (Z.len (Z.rep 8 0)) (Z.len ((Z.get d0.1 0 0)::((Z.get d0.1 1 0)::((Z.get d0.1 2 0)::((Z.get d0.1 3 0)::((Z.get d0.1 4 0)::((Z.get d0.1 5 0)::((Z.get d0.1 6 0)::((Z.get d0.1 7 0)::([] : List Int))))))))))) then if (Z.Le 64 (Z.len (Z.rep 64 0))) then if (Z.Lt 0 64) then if (Z.Le (Z.addN 0 (Z.subN 64 0)) (Z.len (Z.rep 64 0))) then if (Z.In (Z.ofN (Z.minN (Z.len d0.2.1) (Z.subN 64 0))) 64) then if (Z.Lt (Z.toN (Z.ofN (Z.minN (Z.len d0.2.1) (Z.subN 64 0)))) (Z.len (Z.put (Z.rep 64 0) 0 (Z.take (Z.minN (Z.len d0.2.1) (Z.subN 64 0)) d0.2.1)))) then Z.bnd (Z.set (Z.put (Z.rep 64 0) 0 (Z.take (Z.minN (Z.len d0.2.1) (Z.subN 64 0)) d0.2.1)) (Z.toN (Z.ofN (Z.minN (Z.len d0.2.1) (Z.subN 64 0)))) 128) fun x18 =>
 (bif (Z.ige (Z.ofN (Z.minN (Z.len d0.2.1) (Z.subN 64 0))) 56) then if (Z.EqN (Z.len ((Z.get d0.1 0 0)::((Z.get d0.1 1 0)::((Z.get d0.1 2 0)::((Z.get d0.1 3 0)::((Z.get d0.1 4 0)::((Z.get d0.1 5 0)::((Z.get d0.1 6 0)::((Z.get d0.1 7 0)::([] : List Int)))))))))) 8) then if (Z.EqN (Z.len x18) 64) then Z.bind (yQm (((Z.get d0.1 0 0)::((Z.get d0.1 1 0)::((Z.get d0.1 2 0)::((Z.get d0.1 3 0)::((Z.get d0.1 4 0)::((Z.get d0.1 5 0)::((Z.get d0.1 6 0)::((Z.get d0.1 7 0)::([] : List Int))))))))),x18)) fun x23 =>
 if (Z.EqN (Z.len ((Z.get d0.1 0 0)::((Z.get d0.1 1 0)::((Z.get d0.1 2 0)::((Z.get d0.1 3 0)::((Z.get d0.1 4 0)::((Z.get d0.1 5 0)::((Z.get d0.1 6 0)::((Z.get d0.1 7 0)::([] : List Int)))))))))) 8) then if (Z.EqN (Z.len x18) (Z.len (0::(0::(0::(0::(0::(0::(0::(0::(0::(0::(0::(0::(0::(0::(0::(0::(0::(0::(0::(0::(0::(0::(0::(0::(0::(0::(0::(0::(0::(0::(0::(0::z32n)))))))))))))))))))))))))))))))))) then Z.loop (fun (s28 : Int×(List Int)) k29 =>
 (bif (Z.ilt s28.1 8) then Z.bnd (Z.wrap .i64 (Z.sub 63 s28.1)) fun x30 =>
 Z.bnd (Z.wrap .u64 (Z.mul 8 d0.2.2.1)) fun x31 =>
 Z.bnd (Z.wrap .i64 (Z.mul 8 s28.1)) fun x32 =>
 if (Z.Neg x32) then none
 else Z.bnd (Z.shr .u64 x31 x32) fun x35 =>
 Z.bnd (Z.wrap .u8 x35) fun x36 =>
 if (Z.In x30 64) then if (Z.Lt (Z.toN x30) (Z.len s28.2)) then Z.bnd (Z.set s28.2 (Z.toN x30) x36) fun x41 =>
 Z.bnd (Z.wrap .i64 (Z.add s28.1 1)) fun x42 =>
 k29 (x42,x41)
 else none
 else none
 else if (Z.EqN (Z.len (Z.norm 8 x23 0)) 8) then if (Z.EqN (Z.len s28.2) 64) then Z.bind (yQm ((Z.norm 8 x23 0),s28.2)) fun x47 =>
 Z.bind (yK0 x47) fun x48 =>
 if (Z.EqN (Z.len (Z.rep 32 0)) 32) then if (Z.EqN (Z.len (Z.norm 32 x48 0)) 32) then some ((Z.norm 32 x48 0),0)
 else none
 else none
 else none
 else none)) (0,(0::(0::(0::(0::(0::(0::(0::(0::(0::(0::(0::(0::(0::(0::(0::(0::(0::(0::(0::(0::(0::(0::(0::(0::(0::(0::(0::(0::(0::(0::(0::(0::z32n)))))))))))))))))))))))))))))))))
 else none
 else none
 else none
 else none
 else Z.loop (fun (s53 : Int×(List Int)) k54 =>
 (bif (Z.ilt s53.1 8) then Z.bnd (Z.wrap .i64 (Z.sub 63 s53.1)) fun x55 =>
 Z.bnd (Z.wrap .u64 (Z.mul 8 d0.2.2.1)) fun x56 =>
 Z.bnd (Z.wrap .i64 (Z.mul 8 s53.1)) fun x57 =>
 if (Z.Neg x57) then none
 else Z.bnd (Z.shr .u64 x56 x57) fun x60 =>
 Z.bnd (Z.wrap .u8 x60) fun x61 =>
 if (Z.In x55 64) then if (Z.Lt (Z.toN x55) (Z.len s53.2)) then Z.bnd (Z.set s53.2 (Z.toN x55) x61) fun x66 =>
 Z.bnd (Z.wrap .i64 (Z.add s53.1 1)) fun x67 =>
 k54 (x67,x66)
 else none
 else none
 else if (Z.EqN (Z.len ((Z.get d0.1 0 0)::((Z.get d0.1 1 0)::((Z.get d0.1 2 0)::((Z.get d0.1 3 0)::((Z.get d0.1 4 0)::((Z.get d0.1 5 0)::((Z.get d0.1 6 0)::((Z.get d0.1 7 0)::([] : List Int)))))))))) 8) then if (Z.EqN (Z.len s53.2) 64) then Z.bind (yQm (((Z.get d0.1 0 0)::((Z.get d0.1 1 0)::((Z.get d0.1 2 0)::((Z.get d0.1 3 0)::((Z.get d0.1 4 0)::((Z.get d0.1 5 0)::((Z.get d0.1 6 0)::((Z.get d0.1 7 0)::([] : List Int))))))))),s53.2)) fun x72 =>
 Z.bind (yK0 x72) fun x73 =>
 if (Z.EqN (Z.len (Z.rep 32 0)) 32) then if (Z.EqN (Z.len (Z.norm 32 x73 0)) 32) then some ((Z.norm 32 x73 0),0)
 else none
 else none
 else none
 else none)) (0,x18))
 else none
 else none
 else none
 else none
 else none
 else none)
def wZo : PFn:={ args:=[(.pair (.arr 8 (.int .u32)) (.pair (.list (.int .u8)) (.pair (.int .u64) .unit)))],res:=[(.arr 32 (.int .u8)),(.int .i64)],fn:=wQw }
def uXh : List LSpec×List Nat:=([{ id:=4200,known:=true,toks:=[],items:=[.slot 29 (.val (.int .i64)), .vec 1000006 (.int .u8)],junk:=[30,31,8,32,33,34,35,36,37,38,39,40,41,42],tails:=[] }],[])
def spt42 : Tab (List LSpec×List Nat):=(.node .leaf none (.node .leaf none (.node (.node .leaf none (.node (.node .leaf (some uXh) .leaf) none .leaf)) none .leaf)))
def spf42 (f : Nat) : List LSpec×List Nat:=(spt42.get f).getD ([],[])
theorem vW0 : zQz Tryd.prog cfg 42 wZo:=fnD spf42 (l:=[(65,yKe),(66,yYw),(68,xYj)]) zQ4 zQh (.cons xQn (.cons xZd (.cons wK9 .nil))) (fun d=>by kernel_rfl)
def wX7 (d0 : List (List Int)) : Option (List Int) :=
 Z.bind (yK3 ()) fun x1 =>
 Z.loop (fun (s2 : Int×(Int×(Int×(Int×(Int×(Int×(Int×(Int×(Int×(List Int×Int)))))))))) k3 =>
 (bif (Z.ilt s2.1 (Z.ofN (Z.len d0))) then if (Z.Ix s2.1 (Z.len d0)) then Z.bnd (Z.get d0 (Z.toN s2.1) ([] : List Int)) fun x6 =>
 Z.bind (yK2 (((s2.2.1::(s2.2.2.1::(s2.2.2.2.1::(s2.2.2.2.2.1::(s2.2.2.2.2.2.1::(s2.2.2.2.2.2.2.1::(s2.2.2.2.2.2.2.2.1::(s2.2.2.2.2.2.2.2.2.1::([] : List Int))))))))),(s2.2.2.2.2.2.2.2.2.2.1,(s2.2.2.2.2.2.2.2.2.2.2,()))),x6)) fun x7 =>
 Z.bnd (Z.wrap .i64 (Z.add s2.1 1)) fun x8 =>
 k3 (x8,((Z.get x7.1.1 0 0),((Z.get x7.1.1 1 0),((Z.get x7.1.1 2 0),((Z.get x7.1.1 3 0),((Z.get x7.1.1 4 0),((Z.get x7.1.1 5 0),((Z.get x7.1.1 6 0),((Z.get x7.1.1 7 0),(x7.1.2.1,x7.1.2.2.1))))))))))
 else none
 else Z.bind (wQw ((s2.2.1::(s2.2.2.1::(s2.2.2.2.1::(s2.2.2.2.2.1::(s2.2.2.2.2.2.1::(s2.2.2.2.2.2.2.1::(s2.2.2.2.2.2.2.2.1::(s2.2.2.2.2.2.2.2.2.1::([] : List Int))))))))),(s2.2.2.2.2.2.2.2.2.2.1,(s2.2.2.2.2.2.2.2.2.2.2,())))) fun x9 =>
 if (Z.EqN (Z.len (Z.rep 32 0)) 32) then if (Z.EqN (Z.len (Z.norm 32 x9.1 0)) 32) then if (Z.EqN (Z.len (Z.rep 32 0)) 32) then if (Z.EqN (Z.len (Z.norm 32 (Z.norm 32 x9.1 0) 0)) 32) then some (Z.norm 32 (Z.norm 32 x9.1 0) 0)
 else none
 else none
 else none
 else none)) (0,((Z.get x1.1 0 0),((Z.get x1.1 1 0),((Z.get x1.1 2 0),((Z.get x1.1 3 0),((Z.get x1.1 4 0),((Z.get x1.1 5 0),((Z.get x1.1 6 0),((Z.get x1.1 7 0),(x1.2.1,x1.2.2.1))))))))))
def wY7 : PFn:={ args:=[(.list (.list (.int .u8)))],res:=[(.arr 32 (.int .u8))],fn:=wX7 }
def uXu : List LSpec×List Nat:=([{ id:=2200,known:=true,toks:=[],items:=[.slot 11 (.val (.int .i64)), .cells 1000003 [.val (.int .u32), .val (.int .u32), .val (.int .u32), .val (.int .u32), .val (.int .u32), .val (.int .u32), .val (.int .u32), .val (.int .u32), .val (.list (.int .u8)), .val (.int .u64)]],junk:=[12,13,14,5,16,17,18,15,19,20,21],tails:=[] }],[])
def spt22 : Tab (List LSpec×List Nat):=(.node .leaf none (.node .leaf none (.node .leaf none (.node (.node .leaf (some uXu) .leaf) none .leaf))))
def spf22 (f : Nat) : List LSpec×List Nat:=(spt22.get f).getD ([],[])
theorem vZy : zQz Tryd.prog cfg 22 wY7:=fnD spf22 (l:=[(40,xZh),(41,xYk),(42,wZo)]) zQ4 zQh (.cons wZd (.cons wJa (.cons vW0 .nil))) (fun d=>by kernel_rfl)
def yX1 (d0 : TCf×(List Int×((List (List Int×(List LBk×Unit)))×(List Int×(Int×(Int×Unit)))))) : Option (List Int×Int) :=
 Z.bind (yJd ((pCf d0.1),(pLv d0.2.2))) fun x1 =>
 (bif (Z.ine x1 0) then some (([] : List Int),x1)
 else Z.bind (zZq (pCf d0.1)) fun x2 =>
 (bif (Z.ine x2.2 0) then some (([] : List Int),x2.2)
 else if (Z.EqN 0 (Z.len ([] : List Int))) then Z.loop (fun (s5 : Int×(List Int)) k6 =>
 (bif (Z.ilt s5.1 (Z.ofN (Z.len x2.1))) then if (Z.Ix s5.1 (Z.len x2.1)) then Z.bnd (Z.get x2.1 (Z.toN s5.1) zLv) fun x9 =>
 if (Z.Ix s5.1 (Z.len d0.2.2.1)) then Z.bnd (Z.get d0.2.2.1 (Z.toN s5.1) (z32n,(([] : List LBk),()))) fun x12 =>
 (bif (Z.igt (Z.ofN (Z.len x12.2.1)) d0.1.2.2.2.2.1) then some (([] : List Int),4)
 else if (Z.Big (Z.len s5.2) (Z.len (n32 x12.1)) 1) then none
 else if (Z.EqN (Z.len s5.2) (Z.len s5.2)) then Z.bnd (Z.app s5.2 (n32 x12.1)) fun x17 =>
 if (Z.EqN (Z.len x17) (Z.len x17)) then Z.loop (fun (s20 : Int×(List Int)) k21 =>
 (bif (Z.ilt s20.1 d0.1.2.2.2.2.1) then Z.bind (zYt (pLv x9)) fun x22 =>
 (bif (Z.ilt s20.1 (Z.ofN (Z.len x12.2.1))) then if (Z.Ix s20.1 (Z.len x12.2.1)) then Z.bnd (Z.get x12.2.1 (Z.toN s20.1) (0,(0,(([] : List Int),())))) fun x25 =>
 Z.bind (zJo ((pLv x9),(x25.1,(x25.2.1,(x25.2.2.1,()))))) fun x26 =>
 if (Z.Big (Z.len s20.2) (Z.len x26.1) 1) then none
 else if (Z.EqN (Z.len s20.2) (Z.len s20.2)) then Z.bnd (Z.app s20.2 x26.1) fun x31 =>
 Z.bnd (Z.wrap .i64 (Z.add s20.1 1)) fun x32 =>
 if (Z.EqN (Z.len x31) (Z.len x31)) then k21 (x32,x31)
 else none
 else none
 else none
 else if (Z.Big (Z.len s20.2) (Z.len x22.1) 1) then none
 else if (Z.EqN (Z.len s20.2) (Z.len s20.2)) then Z.bnd (Z.app s20.2 x22.1) fun x39 =>
 Z.bnd (Z.wrap .i64 (Z.add s20.1 1)) fun x40 =>
 if (Z.EqN (Z.len x39) (Z.len x39)) then k21 (x40,x39)
 else none
 else none)
 else Z.bnd (Z.wrap .i64 (Z.add s5.1 1)) fun x43 =>
 if (Z.EqN (Z.len s20.2) (Z.len s20.2)) then k6 (x43,s20.2)
 else none)) (0,x17)
 else none
 else none)
 else none
 else none
 else Z.bnd (Z.wrap .i64 (Z.sub (Z.ofN (Z.len x2.1)) 1)) fun x46 =>
 if (Z.Ix x46 (Z.len x2.1)) then Z.bnd (Z.get x2.1 (Z.toN x46) zLv) fun x49 =>
 if (Z.EqN (Z.len s5.2) (Z.len s5.2)) then Z.loop (fun (s52 : Int×(List Int)) k53 =>
 (bif (Z.ilt s52.1 (Z.ofN (Z.len d0.2.2.2.1))) then if (Z.Ix s52.1 (Z.len d0.2.2.2.1)) then Z.bnd (Z.get d0.2.2.2.1 (Z.toN s52.1) 0) fun x56 =>
 Z.bind (zJ3 (x49.2.2.1,x56)) fun x57 =>
 (bif (Z.ine x57.2 0) then some (([] : List Int),x57.2)
 else if (Z.Big (Z.len s52.2) (Z.len x57.1) 1) then none
 else if (Z.EqN (Z.len s52.2) (Z.len s52.2)) then Z.bnd (Z.app s52.2 x57.1) fun x62 =>
 Z.bnd (Z.wrap .i64 (Z.add s52.1 1)) fun x63 =>
 if (Z.EqN (Z.len x62) (Z.len x62)) then k53 (x63,x62)
 else none
 else none)
 else none
 else if (Z.Le 32 (Z.len (Z.norm 32 d0.2.1 0))) then if (Z.Lt 0 32) then if (Z.Le (Z.addN 0 (Z.subN 32 0)) (Z.len (Z.norm 32 d0.2.1 0))) then Z.bind (wX7 ((Z.seg (Z.norm 32 d0.2.1 0) 0 (Z.subN 32 0))::(s52.2::([] : List (List Int))))) fun x72 =>
 if (Z.EqN (Z.len (Z.rep 32 0)) 32) then if (Z.Le 32 (Z.len (Z.norm 32 x72 0))) then if (Z.Lt 0 32) then if (Z.Le (Z.addN 0 (Z.subN 32 0)) (Z.len (Z.norm 32 x72 0))) then if (Z.Big (Z.len s52.2) (Z.len (Z.seg (Z.norm 32 x72 0) 0 (Z.subN 32 0))) 1) then none
 else if (Z.EqN (Z.len s52.2) (Z.len s52.2)) then Z.bnd (Z.app s52.2 (Z.seg (Z.norm 32 x72 0) 0 (Z.subN 32 0))) fun x85 =>
 some (x85,0)
 else none
 else none
 else if (Z.Big (Z.len s52.2) (Z.len ([] : List Int)) 1) then none
 else if (Z.EqN (Z.len s52.2) (Z.len s52.2)) then Z.bnd (Z.app s52.2 ([] : List Int)) fun x90 =>
 some (x90,0)
 else none
 else none
 else none
 else none
 else Z.bind (wX7 (([] : List Int)::(s52.2::([] : List (List Int))))) fun x91 =>
 if (Z.EqN (Z.len (Z.rep 32 0)) 32) then if (Z.Le 32 (Z.len (Z.norm 32 x91 0))) then if (Z.Lt 0 32) then if (Z.Le (Z.addN 0 (Z.subN 32 0)) (Z.len (Z.norm 32 x91 0))) then if (Z.Big (Z.len s52.2) (Z.len (Z.seg (Z.norm 32 x91 0) 0 (Z.subN 32 0))) 1) then none
 else if (Z.EqN (Z.len s52.2) (Z.len s52.2)) then Z.bnd (Z.app s52.2 (Z.seg (Z.norm 32 x91 0) 0 (Z.subN 32 0))) fun x104 =>
 some (x104,0)
 else none
 else none
 else if (Z.Big (Z.len s52.2) (Z.len ([] : List Int)) 1) then none
 else if (Z.EqN (Z.len s52.2) (Z.len s52.2)) then Z.bnd (Z.app s52.2 ([] : List Int)) fun x109 =>
 some (x109,0)
 else none
 else none
 else none
 else none)) (0,s5.2)
 else none
 else none)) (0,([] : List Int))
 else none))
def xQp : PFn:={ args:=[cCf,(.arr 32 (.int .u8)),(.pair (.list (.pair (.arr 32 (.int .u8)) (.pair (.list cBk) .unit))) (.pair (.list (.int .i64)) (.pair (.int .u64) (.pair (.int .u64) .unit))))],res:=[(.list (.int .u8)),(.int .i64)],fn:=yX1 }
def sp8_55 : List LSpec×List Nat:=([{ id:=5500,known:=true,toks:=[(2005000,(.int .u8))],items:=[.slot 7 (.val (.int .i64)), .cells 5 [.slt (.int .u8) (some 2005000) false]],junk:=[8,9,10,11,4,3,12,13,14,15,16,17],tails:=[(2005000,2005000)] }],[])
def sp8_8 : List LSpec×List Nat:=([{ id:=800,known:=true,toks:=[],items:=[.slot 59 (.val (.int .i64)), .cells 1000011 [.slt (.int .u8) (some 3011000) false]],junk:=[60,61,15,63,64,62,65,66,16,17,67,68,69,70,71,73,74,75,76,77,78,79,72,80,81,82,83,84,85],tails:=[(3011000,3011000)] },{ id:=801,known:=true,toks:=[],items:=[.slot 95 (.val (.int .i64)), .cells 1000011 [.slt (.int .u8) (some 3011000) false]],junk:=[96,97,98,20,100,101,102,103,99,104,105,21,22,106,107,108,109,110,111,112],tails:=[(3011000,3011000)] }],[])
def spt8 : Tab (List LSpec×List Nat):=(.node (.node (.node (.node .leaf none (.node .leaf none (.node .leaf (some sp8_55) .leaf))) none .leaf) none .leaf) none (.node (.node (.node .leaf (some sp8_8) .leaf) none .leaf) none .leaf))
def spf8 (f : Nat) : List LSpec×List Nat:=(spt8.get f).getD ([],[])
theorem wQ7 : zQz Tryd.prog cfg 8 xQp:=fnD spf8 (l:=[(19,xZo),(14,zZ2),(16,yKd),(20,xQr),(21,yJv),(22,wY7)]) zQ4 zQh (.cons wZk (.cons zKs (.cons xQm (.cons wQ9 (.cons xJp (.cons vZy .nil)))))) (fun d=>by kernel_rfl)
def yQp (d0 : TCf×Int) : Option (TLv×Bool) :=
 Z.bind (zY0 (pCf d0.1)) fun x1 =>
 (bif (Z.bnot x1) then some (zLv,false)
 else Z.bind (zKv (pCf d0.1)) fun x2 =>
 (bif (Z.ilt d0.2 0) then some (zLv,false)
 else (bif (Z.zQr false true (Z.ige d0.2 (Z.ofN (Z.len x2)))) then some (zLv,false)
 else if (Z.Ix d0.2 (Z.len x2)) then Z.bnd (Z.get x2 (Z.toN d0.2) zLv) fun x5 =>
 some ((pLv x5),true)
 else none)))
def yJo : PFn:={ args:=[cCf,(.int .i64)],res:=[cLv, .bool],fn:=yQp }
theorem xJi : zQz Tryd.prog cfg 69 yJo:=fnD sp0 (l:=[(17,yQz),(34,zKh)]) zQ4 zQh (.cons yW1 (.cons zKx .nil)) (fun d=>by kernel_rfl)
def yK9 (d0 : TLv×LBk) : Option Bool :=
 (bif (Z.ige d0.2.1 0) then (bif (Z.zQr true (Z.ilt d0.2.1 d0.1.1) false) then (bif (Z.zQr true (Z.ige d0.2.2.1 0) false) then Z.bind (zJq d0.1.2.2.1) fun x1 =>
 (bif (Z.zQr true (Z.ilt d0.2.2.1 x1) false) then some (Z.zQr true (Z.ieq (Z.ofN (Z.len d0.2.2.2.1)) d0.1.2.1) false)
 else some false)
 else some false)
 else some false)
 else some false)
def xZm : PFn:={ args:=[cLv,cBk],res:=[.bool],fn:=yK9 }
theorem wZi : zQz Tryd.prog cfg 84 xZm:=fnD sp0 (l:=[(71,zYa)]) zQ4 zQh (.cons yQx .nil) (fun d=>by kernel_rfl)
def yK8 (d0 : TLv×(List LBk)) : Option Bool :=
 Z.loop (fun (s1 : Int) k2 =>
 (bif (Z.ilt s1 (Z.ofN (Z.len d0.2))) then if (Z.Ix s1 (Z.len d0.2)) then Z.bnd (Z.get d0.2 (Z.toN s1) (0,(0,(([] : List Int),())))) fun x5 =>
 Z.bind (yK9 ((pLv d0.1),(x5.1,(x5.2.1,(x5.2.2.1,()))))) fun x6 =>
 (bif (Z.bnot x6) then some false
 else (bif (Z.igt s1 0) then if (Z.Ix s1 (Z.len d0.2)) then Z.bnd (Z.get d0.2 (Z.toN s1) (0,(0,(([] : List Int),())))) fun x9 =>
 Z.bnd (Z.wrap .i64 (Z.sub s1 1)) fun x10 =>
 if (Z.Ix x10 (Z.len d0.2)) then Z.bnd (Z.get d0.2 (Z.toN x10) (0,(0,(([] : List Int),())))) fun x13 =>
 (bif (Z.zQr false true (Z.zQr true (Z.ile x9.1 x13.1) false)) then some false
 else Z.bnd (Z.wrap .i64 (Z.add s1 1)) fun x14 =>
 k2 x14)
 else none
 else none
 else Z.bnd (Z.wrap .i64 (Z.add s1 1)) fun x15 =>
 k2 x15))
 else none
 else some true)) 0
def xZl : PFn:={ args:=[cLv,(.list cBk)],res:=[.bool],fn:=yK8 }
def uXa : List LSpec×List Nat:=([{ id:=7000,known:=true,toks:=[],items:=[.slot 5 (.val (.int .i64))],junk:=[6,7,8,9,12,13,14,15,16,17,18,19,20,21,22,23,24,25,26,27,28,29,30,31,32,33,34,35,36,4,10,11],tails:=[] }],[])
def spt70 : Tab (List LSpec×List Nat):=(.node .leaf none (.node .leaf none (.node .leaf none (.node (.node (.node (.node .leaf (some uXa) .leaf) none .leaf) none .leaf) none .leaf))))
def spf70 (f : Nat) : List LSpec×List Nat:=(spt70.get f).getD ([],[])
theorem wZh : zQz Tryd.prog cfg 70 xZl:=fnD spf70 (l:=[(84,xZm)]) zQ4 zQh (.cons wZi .nil) (fun d=>by kernel_rfl)
def yK7 (d0 : TCf×(Int×(List Int×(List LBk×Unit)))) : Option Bool :=
 Z.bind (yQp ((pCf d0.1),d0.2.1)) fun x1 =>
 (bif x1.2 then Z.bind (yK8 ((pLv x1.1),d0.2.2.2.1)) fun x2 =>
 some (Z.zQr true x2 false)
 else some false)
def xZk : PFn:={ args:=[cCf,(.int .i64),(.pair (.arr 32 (.int .u8)) (.pair (.list cBk) .unit))],res:=[.bool],fn:=yK7 }
theorem wZg : zQz Tryd.prog cfg 43 xZk:=fnD sp0 (l:=[(69,yJo),(70,xZl)]) zQ4 zQh (.cons xJi (.cons wZh .nil)) (fun d=>by kernel_rfl)
def yWw (d0 : Int×Int) : Option Bool :=
 (bif (Z.ige d0.2 0) then Z.bind (zJq d0.1) fun x1 =>
 some (Z.zQr true (Z.ile d0.2 x1) false)
 else some false)
def xZj : PFn:={ args:=[(.int .i64),(.int .i64)],res:=[.bool],fn:=yWw }
theorem wZf : zQz Tryd.prog cfg 44 xZj:=fnD sp0 (l:=[(71,zYa)]) zQ4 zQh (.cons yQx .nil) (fun d=>by kernel_rfl)
def yK6 (d0 : TCf×((List (List Int×(List LBk×Unit)))×(List Int×(Int×(Int×Unit))))) : Option Bool :=
 Z.bind (zY0 (pCf d0.1)) fun x1 =>
 (bif (Z.bnot x1) then some false
 else Z.bind (zKv (pCf d0.1)) fun x2 =>
 Z.bnd (Z.wrap .i64 (Z.sub (Z.ofN (Z.len x2)) 1)) fun x3 =>
 if (Z.Ix x3 (Z.len x2)) then Z.bnd (Z.get x2 (Z.toN x3) zLv) fun x6 =>
 (bif (Z.ine (Z.ofN (Z.len d0.2.1)) (Z.ofN (Z.len x2))) then some false
 else (bif (Z.zQr false true (Z.ine (Z.ofN (Z.len d0.2.2.1)) x6.1)) then some false
 else Z.loop (fun (s7 : Int) k8 =>
 (bif (Z.ilt s7 (Z.ofN (Z.len x2))) then if (Z.Ix s7 (Z.len d0.2.1)) then Z.bnd (Z.get d0.2.1 (Z.toN s7) (z32n,(([] : List LBk),()))) fun x11 =>
 Z.bind (yK7 ((pCf d0.1),(s7,((n32 x11.1),(x11.2.1,()))))) fun x12 =>
 (bif (Z.bnot x12) then some false
 else Z.bnd (Z.wrap .i64 (Z.add s7 1)) fun x13 =>
 k8 x13)
 else none
 else Z.loop (fun (s14 : Int) k15 =>
 (bif (Z.ilt s14 (Z.ofN (Z.len d0.2.2.1))) then if (Z.Ix s14 (Z.len d0.2.2.1)) then Z.bnd (Z.get d0.2.2.1 (Z.toN s14) 0) fun x18 =>
 Z.bind (yWw (x6.2.2.1,x18)) fun x19 =>
 (bif (Z.bnot x19) then some false
 else Z.bnd (Z.wrap .i64 (Z.add s14 1)) fun x20 =>
 k15 x20)
 else none
 else some true)) 0)) 0))
 else none)
def xZi : PFn:={ args:=[cCf,(.pair (.list (.pair (.arr 32 (.int .u8)) (.pair (.list cBk) .unit))) (.pair (.list (.int .i64)) (.pair (.int .u64) (.pair (.int .u64) .unit))))],res:=[.bool],fn:=yK6 }
def uXt : List LSpec×List Nat:=([{ id:=2300,known:=true,toks:=[],items:=[.slot 7 (.val (.int .i64))],junk:=[34,35,36,37,40,41,42,43,44,45,46,47,48,4,38,39],tails:=[] },{ id:=2301,known:=true,toks:=[],items:=[.slot 8 (.val (.int .i64))],junk:=[49,50,51,52,53,56,57,58,59,60,61,62,63,64,4,54,55],tails:=[] }],[])
def spt23 : Tab (List LSpec×List Nat):=(.node (.node (.node (.node .leaf none (.node .leaf (some uXt) .leaf)) none .leaf) none .leaf) none .leaf)
def spf23 (f : Nat) : List LSpec×List Nat:=(spt23.get f).getD ([],[])
theorem wZe : zQz Tryd.prog cfg 23 xZi:=fnD spf23 (l:=[(17,yQz),(34,zKh),(43,xZk),(44,xZj)]) zQ4 zQh (.cons yW1 (.cons zKx (.cons wZg (.cons wZf .nil)))) (fun d=>by kernel_rfl)
def yQu (d0 : List Int) : Option Int :=
 (bif (Z.igt (Z.ofN (Z.len d0)) 64) then some (-1)
 else Z.loop (fun (s1 : Int×Int) k2 =>
 (bif (Z.ilt s1.2 (Z.ofN (Z.len d0))) then if (Z.Ix s1.2 (Z.len d0)) then Z.bnd (Z.get d0 (Z.toN s1.2) 0) fun x5 =>
 (bif (Z.ilt x5 0) then some (-1)
 else if (Z.Ix s1.2 (Z.len d0)) then Z.bnd (Z.get d0 (Z.toN s1.2) 0) fun x8 =>
 (bif (Z.zQr false true (Z.igt x8 65536)) then some (-1)
 else if (Z.Ix s1.2 (Z.len d0)) then Z.bnd (Z.get d0 (Z.toN s1.2) 0) fun x11 =>
 Z.bnd (Z.wrap .i64 (Z.add s1.1 x11)) fun x12 =>
 Z.bnd (Z.wrap .i64 (Z.add s1.2 1)) fun x13 =>
 k2 (x12,x13)
 else none)
 else none)
 else none
 else (bif (Z.igt s1.1 65536) then some (-1)
 else some s1.1))) (0,0))
def yJu : PFn:={ args:=[(.list (.int .i64))],res:=[(.int .i64)],fn:=yQu }
def uW0 : List LSpec×List Nat:=([{ id:=8800,known:=true,toks:=[],items:=[.slot 3 (.val (.int .i64)), .slot 4 (.val (.int .i64))],junk:=[8,9,10,11,14,15,16,17,18,19,20,21,22,23,24,25,2,26,27,28,29,30,31,12,13],tails:=[] }],[])
def spt88 : Tab (List LSpec×List Nat):=(.node .leaf none (.node (.node (.node .leaf none (.node .leaf none (.node (.node .leaf (some uW0) .leaf) none .leaf))) none .leaf) none .leaf))
def spf88 (f : Nat) : List LSpec×List Nat:=(spt88.get f).getD ([],[])
theorem xJo : zQz Tryd.prog cfg 88 yJu:=fnD spf88 (l:=[]) zQ4 zQh .nil (fun d=>by kernel_rfl)
def zJl (d0 : List Int) : Option Bool :=
 Z.loop (fun (s1 : Int) k2 =>
 (bif (Z.ilt s1 (Z.ofN (Z.len d0))) then if (Z.Ix s1 (Z.len d0)) then Z.bnd (Z.get d0 (Z.toN s1) 0) fun x5 =>
 (bif (Z.ilt x5 1) then some false
 else if (Z.Ix s1 (Z.len d0)) then Z.bnd (Z.get d0 (Z.toN s1) 0) fun x8 =>
 (bif (Z.zQr false true (Z.igt x8 8)) then some false
 else Z.bnd (Z.wrap .i64 (Z.add s1 1)) fun x9 =>
 k2 x9)
 else none)
 else none
 else Z.bind (yQu d0) fun x10 =>
 some (Z.ige x10 0))) 0
def yW9 : PFn:={ args:=[(.list (.int .i64))],res:=[.bool],fn:=zJl }
def uW2 : List LSpec×List Nat:=([{ id:=8500,known:=true,toks:=[],items:=[.slot 3 (.val (.int .i64))],junk:=[4,5,6,7,10,11,12,13,14,15,16,17,18,19,20,21,2,8,9],tails:=[] }],[])
def spt85 : Tab (List LSpec×List Nat):=(.node (.node .leaf none (.node .leaf none (.node (.node .leaf none (.node (.node .leaf (some uW2) .leaf) none .leaf)) none .leaf))) none .leaf)
def spf85 (f : Nat) : List LSpec×List Nat:=(spt85.get f).getD ([],[])
theorem xWt : zQz Tryd.prog cfg 85 yW9:=fnD spf85 (l:=[(88,yJu)]) zQ4 zQh (.cons xJo .nil) (fun d=>by kernel_rfl)
def zKw (d0 : Int×Int) : Option (List Int×Bool) :=
 if (Z.EqN 0 (Z.len ([] : List Int))) then Z.loop (fun (s3 : List Int×(Int×Int)) k4 =>
 (bif (Z.ilt s3.2.2 d0.2) then if (Z.IsZ 256) then none
 else Z.bnd (Z.tmod s3.2.1 256) fun x7 =>
 Z.bnd (Z.wrap .u8 x7) fun x8 =>
 if (Z.Le (Z.addN 0 1) (Z.len (x8::([] : List Int)))) then if (Z.Big (Z.len s3.1) (Z.len (Z.seg (x8::([] : List Int)) 0 1)) 1) then none
 else if (Z.EqN (Z.len s3.1) (Z.len s3.1)) then Z.bnd (Z.app s3.1 (Z.seg (x8::([] : List Int)) 0 1)) fun x15 =>
 if (Z.IsZ 256) then none
 else Z.bnd (Z.wrap .u64 (Z.tdiv s3.2.1 256)) fun x18 =>
 Z.bnd (Z.wrap .i64 (Z.add s3.2.2 1)) fun x19 =>
 if (Z.EqN (Z.len x15) (Z.len x15)) then k4 (x15,(x18,x19))
 else none
 else none
 else none
 else some (s3.1,(Z.ieq s3.2.1 0)))) (([] : List Int),(d0.1,0))
 else none
def zYn : PFn:={ args:=[(.int .u64),(.int .i64)],res:=[(.list (.int .u8)), .bool],fn:=zKw }
def uW7 : List LSpec×List Nat:=([{ id:=7300,known:=true,toks:=[(6,(.int .u8))],items:=[.slot 6 (.slt (.int .u8) (some 1000006) false), .slot 0 (.val (.int .u64)), .slot 7 (.val (.int .i64))],junk:=[8,9,10,13,14,15,16,17,18,19,20,11,12],tails:=[(1000006,6)] }],[])
def spt73 : Tab (List LSpec×List Nat):=(.node (.node .leaf none (.node (.node .leaf none (.node (.node (.node .leaf (some uW7) .leaf) none .leaf) none .leaf)) none .leaf)) none .leaf)
def spf73 (f : Nat) : List LSpec×List Nat:=(spt73.get f).getD ([],[])
theorem yW3 : zQz Tryd.prog cfg 73 zYn:=fnD spf73 (l:=[]) zQ4 zQh .nil (fun d=>by kernel_rfl)
def yWz (d0 : List Int×(List Int)) : Option (List Int×Int) :=
 Z.bind (zJl d0.2) fun x1 =>
 (bif (Z.bnot x1) then some (([] : List Int),2)
 else (bif (Z.zQr false true (Z.ine (Z.ofN (Z.len d0.1)) (Z.ofN (Z.len d0.2)))) then some (([] : List Int),2)
 else if (Z.EqN 0 (Z.len ([] : List Int))) then Z.loop (fun (s4 : List Int×Int) k5 =>
 (bif (Z.ilt s4.2 (Z.ofN (Z.len d0.1))) then if (Z.Ix s4.2 (Z.len d0.1)) then Z.bnd (Z.get d0.1 (Z.toN s4.2) 0) fun x8 =>
 if (Z.Ix s4.2 (Z.len d0.2)) then Z.bnd (Z.get d0.2 (Z.toN s4.2) 0) fun x11 =>
 Z.bind (zKw (x8,x11)) fun x12 =>
 (bif (Z.bnot x12.2) then some (([] : List Int),4)
 else if (Z.Big (Z.len s4.1) (Z.len x12.1) 1) then none
 else if (Z.EqN (Z.len s4.1) (Z.len s4.1)) then Z.bnd (Z.app s4.1 x12.1) fun x17 =>
 Z.bnd (Z.wrap .i64 (Z.add s4.2 1)) fun x18 =>
 if (Z.EqN (Z.len x17) (Z.len x17)) then k5 (x17,x18)
 else none
 else none)
 else none
 else none
 else if (Z.EqN (Z.len s4.1) (Z.len s4.1)) then some (s4.1,0)
 else none)) (([] : List Int),0)
 else none))
def xZn : PFn:={ args:=[(.list (.int .u64)),(.list (.int .i64))],res:=[(.list (.int .u8)),(.int .i64)],fn:=yWz }
def uW8 : List LSpec×List Nat:=([{ id:=7200,known:=true,toks:=[(6,(.int .u8))],items:=[.slot 6 (.slt (.int .u8) (some 1000006) false), .slot 7 (.val (.int .i64))],junk:=[20,21,22,23,27,28,29,30,31,32,33,34,35,26,36,37,8,9,38,39,4,5,40,41,42,24,25],tails:=[(1000006,6)] }],[])
def spt72 : Tab (List LSpec×List Nat):=(.node .leaf none (.node (.node (.node .leaf none (.node (.node (.node .leaf (some uW8) .leaf) none .leaf) none .leaf)) none .leaf) none .leaf))
def spf72 (f : Nat) : List LSpec×List Nat:=(spt72.get f).getD ([],[])
def yKh : OFn:={ args:=[(.list (.int .u64)),(.list (.int .i64))],ores:=[(.own (.int .u8)),(.plain (.int .i64))],fn:=yWz }
theorem xQ3 : OwnD Tryd.prog cfg 72 yKh∧zQz Tryd.prog cfg 72 yKh.pfn:=fnO spf72 [] (l:=[(85,yW9),(73,zYn)]) (lo:=[]) zQ4 zQh (.cons xWt (.cons yW3 .nil)) .nil (fun d=>by kernel_rfl)
theorem wZj : zQz Tryd.prog cfg 72 xZn:=xQ3.2
def yZb (d0 : LBk) : Option (List Int) :=
 Z.bnd (Z.wrap .i64 (Z.add d0.1 1)) fun x1 =>
 Z.bnd (Z.wrap .u64 x1) fun x2 =>
 Z.bnd (Z.wrap .u64 d0.2.1) fun x3 =>
 if (Z.Le (Z.addN 0 2) (Z.len (x2::(x3::([] : List Int))))) then if (Z.Le (Z.addN 0 2) (Z.len (4::(4::([] : List Int))))) then Z.bind (yWz ((Z.seg (x2::(x3::([] : List Int))) 0 2),(Z.seg (4::(4::([] : List Int))) 0 2))) fun x8 =>
 if (Z.EqN (Z.len x8.1) 0) then if (Z.Big (Z.len x8.1) (Z.len d0.2.2.1) 1) then none
 else none
 else if (Z.Le (Z.addN 0 (Z.len x8.1)) (Z.len x8.1)) then if (Z.Big (Z.len (Z.seg x8.1 0 (Z.len x8.1))) (Z.len d0.2.2.1) 1) then none
 else Z.bnd (Z.app (Z.seg x8.1 0 (Z.len x8.1)) d0.2.2.1) fun x17 =>
 if (Z.EqN (Z.len x17) (Z.len x17)) then some x17
 else none
 else none
 else none
 else none
def xYm : PFn:={ args:=[cBk],res:=[(.list (.int .u8))],fn:=yZb }
def xYt : OFn:={ args:=[cBk],ores:=[(.own (.int .u8))],fn:=yZb }
theorem wJk : OwnD Tryd.prog cfg 45 xYt∧zQz Tryd.prog cfg 45 xYt.pfn:=fnO sp0 [] (l:=[(72,xZn)]) (lo:=[(72,yKh)]) zQ4 zQh (.cons wZj .nil) (.cons xQ3.1 .nil) (fun d=>by kernel_rfl)
theorem wJc : zQz Tryd.prog cfg 45 xYm:=wJk.2
def yQo (d0 : Int) : Option (List Int) :=
 Z.bnd (Z.wrap .u64 d0) fun x1 =>
 Z.bind (zKw (x1,4)) fun x2 =>
 some x2.1
def yJn : PFn:={ args:=[(.int .i64)],res:=[(.list (.int .u8))],fn:=yQo }
theorem xJh : zQz Tryd.prog cfg 46 yJn:=fnD sp0 (l:=[(73,zYn)]) zQ4 zQh (.cons yW3 .nil) (fun d=>by kernel_rfl)
def yQt (d0 : Unit) : Option (List Int×(List Int×(Int×Unit))) :=
 some ((1779033703::(3144134277::(1013904242::(2773480762::(1359893119::(2600822924::(528734635::(1541459225::([] : List Int))))))))),(([] : List Int),(0,())))
def yJt : PFn:={ args:=[],res:=[(.pair (.arr 8 (.int .u32)) (.pair (.list (.int .u8)) (.pair (.int .u64) .unit)))],fn:=yQt }
theorem xJn : zQz Tryd.prog cfg 76 yJt:=fnD sp0 (l:=[]) zQ4 zQh .nil (fun d=>by kernel_rfl)
def yQr (d0 : Unit) : Option (List Int) :=
 if (Z.EqN (Z.len (Z.rep 64 0)) (Z.len (1116352408::(1899447441::(3049323471::(3921009573::(961987163::(1508970993::(2453635748::(2870763221::(3624381080::(310598401::(607225278::(1426881987::(1925078388::(2162078206::(2614888103::(3248222580::(3835390401::(4022224774::(264347078::(604807628::(770255983::(1249150122::(1555081692::(1996064986::(2554220882::(2821834349::(2952996808::(3210313671::(3336571891::(3584528711::(113926993::(338241895::(666307205::(773529912::(1294757372::(1396182291::(1695183700::(1986661051::(2177026350::(2456956037::(2730485921::(2820302411::(3259730800::(3345764771::(3516065817::(3600352804::(4094571909::(275423344::(430227734::(506948616::(659060556::(883997877::(958139571::(1322822218::(1537002063::(1747873779::(1955562222::(2024104815::(2227730452::(2361852424::(2428436474::(2756734187::(3204031479::(3329325298::([] : List Int))))))))))))))))))))))))))))))))))))))))))))))))))))))))))))))))))) then if (Z.EqN (Z.len (1116352408::(1899447441::(3049323471::(3921009573::(961987163::(1508970993::(2453635748::(2870763221::(3624381080::(310598401::(607225278::(1426881987::(1925078388::(2162078206::(2614888103::(3248222580::(3835390401::(4022224774::(264347078::(604807628::(770255983::(1249150122::(1555081692::(1996064986::(2554220882::(2821834349::(2952996808::(3210313671::(3336571891::(3584528711::(113926993::(338241895::(666307205::(773529912::(1294757372::(1396182291::(1695183700::(1986661051::(2177026350::(2456956037::(2730485921::(2820302411::(3259730800::(3345764771::(3516065817::(3600352804::(4094571909::(275423344::(430227734::(506948616::(659060556::(883997877::(958139571::(1322822218::(1537002063::(1747873779::(1955562222::(2024104815::(2227730452::(2361852424::(2428436474::(2756734187::(3204031479::(3329325298::([] : List Int)))))))))))))))))))))))))))))))))))))))))))))))))))))))))))))))))) 64) then some (1116352408::(1899447441::(3049323471::(3921009573::(961987163::(1508970993::(2453635748::(2870763221::(3624381080::(310598401::(607225278::(1426881987::(1925078388::(2162078206::(2614888103::(3248222580::(3835390401::(4022224774::(264347078::(604807628::(770255983::(1249150122::(1555081692::(1996064986::(2554220882::(2821834349::(2952996808::(3210313671::(3336571891::(3584528711::(113926993::(338241895::(666307205::(773529912::(1294757372::(1396182291::(1695183700::(1986661051::(2177026350::(2456956037::(2730485921::(2820302411::(3259730800::(3345764771::(3516065817::(3600352804::(4094571909::(275423344::(430227734::(506948616::(659060556::(883997877::(958139571::(1322822218::(1537002063::(1747873779::(1955562222::(2024104815::(2227730452::(2361852424::(2428436474::(2756734187::(3204031479::(3329325298::([] : List Int)))))))))))))))))))))))))))))))))))))))))))))))))))))))))))))))))
 else none
 else none
def yJr : PFn:={ args:=[],res:=[(.arr 64 (.int .u32))],fn:=yQr }
theorem xJl : zQz Tryd.prog cfg 89 yJr:=fnD sp0 (l:=[]) zQ4 zQh .nil (fun d=>by kernel_rfl)
def zWe (d0 : Int×Int) : Option Int :=
 if (Z.Neg d0.2) then none
 else Z.bnd (Z.shr .u32 d0.1 d0.2) fun x3 =>
 Z.bnd (Z.wrap .u32 (Z.sub 32 d0.2)) fun x4 =>
 if (Z.Neg x4) then none
 else Z.bnd (Z.shl .u32 d0.1 x4) fun x7 =>
 Z.bnd (Z.bor .u32 x3 x7) fun x8 =>
 some x8
def zYm : PFn:={ args:=[(.int .u32),(.int .u32)],res:=[(.int .u32)],fn:=zWe }
theorem yW2 : zQz Tryd.prog cfg 91 zYm:=fnD sp0 (l:=[]) zQ4 zQh .nil (fun d=>by kernel_rfl)
def yQq (d0 : List Int) : Option (List Int) :=
 Z.loop (fun (s1 : Int×(List Int)) k2 =>
 (bif (Z.ilt s1.1 16) then Z.bnd (Z.wrap .i64 (Z.mul 4 s1.1)) fun x3 =>
 if (Z.Ix x3 (Z.len d0)) then Z.bnd (Z.get d0 (Z.toN x3) 0) fun x6 =>
 Z.bnd (Z.wrap .u32 x6) fun x7 =>
 if (Z.Neg 24) then none
 else Z.bnd (Z.shl .u32 x7 24) fun x10 =>
 Z.bnd (Z.wrap .i64 (Z.mul 4 s1.1)) fun x11 =>
 Z.bnd (Z.wrap .i64 (Z.add x11 1)) fun x12 =>
 if (Z.Ix x12 (Z.len d0)) then Z.bnd (Z.get d0 (Z.toN x12) 0) fun x15 =>
 Z.bnd (Z.wrap .u32 x15) fun x16 =>
 if (Z.Neg 16) then none
 else Z.bnd (Z.shl .u32 x16 16) fun x19 =>
 Z.bnd (Z.bor .u32 x10 x19) fun x20 =>
 Z.bnd (Z.wrap .i64 (Z.mul 4 s1.1)) fun x21 =>
 Z.bnd (Z.wrap .i64 (Z.add x21 2)) fun x22 =>
 if (Z.Ix x22 (Z.len d0)) then Z.bnd (Z.get d0 (Z.toN x22) 0) fun x25 =>
 Z.bnd (Z.wrap .u32 x25) fun x26 =>
 if (Z.Neg 8) then none
 else Z.bnd (Z.shl .u32 x26 8) fun x29 =>
 Z.bnd (Z.bor .u32 x20 x29) fun x30 =>
 Z.bnd (Z.wrap .i64 (Z.mul 4 s1.1)) fun x31 =>
 Z.bnd (Z.wrap .i64 (Z.add x31 3)) fun x32 =>
 if (Z.Ix x32 (Z.len d0)) then Z.bnd (Z.get d0 (Z.toN x32) 0) fun x35 =>
 Z.bnd (Z.wrap .u32 x35) fun x36 =>
 Z.bnd (Z.bor .u32 x30 x36) fun x37 =>
 if (Z.In s1.1 64) then if (Z.Lt (Z.toN s1.1) (Z.len s1.2)) then Z.bnd (Z.set s1.2 (Z.toN s1.1) x37) fun x42 =>
 Z.bnd (Z.wrap .i64 (Z.add s1.1 1)) fun x43 =>
 k2 (x43,x42)
 else none
 else none
 else none
 else none
 else none
 else none
 else Z.loop (fun (s44 : Int×(List Int)) k45 =>
 (bif (Z.ilt s44.1 64) then Z.bnd (Z.wrap .i64 (Z.sub s44.1 15)) fun x46 =>
 if (Z.In x46 64) then if (Z.Lt (Z.toN x46) (Z.len s44.2)) then Z.bnd (Z.get s44.2 (Z.toN x46) 0) fun x51 =>
 Z.bnd (Z.wrap .i64 (Z.sub s44.1 2)) fun x52 =>
 if (Z.In x52 64) then if (Z.Lt (Z.toN x52) (Z.len s44.2)) then Z.bnd (Z.get s44.2 (Z.toN x52) 0) fun x57 =>
 Z.bind (zWe (x51,7)) fun x58 =>
 Z.bind (zWe (x51,18)) fun x59 =>
 Z.bnd (Z.bxor .u32 x58 x59) fun x60 =>
 if (Z.Neg 3) then none
 else Z.bnd (Z.shr .u32 x51 3) fun x63 =>
 Z.bnd (Z.bxor .u32 x60 x63) fun x64 =>
 Z.bind (zWe (x57,17)) fun x65 =>
 Z.bind (zWe (x57,19)) fun x66 =>
 Z.bnd (Z.bxor .u32 x65 x66) fun x67 =>
 if (Z.Neg 10) then none
 else Z.bnd (Z.shr .u32 x57 10) fun x70 =>
 Z.bnd (Z.bxor .u32 x67 x70) fun x71 =>
 Z.bnd (Z.wrap .i64 (Z.sub s44.1 16)) fun x72 =>
 if (Z.In x72 64) then if (Z.Lt (Z.toN x72) (Z.len s44.2)) then Z.bnd (Z.get s44.2 (Z.toN x72) 0) fun x77 =>
 Z.bnd (Z.wrap .i64 (Z.sub s44.1 7)) fun x78 =>
 if (Z.In x78 64) then if (Z.Lt (Z.toN x78) (Z.len s44.2)) then Z.bnd (Z.get s44.2 (Z.toN x78) 0) fun x83 =>
 Z.bnd (Z.wrap .u32 (Z.add x77 x83)) fun x84 =>
 Z.bnd (Z.wrap .u32 (Z.add x84 x64)) fun x85 =>
 Z.bnd (Z.wrap .u32 (Z.add x85 x71)) fun x86 =>
 if (Z.In s44.1 64) then if (Z.Lt (Z.toN s44.1) (Z.len s44.2)) then Z.bnd (Z.set s44.2 (Z.toN s44.1) x86) fun x91 =>
 Z.bnd (Z.wrap .i64 (Z.add s44.1 1)) fun x92 =>
 k45 (x92,x91)
 else none
 else none
 else none
 else none
 else none
 else none
 else none
 else none
 else none
 else none
 else if (Z.EqN (Z.len s44.2) 64) then if (Z.EqN (Z.len (Z.rep 64 0)) 64) then if (Z.EqN (Z.len (Z.norm 64 s44.2 0)) 64) then some (Z.norm 64 s44.2 0)
 else none
 else none
 else none)) (16,s1.2))) (0,(Z.rep 64 0))
def yJq : PFn:={ args:=[(.list (.int .u8))],res:=[(.arr 64 (.int .u32))],fn:=yQq }
def uWz : List LSpec×List Nat:=([{ id:=9000,known:=true,toks:=[],items:=[.slot 4 (.val (.int .i64)), .vec 1000003 (.int .u32)],junk:=[10,11,14,15,16,17,18,19,20,21,22,23,24,25,26,27,28,29,30,31,32,33,34,35,36,37,38,39,40,41,42,43,44,45,46,47,48,12,13],tails:=[] },{ id:=9001,known:=true,toks:=[],items:=[.slot 5 (.val (.int .i64)), .vec 1000003 (.int .u32)],junk:=[49,50,53,54,55,56,6,57,58,59,60,7,61,62,63,64,65,66,67,68,8,69,70,71,72,73,74,75,76,9,77,78,79,80,81,82,83,84,85,86,87,88,89,90,91,51,52],tails:=[] }],[])
def spt90 : Tab (List LSpec×List Nat):=(.node .leaf none (.node .leaf none (.node (.node .leaf none (.node .leaf none (.node (.node .leaf (some uWz) .leaf) none .leaf))) none .leaf)))
def spf90 (f : Nat) : List LSpec×List Nat:=(spt90.get f).getD ([],[])
theorem xJk : zQz Tryd.prog cfg 90 yJq:=fnD spf90 (l:=[(91,zYm)]) zQ4 zQh (.cons yW2 .nil) (fun d=>by kernel_rfl)
def zY1 (d0 : List Int×(List Int)) : Option (List Int) :=
 Z.bind (yQr ()) fun x1 =>
 if (Z.EqN (Z.len (Z.rep 64 0)) 64) then Z.bind (yQq d0.2) fun x4 =>
 if (Z.EqN (Z.len (Z.rep 64 0)) 64) then if (Z.EqN (Z.len (Z.norm 8 d0.1 0)) 8) then if (Z.EqN (Z.len (Z.rep 8 0)) 8) then Z.loop (fun (s11 : Int×(List Int)) k12 =>
 (bif (Z.ilt s11.1 64) then if (Z.In 4 8) then if (Z.Lt (Z.toN 4) (Z.len s11.2)) then Z.bnd (Z.get s11.2 (Z.toN 4) 0) fun x17 =>
 if (Z.In 5 8) then if (Z.Lt (Z.toN 5) (Z.len s11.2)) then Z.bnd (Z.get s11.2 (Z.toN 5) 0) fun x22 =>
 Z.bnd (Z.band .u32 x17 x22) fun x23 =>
 Z.bnd (Z.bxor .u32 x17 4294967295) fun x24 =>
 if (Z.In 6 8) then if (Z.Lt (Z.toN 6) (Z.len s11.2)) then Z.bnd (Z.get s11.2 (Z.toN 6) 0) fun x29 =>
 Z.bnd (Z.band .u32 x24 x29) fun x30 =>
 Z.bnd (Z.bxor .u32 x23 x30) fun x31 =>
 if (Z.In 7 8) then if (Z.Lt (Z.toN 7) (Z.len s11.2)) then Z.bnd (Z.get s11.2 (Z.toN 7) 0) fun x36 =>
 if (Z.In s11.1 64) then if (Z.Lt (Z.toN s11.1) (Z.len (Z.norm 64 x1 0))) then Z.bnd (Z.get (Z.norm 64 x1 0) (Z.toN s11.1) 0) fun x41 =>
 if (Z.In s11.1 64) then if (Z.Lt (Z.toN s11.1) (Z.len (Z.norm 64 x4 0))) then Z.bnd (Z.get (Z.norm 64 x4 0) (Z.toN s11.1) 0) fun x46 =>
 Z.bind (zWe (x17,6)) fun x47 =>
 Z.bind (zWe (x17,11)) fun x48 =>
 Z.bnd (Z.bxor .u32 x47 x48) fun x49 =>
 Z.bind (zWe (x17,25)) fun x50 =>
 Z.bnd (Z.bxor .u32 x49 x50) fun x51 =>
 Z.bnd (Z.wrap .u32 (Z.add x36 x51)) fun x52 =>
 Z.bnd (Z.wrap .u32 (Z.add x52 x31)) fun x53 =>
 Z.bnd (Z.wrap .u32 (Z.add x53 x41)) fun x54 =>
 Z.bnd (Z.wrap .u32 (Z.add x54 x46)) fun x55 =>
 if (Z.In 0 8) then if (Z.Lt (Z.toN 0) (Z.len s11.2)) then Z.bnd (Z.get s11.2 (Z.toN 0) 0) fun x60 =>
 if (Z.In 1 8) then if (Z.Lt (Z.toN 1) (Z.len s11.2)) then Z.bnd (Z.get s11.2 (Z.toN 1) 0) fun x65 =>
 Z.bnd (Z.band .u32 x60 x65) fun x66 =>
 if (Z.In 2 8) then if (Z.Lt (Z.toN 2) (Z.len s11.2)) then Z.bnd (Z.get s11.2 (Z.toN 2) 0) fun x71 =>
 Z.bnd (Z.band .u32 x60 x71) fun x72 =>
 Z.bnd (Z.bxor .u32 x66 x72) fun x73 =>
 if (Z.In 1 8) then if (Z.Lt (Z.toN 1) (Z.len s11.2)) then Z.bnd (Z.get s11.2 (Z.toN 1) 0) fun x78 =>
 if (Z.In 2 8) then if (Z.Lt (Z.toN 2) (Z.len s11.2)) then Z.bnd (Z.get s11.2 (Z.toN 2) 0) fun x83 =>
 Z.bnd (Z.band .u32 x78 x83) fun x84 =>
 Z.bnd (Z.bxor .u32 x73 x84) fun x85 =>
 Z.bind (zWe (x60,2)) fun x86 =>
 Z.bind (zWe (x60,13)) fun x87 =>
 Z.bnd (Z.bxor .u32 x86 x87) fun x88 =>
 Z.bind (zWe (x60,22)) fun x89 =>
 Z.bnd (Z.bxor .u32 x88 x89) fun x90 =>
 Z.bnd (Z.wrap .u32 (Z.add x90 x85)) fun x91 =>
 Z.bnd (Z.wrap .u32 (Z.add x55 x91)) fun x92 =>
 if (Z.In 0 8) then if (Z.Lt (Z.toN 0) (Z.len s11.2)) then Z.bnd (Z.get s11.2 (Z.toN 0) 0) fun x97 =>
 if (Z.In 1 8) then if (Z.Lt (Z.toN 1) (Z.len s11.2)) then Z.bnd (Z.get s11.2 (Z.toN 1) 0) fun x102 =>
 if (Z.In 2 8) then if (Z.Lt (Z.toN 2) (Z.len s11.2)) then Z.bnd (Z.get s11.2 (Z.toN 2) 0) fun x107 =>
 if (Z.In 3 8) then if (Z.Lt (Z.toN 3) (Z.len s11.2)) then Z.bnd (Z.get s11.2 (Z.toN 3) 0) fun x112 =>
 Z.bnd (Z.wrap .u32 (Z.add x112 x55)) fun x113 =>
 if (Z.In 4 8) then if (Z.Lt (Z.toN 4) (Z.len s11.2)) then Z.bnd (Z.get s11.2 (Z.toN 4) 0) fun x118 =>
 if (Z.In 5 8) then if (Z.Lt (Z.toN 5) (Z.len s11.2)) then Z.bnd (Z.get s11.2 (Z.toN 5) 0) fun x123 =>
 if (Z.In 6 8) then if (Z.Lt (Z.toN 6) (Z.len s11.2)) then Z.bnd (Z.get s11.2 (Z.toN 6) 0) fun x128 =>
 if (Z.EqN (Z.len s11.2) (Z.len (x92::(x97::(x102::(x107::(x113::(x118::(x123::(x128::([] : List Int))))))))))) then Z.bnd (Z.wrap .i64 (Z.add s11.1 1)) fun x131 =>
 k12 (x131,(x92::(x97::(x102::(x107::(x113::(x118::(x123::(x128::([] : List Int))))))))))
 else none
 else none
 else none
 else none
 else none
 else none
 else none
 else none
 else none
 else none
 else none
 else none
 else none
 else none
 else none
 else none
 else none
 else none
 else none
 else none
 else none
 else none
 else none
 else none
 else none
 else none
 else none
 else none
 else none
 else none
 else none
 else none
 else none
 else none
 else none
 else none
 else none
 else Z.loop (fun (s132 : Int×(List Int)) k133 =>
 (bif (Z.ilt s132.1 8) then if (Z.In s132.1 8) then if (Z.Lt (Z.toN s132.1) (Z.len s132.2)) then Z.bnd (Z.get s132.2 (Z.toN s132.1) 0) fun x138 =>
 if (Z.In s132.1 8) then if (Z.Lt (Z.toN s132.1) (Z.len s11.2)) then Z.bnd (Z.get s11.2 (Z.toN s132.1) 0) fun x143 =>
 Z.bnd (Z.wrap .u32 (Z.add x138 x143)) fun x144 =>
 if (Z.In s132.1 8) then if (Z.Lt (Z.toN s132.1) (Z.len s132.2)) then Z.bnd (Z.set s132.2 (Z.toN s132.1) x144) fun x149 =>
 Z.bnd (Z.wrap .i64 (Z.add s132.1 1)) fun x150 =>
 k133 (x150,x149)
 else none
 else none
 else none
 else none
 else none
 else none
 else if (Z.EqN (Z.len s132.2) 8) then if (Z.EqN (Z.len (Z.rep 8 0)) 8) then if (Z.EqN (Z.len (Z.norm 8 s132.2 0)) 8) then some (Z.norm 8 s132.2 0)
 else none
 else none
 else none)) (0,(Z.norm 8 d0.1 0)))) (0,(Z.norm 8 (Z.norm 8 d0.1 0) 0))
 else none
 else none
 else none
 else none
def yW8 : PFn:={ args:=[(.arr 8 (.int .u32)),(.list (.int .u8))],res:=[(.arr 8 (.int .u32))],fn:=zY1 }
def uW1 : List LSpec×List Nat:=([{ id:=8600,known:=true,toks:=[],items:=[.slot 8 (.val (.int .i64)), .vec 1000007 (.int .u32)],junk:=[20,21,24,25,9,26,27,28,29,30,31,32,33,34,35,10,36,37,38,39,40,41,42,43,44,45,46,47,48,49,50,51,52,53,54,55,56,11,57,58,12,59,60,61,62,63,64,65,66,67,68,69,70,71,72,73,13,74,75,76,77,78,79,80,81,82,83,14,84,85,86,87,88,89,90,91,92,93,94,95,96,97,98,99,100,101,102,103,22,23],tails:=[] },{ id:=8601,known:=true,toks:=[],items:=[.slot 15 (.val (.int .i64)), .vec 1000002 (.int .u32)],junk:=[104,105,108,109,110,111,112,113,114,115,116,106,107],tails:=[] }],[])
def spt86 : Tab (List LSpec×List Nat):=(.node .leaf none (.node .leaf none (.node .leaf none (.node (.node .leaf none (.node (.node .leaf (some uW1) .leaf) none .leaf)) none .leaf))))
def spf86 (f : Nat) : List LSpec×List Nat:=(spt86.get f).getD ([],[])
theorem yJi : zQz Tryd.prog cfg 86 yW8:=fnD spf86 (l:=[(89,yJr),(90,yJq),(91,zYm)]) zQ4 zQh (.cons xJl (.cons xJk (.cons yW2 .nil))) (fun d=>by kernel_rfl)
def yZd (d0 : (List Int×(List Int×(Int×Unit)))×(List Int)) : Option (List Int×(List Int×(Int×Unit))) :=
 if (Z.Le (Z.addN 0 0) (Z.len ([] : List Int))) then if (Z.Big (Z.len (Z.seg ([] : List Int) 0 0)) (Z.len d0.1.2.1) 1) then none
 else Z.bnd (Z.app (Z.seg ([] : List Int) 0 0) d0.1.2.1) fun x5 =>
 if (Z.Big (Z.len x5) (Z.len d0.2) 1) then none
 else if (Z.EqN (Z.len x5) (Z.len x5)) then Z.bnd (Z.app x5 d0.2) fun x10 =>
 Z.loop (fun (s11 : List Int×(Int×(Int×(Int×(Int×(Int×(Int×(Int×(Int×(List Int×Int)))))))))) k12 =>
 (bif (Z.ige (Z.ofN (Z.len s11.1)) 64) then if (Z.Bd 64 (Z.len s11.1)) then Z.bnd (Z.slice s11.1 0 (Z.toN 64)) fun x15 =>
 Z.bind (zY1 ((s11.2.1::(s11.2.2.1::(s11.2.2.2.1::(s11.2.2.2.2.1::(s11.2.2.2.2.2.1::(s11.2.2.2.2.2.2.1::(s11.2.2.2.2.2.2.2.1::(s11.2.2.2.2.2.2.2.2.1::([] : List Int))))))))),x15)) fun x16 =>
 if (Z.Bd 64 (Z.len s11.1)) then Z.bnd (Z.slice s11.1 (Z.toN 64) (Z.len s11.1)) fun x19 =>
 k12 (x19,((Z.get x16 0 0),((Z.get x16 1 0),((Z.get x16 2 0),((Z.get x16 3 0),((Z.get x16 4 0),((Z.get x16 5 0),((Z.get x16 6 0),((Z.get x16 7 0),(s11.2.2.2.2.2.2.2.2.2.1,s11.2.2.2.2.2.2.2.2.2.2))))))))))
 else none
 else none
 else Z.bnd (Z.wrap .u64 (Z.ofN (Z.len d0.2))) fun x20 =>
 Z.bnd (Z.wrap .u64 (Z.add s11.2.2.2.2.2.2.2.2.2.2 x20)) fun x21 =>
 some ((s11.2.1::(s11.2.2.1::(s11.2.2.2.1::(s11.2.2.2.2.1::(s11.2.2.2.2.2.1::(s11.2.2.2.2.2.2.1::(s11.2.2.2.2.2.2.2.1::(s11.2.2.2.2.2.2.2.2.1::([] : List Int))))))))),(s11.1,(x21,()))))) (x10,((Z.get d0.1.1 0 0),((Z.get d0.1.1 1 0),((Z.get d0.1.1 2 0),((Z.get d0.1.1 3 0),((Z.get d0.1.1 4 0),((Z.get d0.1.1 5 0),((Z.get d0.1.1 6 0),((Z.get d0.1.1 7 0),(d0.1.2.1,d0.1.2.2.1))))))))))
 else none
 else none
def xQz : PFn:={ args:=[(.pair (.arr 8 (.int .u32)) (.pair (.list (.int .u8)) (.pair (.int .u64) .unit))),(.list (.int .u8))],res:=[(.pair (.arr 8 (.int .u32)) (.pair (.list (.int .u8)) (.pair (.int .u64) .unit)))],fn:=yZd }
def uW5 : List LSpec×List Nat:=([{ id:=7500,known:=true,toks:=[],items:=[.slot 5 (.val (.list (.int .u8))), .cells 1000002 [.val (.int .u32), .val (.int .u32), .val (.int .u32), .val (.int .u32), .val (.int .u32), .val (.int .u32), .val (.int .u32), .val (.int .u32), .val (.list (.int .u8)), .val (.int .u64)]],junk:=[12,13,14,15,16,17,18,19,20,21,22],tails:=[] }],[])
def spt75 : Tab (List LSpec×List Nat):=(.node (.node (.node .leaf none (.node .leaf none (.node (.node (.node .leaf (some uW5) .leaf) none .leaf) none .leaf))) none .leaf) none .leaf)
def spf75 (f : Nat) : List LSpec×List Nat:=(spt75.get f).getD ([],[])
theorem wWh : zQz Tryd.prog cfg 75 xQz:=fnD spf75 (l:=[(86,yW8)]) zQ4 zQh (.cons yJi .nil) (fun d=>by kernel_rfl)
def yQs (d0 : List Int×(List Int×(Int×Unit))) : Option (List Int) :=
 if (Z.Le (Z.addN 0 0) (Z.len ([] : List Int))) then if (Z.Big (Z.len (Z.seg ([] : List Int) 0 0)) (Z.len d0.2.1) 1) then none
 else Z.bnd (Z.app (Z.seg ([] : List Int) 0 0) d0.2.1) fun x5 =>
 if (Z.Le (Z.addN 0 1) (Z.len (128::([] : List Int)))) then if (Z.Big (Z.len x5) (Z.len (Z.seg (128::([] : List Int)) 0 1)) 1) then none
 else if (Z.EqN (Z.len x5) (Z.len x5)) then Z.bnd (Z.app x5 (Z.seg (128::([] : List Int)) 0 1)) fun x12 =>
 if (Z.EqN (Z.len x12) (Z.len x12)) then Z.loop (fun (s15 : List Int) k16 =>
 if (Z.IsZ 64) then none
 else Z.bnd (Z.tmod (Z.ofN (Z.len s15)) 64) fun x19 =>
 (bif (Z.ine x19 56) then if (Z.Le (Z.addN 0 1) (Z.len (0::([] : List Int)))) then if (Z.Big (Z.len s15) (Z.len (Z.seg (0::([] : List Int)) 0 1)) 1) then none
 else if (Z.EqN (Z.len s15) (Z.len s15)) then Z.bnd (Z.app s15 (Z.seg (0::([] : List Int)) 0 1)) fun x26 =>
 if (Z.EqN (Z.len x26) (Z.len x26)) then k16 x26
 else none
 else none
 else none
 else Z.bnd (Z.wrap .u64 (Z.mul 8 d0.2.2.1)) fun x29 =>
 if (Z.EqN (Z.len s15) (Z.len s15)) then Z.loop (fun (s32 : List Int×Int) k33 =>
 (bif (Z.ige s32.2 0) then Z.bnd (Z.wrap .i64 (Z.mul 8 s32.2)) fun x34 =>
 Z.bnd (Z.wrap .u64 x34) fun x35 =>
 if (Z.Neg x35) then none
 else Z.bnd (Z.shr .u64 x29 x35) fun x38 =>
 Z.bnd (Z.wrap .u8 x38) fun x39 =>
 if (Z.Le (Z.addN 0 1) (Z.len (x39::([] : List Int)))) then if (Z.Big (Z.len s32.1) (Z.len (Z.seg (x39::([] : List Int)) 0 1)) 1) then none
 else if (Z.EqN (Z.len s32.1) (Z.len s32.1)) then Z.bnd (Z.app s32.1 (Z.seg (x39::([] : List Int)) 0 1)) fun x46 =>
 Z.bnd (Z.wrap .i64 (Z.sub s32.2 1)) fun x47 =>
 if (Z.EqN (Z.len x46) (Z.len x46)) then k33 (x46,x47)
 else none
 else none
 else none
 else if (Z.EqN (Z.len (Z.rep 8 0)) (Z.len ((Z.get d0.1 0 0)::((Z.get d0.1 1 0)::((Z.get d0.1 2 0)::((Z.get d0.1 3 0)::((Z.get d0.1 4 0)::((Z.get d0.1 5 0)::((Z.get d0.1 6 0)::((Z.get d0.1 7 0)::([] : List Int))))))))))) then Z.loop (fun (s52 : List Int×(List Int)) k53 =>
 (bif (Z.igt (Z.ofN (Z.len s52.1)) 0) then if (Z.EqN (Z.len s52.2) 8) then if (Z.Bd 64 (Z.len s52.1)) then Z.bnd (Z.slice s52.1 0 (Z.toN 64)) fun x58 =>
 Z.bind (zY1 (s52.2,x58)) fun x59 =>
 if (Z.EqN (Z.len s52.2) 8) then if (Z.Bd 64 (Z.len s52.1)) then Z.bnd (Z.slice s52.1 (Z.toN 64) (Z.len s52.1)) fun x64 =>
 k53 (x64,(Z.norm 8 x59 0))
 else none
 else none
 else none
 else none
 else Z.loop (fun (s65 : Int×(List Int)) k66 =>
 (bif (Z.ilt s65.1 32) then if (Z.IsZ 4) then none
 else Z.bnd (Z.wrap .i64 (Z.tdiv s65.1 4)) fun x69 =>
 if (Z.In x69 8) then if (Z.Lt (Z.toN x69) (Z.len s52.2)) then Z.bnd (Z.get s52.2 (Z.toN x69) 0) fun x74 =>
 if (Z.IsZ 4) then none
 else Z.bnd (Z.tmod s65.1 4) fun x77 =>
 Z.bnd (Z.wrap .i64 (Z.mul 8 x77)) fun x78 =>
 Z.bnd (Z.wrap .i64 (Z.sub 24 x78)) fun x79 =>
 Z.bnd (Z.wrap .u64 x79) fun x80 =>
 if (Z.Neg x80) then none
 else Z.bnd (Z.shr .u32 x74 x80) fun x83 =>
 Z.bnd (Z.wrap .u8 x83) fun x84 =>
 if (Z.In s65.1 32) then if (Z.Lt (Z.toN s65.1) (Z.len s65.2)) then Z.bnd (Z.set s65.2 (Z.toN s65.1) x84) fun x89 =>
 Z.bnd (Z.wrap .i64 (Z.add s65.1 1)) fun x90 =>
 k66 (x90,x89)
 else none
 else none
 else none
 else none
 else if (Z.EqN (Z.len s65.2) 32) then if (Z.EqN (Z.len (Z.rep 32 0)) 32) then if (Z.EqN (Z.len (Z.norm 32 s65.2 0)) 32) then some (Z.norm 32 s65.2 0)
 else none
 else none
 else none)) (0,(Z.rep 32 0)))) (s32.1,((Z.get d0.1 0 0)::((Z.get d0.1 1 0)::((Z.get d0.1 2 0)::((Z.get d0.1 3 0)::((Z.get d0.1 4 0)::((Z.get d0.1 5 0)::((Z.get d0.1 6 0)::((Z.get d0.1 7 0)::([] : List Int))))))))))
 else none)) (s15,7)
 else none)) x12
 else none
 else none
 else none
 else none
def yJs : PFn:={ args:=[(.pair (.arr 8 (.int .u32)) (.pair (.list (.int .u8)) (.pair (.int .u64) .unit)))],res:=[(.arr 32 (.int .u8))],fn:=yQs }
def uW6 : List LSpec×List Nat:=([{ id:=7400,known:=true,toks:=[(3,(.int .u8))],items:=[.slot 3 (.slt (.int .u8) (some 1000003) false)],junk:=[15,16,17,18,19,20,21],tails:=[(1000003,3)] },{ id:=7401,known:=true,toks:=[(3,(.int .u8))],items:=[.slot 3 (.slt (.int .u8) (some 1000003) false), .slot 5 (.val (.int .i64))],junk:=[25,26,29,30,31,32,33,34,35,36,37,27,28],tails:=[(1000003,3)] },{ id:=7402,known:=true,toks:=[],items:=[.slot 3 (.val (.list (.int .u8))), .vec 1000006 (.int .u32)],junk:=[40,41,42,43,44,45,46,47,48],tails:=[] },{ id:=7403,known:=true,toks:=[],items:=[.slot 8 (.val (.int .i64)), .vec 1000007 (.int .u8)],junk:=[49,50,53,54,55,56,57,58,59,60,61,62,63,64,65,51,52],tails:=[] }],[])
def spt74 : Tab (List LSpec×List Nat):=(.node .leaf none (.node .leaf none (.node (.node .leaf none (.node (.node (.node .leaf (some uW6) .leaf) none .leaf) none .leaf)) none .leaf)))
def spf74 (f : Nat) : List LSpec×List Nat:=(spt74.get f).getD ([],[])
theorem xJm : zQz Tryd.prog cfg 74 yJs:=fnD spf74 (l:=[(86,yW8)]) zQ4 zQh (.cons yJi .nil) (fun d=>by kernel_rfl)
def yJb (d0 : List Int) : Option (List Int) :=
 Z.bind (yQt ()) fun x1 =>
 Z.bind (yZd ((((Z.get x1.1 0 0)::((Z.get x1.1 1 0)::((Z.get x1.1 2 0)::((Z.get x1.1 3 0)::((Z.get x1.1 4 0)::((Z.get x1.1 5 0)::((Z.get x1.1 6 0)::((Z.get x1.1 7 0)::([] : List Int))))))))),(x1.2.1,(x1.2.2.1,()))),d0)) fun x2 =>
 Z.bind (yQs (((Z.get x2.1 0 0)::((Z.get x2.1 1 0)::((Z.get x2.1 2 0)::((Z.get x2.1 3 0)::((Z.get x2.1 4 0)::((Z.get x2.1 5 0)::((Z.get x2.1 6 0)::((Z.get x2.1 7 0)::([] : List Int))))))))),(x2.2.1,(x2.2.2.1,())))) fun x3 =>
 if (Z.EqN (Z.len (Z.rep 32 0)) 32) then if (Z.EqN (Z.len (Z.norm 32 x3 0)) 32) then some (Z.norm 32 x3 0)
 else none
 else none
def xYo : PFn:={ args:=[(.list (.int .u8))],res:=[(.arr 32 (.int .u8))],fn:=yJb }
theorem wJe : zQz Tryd.prog cfg 47 xYo:=fnD sp0 (l:=[(76,yJt),(75,xQz),(74,yJs)]) zQ4 zQh (.cons xJn (.cons wWh (.cons xJm .nil))) (fun d=>by kernel_rfl)
def xWx (d0 : TCf×(List Int×((List (List Int×(List LBk×Unit)))×(List Int×(Int×(Int×Unit)))))) : Option (List Int) :=
 Z.bind (zKv (pCf d0.1)) fun x1 =>
 if (Z.EqN 0 (Z.len ([] : List Int))) then Z.loop (fun (s4 : List Int×Int) k5 =>
 (bif (Z.ilt s4.2 (Z.ofN (Z.len x1))) then if (Z.Ix s4.2 (Z.len d0.2.2.1)) then Z.bnd (Z.get d0.2.2.1 (Z.toN s4.2) (z32n,(([] : List LBk),()))) fun x8 =>
 if (Z.Big (Z.len s4.1) (Z.len (Z.slice (n32 x8.1) 0 32)) 1) then none
 else if (Z.EqN (Z.len s4.1) (Z.len s4.1)) then Z.bnd (Z.app s4.1 (Z.slice (n32 x8.1) 0 32)) fun x13 =>
 if (Z.EqN (Z.len x13) (Z.len x13)) then Z.loop (fun (s16 : List Int×Int) k17 =>
 (bif (Z.ilt s16.2 d0.1.2.2.2.2.1) then if (Z.Ix s4.2 (Z.len d0.2.2.1)) then Z.bnd (Z.get d0.2.2.1 (Z.toN s4.2) (z32n,(([] : List LBk),()))) fun x20 =>
 (bif (Z.ilt s16.2 (Z.ofN (Z.len x20.2.1))) then if (Z.Ix s4.2 (Z.len d0.2.2.1)) then Z.bnd (Z.get d0.2.2.1 (Z.toN s4.2) (z32n,(([] : List LBk),()))) fun x23 =>
 if (Z.Ix s16.2 (Z.len x23.2.1)) then Z.bnd (Z.get x23.2.1 (Z.toN s16.2) (0,(0,(([] : List Int),())))) fun x26 =>
 Z.bind (yZb (x26.1,(x26.2.1,(x26.2.2.1,())))) fun x27 =>
 if (Z.Big (Z.len s16.1) (Z.len x27) 1) then none
 else if (Z.EqN (Z.len s16.1) (Z.len s16.1)) then Z.bnd (Z.app s16.1 x27) fun x32 =>
 Z.bnd (Z.wrap .i64 (Z.add s16.2 1)) fun x33 =>
 if (Z.EqN (Z.len x32) (Z.len x32)) then k17 (x32,x33)
 else none
 else none
 else none
 else none
 else if (Z.Ix s4.2 (Z.len x1)) then Z.bnd (Z.get x1 (Z.toN s4.2) zLv) fun x38 =>
 Z.bnd (Z.wrap .i64 (Z.add 8 x38.2.1)) fun x39 =>
 if (Z.ZOk x39 1) then Z.bnd (Z.rep (α:=Int) (Z.toN x39) 0) fun x42 =>
 if (Z.Big (Z.len s16.1) (Z.len x42) 1) then none
 else if (Z.EqN (Z.len s16.1) (Z.len s16.1)) then Z.bnd (Z.app s16.1 x42) fun x47 =>
 Z.bnd (Z.wrap .i64 (Z.add s16.2 1)) fun x48 =>
 if (Z.EqN (Z.len x47) (Z.len x47)) then k17 (x47,x48)
 else none
 else none
 else none
 else none)
 else none
 else Z.bnd (Z.wrap .i64 (Z.add s4.2 1)) fun x51 =>
 if (Z.EqN (Z.len s16.1) (Z.len s16.1)) then k5 (s16.1,x51)
 else none)) (x13,0)
 else none
 else none
 else none
 else if (Z.EqN (Z.len s4.1) (Z.len s4.1)) then Z.loop (fun (s56 : List Int×Int) k57 =>
 (bif (Z.ilt s56.2 (Z.ofN (Z.len d0.2.2.2.1))) then if (Z.Ix s56.2 (Z.len d0.2.2.2.1)) then Z.bnd (Z.get d0.2.2.2.1 (Z.toN s56.2) 0) fun x60 =>
 Z.bind (yQo x60) fun x61 =>
 if (Z.Big (Z.len s56.1) (Z.len x61) 1) then none
 else if (Z.EqN (Z.len s56.1) (Z.len s56.1)) then Z.bnd (Z.app s56.1 x61) fun x66 =>
 Z.bnd (Z.wrap .i64 (Z.add s56.2 1)) fun x67 =>
 if (Z.EqN (Z.len x66) (Z.len x66)) then k57 (x66,x67)
 else none
 else none
 else none
 else if (Z.Le 32 (Z.len (Z.norm 32 d0.2.1 0))) then if (Z.Lt 0 32) then if (Z.Le (Z.addN 0 (Z.subN 32 0)) (Z.len (Z.norm 32 d0.2.1 0))) then if (Z.Le (Z.addN 0 0) (Z.len ([] : List Int))) then if (Z.Big (Z.len (Z.seg ([] : List Int) 0 0)) (Z.len (Z.seg (Z.norm 32 d0.2.1 0) 0 (Z.subN 32 0))) 1) then none
 else Z.bnd (Z.app (Z.seg ([] : List Int) 0 0) (Z.seg (Z.norm 32 d0.2.1 0) 0 (Z.subN 32 0))) fun x80 =>
 if (Z.Big (Z.len x80) (Z.len s56.1) 1) then none
 else if (Z.EqN (Z.len x80) (Z.len x80)) then Z.bnd (Z.app x80 s56.1) fun x85 =>
 Z.bind (yJb x85) fun x86 =>
 if (Z.EqN (Z.len (Z.rep 32 0)) 32) then if (Z.Le 32 (Z.len (Z.norm 32 x86 0))) then if (Z.Lt 0 32) then if (Z.Le (Z.addN 0 (Z.subN 32 0)) (Z.len (Z.norm 32 x86 0))) then if (Z.Big (Z.len s56.1) (Z.len (Z.seg (Z.norm 32 x86 0) 0 (Z.subN 32 0))) 1) then none
 else if (Z.EqN (Z.len s56.1) (Z.len s56.1)) then Z.bnd (Z.app s56.1 (Z.seg (Z.norm 32 x86 0) 0 (Z.subN 32 0))) fun x99 =>
 some x99
 else none
 else none
 else if (Z.Big (Z.len s56.1) (Z.len ([] : List Int)) 1) then none
 else if (Z.EqN (Z.len s56.1) (Z.len s56.1)) then Z.bnd (Z.app s56.1 ([] : List Int)) fun x104 =>
 some x104
 else none
 else none
 else none
 else none
 else none
 else none
 else if (Z.Le (Z.addN 0 0) (Z.len ([] : List Int))) then if (Z.Big (Z.len (Z.seg ([] : List Int) 0 0)) (Z.len ([] : List Int)) 1) then none
 else Z.bnd (Z.app (Z.seg ([] : List Int) 0 0) ([] : List Int)) fun x109 =>
 if (Z.Big (Z.len x109) (Z.len s56.1) 1) then none
 else if (Z.EqN (Z.len x109) (Z.len x109)) then Z.bnd (Z.app x109 s56.1) fun x114 =>
 Z.bind (yJb x114) fun x115 =>
 if (Z.EqN (Z.len (Z.rep 32 0)) 32) then if (Z.Le 32 (Z.len (Z.norm 32 x115 0))) then if (Z.Lt 0 32) then if (Z.Le (Z.addN 0 (Z.subN 32 0)) (Z.len (Z.norm 32 x115 0))) then if (Z.Big (Z.len s56.1) (Z.len (Z.seg (Z.norm 32 x115 0) 0 (Z.subN 32 0))) 1) then none
 else if (Z.EqN (Z.len s56.1) (Z.len s56.1)) then Z.bnd (Z.app s56.1 (Z.seg (Z.norm 32 x115 0) 0 (Z.subN 32 0))) fun x128 =>
 some x128
 else none
 else none
 else if (Z.Big (Z.len s56.1) (Z.len ([] : List Int)) 1) then none
 else if (Z.EqN (Z.len s56.1) (Z.len s56.1)) then Z.bnd (Z.app s56.1 ([] : List Int)) fun x133 =>
 some x133
 else none
 else none
 else none
 else none
 else none
 else none)) (s4.1,0)
 else none)) (([] : List Int),0)
 else none
def xYl : PFn:={ args:=[cCf,(.arr 32 (.int .u8)),(.pair (.list (.pair (.arr 32 (.int .u8)) (.pair (.list cBk) .unit))) (.pair (.list (.int .i64)) (.pair (.int .u64) (.pair (.int .u64) .unit))))],res:=[(.list (.int .u8))],fn:=xWx }
def uXs : List LSpec×List Nat:=([{ id:=2400,known:=true,toks:=[(8,(.int .u8))],items:=[.slot 8 (.slt (.int .u8) (some 1000008) false), .slot 9 (.val (.int .i64))],junk:=[15,16,17,18,21,22,23,24,25,26,27,28,10,29,30,31,32,35,36,37,38,39,40,41,42,43,44,45,46,47,48,49,50,51,52,53,54,55,56,57,58,59,60,61,62,63,33,34,19,20],tails:=[(1000008,8)] },{ id:=2401,known:=true,toks:=[(8,(.int .u8))],items:=[.slot 8 (.slt (.int .u8) (some 1000008) false), .slot 10 (.val (.int .i64))],junk:=[29,30,31,32,35,36,37,38,39,40,41,42,43,44,45,46,47,48,49,50,51,52,53,54,55,56,57,58,59,60,61,62,63,33,34],tails:=[(1000008,8)] },{ id:=2402,known:=true,toks:=[(8,(.int .u8))],items:=[.slot 8 (.slt (.int .u8) (some 1000008) false), .slot 11 (.val (.int .i64))],junk:=[64,65,66,67,68,71,72,73,74,75,76,77,78,69,70],tails:=[(1000008,8)] }],[])
def spt24 : Tab (List LSpec×List Nat):=(.node .leaf none (.node (.node (.node .leaf none (.node .leaf (some uXs) .leaf)) none .leaf) none .leaf))
def spf24 (f : Nat) : List LSpec×List Nat:=(spt24.get f).getD ([],[])
theorem wJb : zQz Tryd.prog cfg 24 xYl:=fnD spf24 (l:=[(34,zKh),(45,xYm),(46,yJn),(47,xYo)]) zQ4 zQh (.cons zKx (.cons wJc (.cons xJh (.cons wJe .nil)))) (fun d=>by kernel_rfl)
def yX7 (d0 : TCf×(List Int×((List (List Int×(List LBk×Unit)))×(List Int×(Int×(Int×Unit)))))) : Option (List Int×Int) :=
 Z.bind (yK6 ((pCf d0.1),(pLv d0.2.2))) fun x1 =>
 (bif (Z.bnot x1) then some (([] : List Int),8)
 else Z.loop (fun (s2 : Int) k3 =>
 (bif (Z.ilt s2 (Z.ofN (Z.len d0.2.2.1))) then if (Z.Ix s2 (Z.len d0.2.2.1)) then Z.bnd (Z.get d0.2.2.1 (Z.toN s2) (z32n,(([] : List LBk),()))) fun x6 =>
 (bif (Z.igt (Z.ofN (Z.len x6.2.1)) d0.1.2.2.2.2.1) then some (([] : List Int),4)
 else Z.bnd (Z.wrap .i64 (Z.add s2 1)) fun x7 =>
 k3 x7)
 else none
 else if (Z.EqN (Z.len (Z.norm 32 d0.2.1 0)) 32) then Z.bind (xWx ((pCf d0.1),((Z.norm 32 d0.2.1 0),(pLv d0.2.2)))) fun x10 =>
 some (x10,0)
 else none)) 0)
def xQu : PFn:={ args:=[cCf,(.arr 32 (.int .u8)),(.pair (.list (.pair (.arr 32 (.int .u8)) (.pair (.list cBk) .unit))) (.pair (.list (.int .i64)) (.pair (.int .u64) (.pair (.int .u64) .unit))))],res:=[(.list (.int .u8)),(.int .i64)],fn:=yX7 }
def sp9_9 : List LSpec×List Nat:=([{ id:=900,known:=true,toks:=[],items:=[.slot 8 (.val (.int .i64))],junk:=[13,14,15,16,17,20,21,22,23,24,25,26,27,28,29,6,7,18,19],tails:=[] }],[])
def spt9 : Tab (List LSpec×List Nat):=(.node (.node .leaf none (.node (.node .leaf (some sp9_9) .leaf) none .leaf)) none .leaf)
def spf9 (f : Nat) : List LSpec×List Nat:=(spt9.get f).getD ([],[])
theorem wWc : zQz Tryd.prog cfg 9 xQu:=fnD spf9 (l:=[(23,xZi),(24,xYl)]) zQ4 zQh (.cons wZe (.cons wJb .nil)) (fun d=>by kernel_rfl)
def zY2 (d0 : List Int×(List Int)) : Option Bool :=
 Z.bnd (Z.str d0.1) fun x1 =>
 Z.bnd (Z.str d0.2) fun x2 =>
 some (Z.seq x1 x2)
def yXa : PFn:={ args:=[(.list (.int .u8)),(.list (.int .u8))],res:=[.bool],fn:=zY2 }
theorem yJj : zQz Tryd.prog cfg 10 yXa:=fnD sp0 (l:=[]) zQ4 zQh .nil (fun d=>by kernel_rfl)
def zKr (d0 : List Int×(List Int)) : Option Bool :=
 (bif (Z.ine (Z.ofN (Z.len d0.1)) (Z.ofN (Z.len d0.2))) then some false
 else Z.loop (fun (s1 : Int) k2 =>
 (bif (Z.ilt s1 (Z.ofN (Z.len d0.1))) then if (Z.Ix s1 (Z.len d0.1)) then Z.bnd (Z.get d0.1 (Z.toN s1) 0) fun x5 =>
 if (Z.Ix s1 (Z.len d0.2)) then Z.bnd (Z.get d0.2 (Z.toN s1) 0) fun x8 =>
 (bif (Z.ine x5 x8) then some false
 else Z.bnd (Z.wrap .i64 (Z.add s1 1)) fun x9 =>
 k2 x9)
 else none
 else none
 else some true)) 0)
def yWh : PFn:={ args:=[(.list (.int .i64)),(.list (.int .i64))],res:=[.bool],fn:=zKr }
def uXr : List LSpec×List Nat:=([{ id:=2500,known:=true,toks:=[],items:=[.slot 5 (.val (.int .i64))],junk:=[11,12,13,14,17,18,19,20,21,22,23,24,25,4,15,16],tails:=[] }],[])
def spt25 : Tab (List LSpec×List Nat):=(.node (.node .leaf none (.node (.node .leaf none (.node .leaf (some uXr) .leaf)) none .leaf)) none .leaf)
def spf25 (f : Nat) : List LSpec×List Nat:=(spt25.get f).getD ([],[])
theorem yYu : zQz Tryd.prog cfg 25 yWh:=fnD spf25 (l:=[]) zQ4 zQh .nil (fun d=>by kernel_rfl)
def yZa (d0 : LBk×LBk) : Option Bool :=
 (bif (Z.ieq d0.1.1 d0.2.1) then (bif (Z.zQr true (Z.ieq d0.1.2.1 d0.2.2.1) false) then Z.bind (zY2 (d0.1.2.2.1,d0.2.2.2.1)) fun x1 =>
 some (Z.zQr true x1 false)
 else some false)
 else some false)
def xQx : PFn:={ args:=[cBk,cBk],res:=[.bool],fn:=yZa }
theorem wWf : zQz Tryd.prog cfg 77 xQx:=fnD sp0 (l:=[(10,yXa)]) zQ4 zQh (.cons yJj .nil) (fun d=>by kernel_rfl)
def zJj (d0 : List LBk×(List LBk)) : Option Bool :=
 (bif (Z.ine (Z.ofN (Z.len d0.1)) (Z.ofN (Z.len d0.2))) then some false
 else Z.loop (fun (s1 : Int) k2 =>
 (bif (Z.ilt s1 (Z.ofN (Z.len d0.1))) then if (Z.Ix s1 (Z.len d0.1)) then Z.bnd (Z.get d0.1 (Z.toN s1) (0,(0,(([] : List Int),())))) fun x5 =>
 if (Z.Ix s1 (Z.len d0.2)) then Z.bnd (Z.get d0.2 (Z.toN s1) (0,(0,(([] : List Int),())))) fun x8 =>
 Z.bind (yZa ((x5.1,(x5.2.1,(x5.2.2.1,()))),(x8.1,(x8.2.1,(x8.2.2.1,()))))) fun x9 =>
 (bif (Z.bnot x9) then some false
 else Z.bnd (Z.wrap .i64 (Z.add s1 1)) fun x10 =>
 k2 x10)
 else none
 else none
 else some true)) 0)
def yW6 : PFn:={ args:=[(.list cBk),(.list cBk)],res:=[.bool],fn:=zJj }
def uXg : List LSpec×List Nat:=([{ id:=4800,known:=true,toks:=[],items:=[.slot 5 (.val (.int .i64))],junk:=[11,12,13,14,17,18,19,20,21,22,23,24,25,26,4,15,16],tails:=[] }],[])
def spt48 : Tab (List LSpec×List Nat):=(.node .leaf none (.node (.node (.node (.node .leaf none (.node .leaf (some uXg) .leaf)) none .leaf) none .leaf) none .leaf))
def spf48 (f : Nat) : List LSpec×List Nat:=(spt48.get f).getD ([],[])
theorem xWr : zQz Tryd.prog cfg 48 yW6:=fnD spf48 (l:=[(77,xQx)]) zQ4 zQh (.cons wWf .nil) (fun d=>by kernel_rfl)
def zKq (d0 : (List Int×(List LBk×Unit))×(List Int×(List LBk×Unit))) : Option Bool :=
 (bif (Z.andB (Z.ieq (Z.get d0.1.1 0 0) (Z.get d0.2.1 0 0)) (Z.andB (Z.ieq (Z.get d0.1.1 1 0) (Z.get d0.2.1 1 0)) (Z.andB (Z.ieq (Z.get d0.1.1 2 0) (Z.get d0.2.1 2 0)) (Z.andB (Z.ieq (Z.get d0.1.1 3 0) (Z.get d0.2.1 3 0)) (Z.andB (Z.ieq (Z.get d0.1.1 4 0) (Z.get d0.2.1 4 0)) (Z.andB (Z.ieq (Z.get d0.1.1 5 0) (Z.get d0.2.1 5 0)) (Z.andB (Z.ieq (Z.get d0.1.1 6 0) (Z.get d0.2.1 6 0)) (Z.andB (Z.ieq (Z.get d0.1.1 7 0) (Z.get d0.2.1 7 0)) (Z.andB (Z.ieq (Z.get d0.1.1 8 0) (Z.get d0.2.1 8 0)) (Z.andB (Z.ieq (Z.get d0.1.1 9 0) (Z.get d0.2.1 9 0)) (Z.andB (Z.ieq (Z.get d0.1.1 10 0) (Z.get d0.2.1 10 0)) (Z.andB (Z.ieq (Z.get d0.1.1 11 0) (Z.get d0.2.1 11 0)) (Z.andB (Z.ieq (Z.get d0.1.1 12 0) (Z.get d0.2.1 12 0)) (Z.andB (Z.ieq (Z.get d0.1.1 13 0) (Z.get d0.2.1 13 0)) (Z.andB (Z.ieq (Z.get d0.1.1 14 0) (Z.get d0.2.1 14 0)) (Z.andB (Z.ieq (Z.get d0.1.1 15 0) (Z.get d0.2.1 15 0)) (Z.andB (Z.ieq (Z.get d0.1.1 16 0) (Z.get d0.2.1 16 0)) (Z.andB (Z.ieq (Z.get d0.1.1 17 0) (Z.get d0.2.1 17 0)) (Z.andB (Z.ieq (Z.get d0.1.1 18 0) (Z.get d0.2.1 18 0)) (Z.andB (Z.ieq (Z.get d0.1.1 19 0) (Z.get d0.2.1 19 0)) (Z.andB (Z.ieq (Z.get d0.1.1 20 0) (Z.get d0.2.1 20 0)) (Z.andB (Z.ieq (Z.get d0.1.1 21 0) (Z.get d0.2.1 21 0)) (Z.andB (Z.ieq (Z.get d0.1.1 22 0) (Z.get d0.2.1 22 0)) (Z.andB (Z.ieq (Z.get d0.1.1 23 0) (Z.get d0.2.1 23 0)) (Z.andB (Z.ieq (Z.get d0.1.1 24 0) (Z.get d0.2.1 24 0)) (Z.andB (Z.ieq (Z.get d0.1.1 25 0) (Z.get d0.2.1 25 0)) (Z.andB (Z.ieq (Z.get d0.1.1 26 0) (Z.get d0.2.1 26 0)) (Z.andB (Z.ieq (Z.get d0.1.1 27 0) (Z.get d0.2.1 27 0)) (Z.andB (Z.ieq (Z.get d0.1.1 28 0) (Z.get d0.2.1 28 0)) (Z.andB (Z.ieq (Z.get d0.1.1 29 0) (Z.get d0.2.1 29 0)) (Z.andB (Z.ieq (Z.get d0.1.1 30 0) (Z.get d0.2.1 30 0)) (Z.andB (Z.ieq (Z.get d0.1.1 31 0) (Z.get d0.2.1 31 0)) true)))))))))))))))))))))))))))))))) then Z.bind (zJj (d0.1.2.1,d0.2.2.1)) fun x1 =>
 some (Z.zQr true x1 false)
 else some false)
def yWg : PFn:={ args:=[(.pair (.arr 32 (.int .u8)) (.pair (.list cBk) .unit)),(.pair (.arr 32 (.int .u8)) (.pair (.list cBk) .unit))],res:=[.bool],fn:=zKq }
theorem yYt : zQz Tryd.prog cfg 26 yWg:=fnD sp0 (l:=[(48,yW6)]) zQ4 zQh (.cons xWr .nil) (fun d=>by kernel_rfl)
def zZ0 (d0 : ((List (List Int×(List LBk×Unit)))×(List Int×(Int×(Int×Unit))))×((List (List Int×(List LBk×Unit)))×(List Int×(Int×(Int×Unit))))) : Option Bool :=
 (bif (Z.ine (Z.ofN (Z.len d0.1.1)) (Z.ofN (Z.len d0.2.1))) then some false
 else Z.bind (zKr (d0.1.2.1,d0.2.2.1)) fun x1 =>
 (bif (Z.zQr false true (Z.bnot x1)) then some false
 else (bif (Z.zQr false true (Z.ine d0.1.2.2.1 d0.2.2.2.1)) then some false
 else (bif (Z.zQr false true (Z.ine d0.1.2.2.2.1 d0.2.2.2.2.1)) then some false
 else Z.loop (fun (s2 : Int) k3 =>
 (bif (Z.ilt s2 (Z.ofN (Z.len d0.1.1))) then if (Z.Ix s2 (Z.len d0.1.1)) then Z.bnd (Z.get d0.1.1 (Z.toN s2) (z32n,(([] : List LBk),()))) fun x6 =>
 if (Z.Ix s2 (Z.len d0.2.1)) then Z.bnd (Z.get d0.2.1 (Z.toN s2) (z32n,(([] : List LBk),()))) fun x9 =>
 Z.bind (zKq (((n32 x6.1),(x6.2.1,())),((n32 x9.1),(x9.2.1,())))) fun x10 =>
 (bif (Z.bnot x10) then some false
 else Z.bnd (Z.wrap .i64 (Z.add s2 1)) fun x11 =>
 k3 x11)
 else none
 else none
 else some true)) 0))))
def zY7 : PFn:={ args:=[(.pair (.list (.pair (.arr 32 (.int .u8)) (.pair (.list cBk) .unit))) (.pair (.list (.int .i64)) (.pair (.int .u64) (.pair (.int .u64) .unit)))),(.pair (.list (.pair (.arr 32 (.int .u8)) (.pair (.list cBk) .unit))) (.pair (.list (.int .i64)) (.pair (.int .u64) (.pair (.int .u64) .unit))))],res:=[.bool],fn:=zZ0 }
def uXz : List LSpec×List Nat:=([{ id:=1100,known:=true,toks:=[],items:=[.slot 5 (.val (.int .i64))],junk:=[35,36,37,38,39,42,43,44,45,46,47,48,49,50,51,52,53,4,40,41],tails:=[] }],[])
def spt11 : Tab (List LSpec×List Nat):=(.node (.node (.node .leaf none (.node .leaf (some uXz) .leaf)) none .leaf) none .leaf)
def spf11 (f : Nat) : List LSpec×List Nat:=(spt11.get f).getD ([],[])
theorem yJh : zQz Tryd.prog cfg 11 zY7:=fnD spf11 (l:=[(25,yWh),(26,yWg)]) zQ4 zQh (.cons yYu (.cons yYt .nil)) (fun d=>by kernel_rfl)
def zZk (d0 : TCf×(List Int×((List (List Int×(List LBk×Unit)))×(List Int×(Int×(Int×Unit)))))) : Option Bool :=
 Z.bind (yQn ((pLv d0.2.2),(([] : List (List (List Int))),()))) fun x1 =>
 (bif x1 then some true
 else Z.bind (zZz (pLv d0.2.2)) fun x2 =>
 Z.bind (yX0 (pCf d0.1)) fun x3 =>
 Z.bind (yX6 (pCf d0.1)) fun x4 =>
 if (Z.EqN (Z.len (Z.norm 32 d0.2.1 0)) 32) then Z.bind (yX1 ((pCf d0.1),((Z.norm 32 d0.2.1 0),(pLv x2)))) fun x7 =>
 if (Z.EqN (Z.len (Z.norm 32 d0.2.1 0)) 32) then Z.bind (yX7 ((pCf d0.1),((Z.norm 32 d0.2.1 0),(pLv d0.2.2)))) fun x10 =>
 Z.join (σ:=Bool) (fun k11 =>
 (bif (Z.ieq x3.1 x4.1) then (bif (Z.zQr true (Z.ieq x3.2 x4.2) false) then Z.bind (zY2 (x7.1,x10.1)) fun x12 =>
 (bif (Z.zQr true x12 false) then (bif (Z.zQr true (Z.ieq x7.2 x10.2) false) then Z.bind (zZ0 ((pLv x2),(pLv d0.2.2))) fun x13 =>
 k11 (Z.zQr true x13 false)
 else k11 false)
 else k11 false)
 else k11 false)
 else k11 false)) fun j14 =>
 some j14
 else none
 else none)
def zX4 : PFn:={ args:=[cCf,(.arr 32 (.int .u8)),(.pair (.list (.pair (.arr 32 (.int .u8)) (.pair (.list cBk) .unit))) (.pair (.list (.int .i64)) (.pair (.int .u64) (.pair (.int .u64) .unit))))],res:=[.bool],fn:=zZk }
def sp3_52 : List LSpec×List Nat:=([uk 5052000,uk 5200,{ id:=5052001,known:=true,toks:=[],items:=[.slot 18 (.val .bool)],junk:=[10,11,12,13,14,15,16,17],tails:=[] },uk 5052002,uk 5052003],[])
def sp3_80 : List LSpec×List Nat:=([uk 5080000,{ id:=5080001,known:=true,toks:=[],items:=[.slot 3 (.val .bool)],junk:=[4,5,6,7,8,9,10,11,12],tails:=[] }],[])
def sp3_81 : List LSpec×List Nat:=([uk 5081000,{ id:=5081001,known:=true,toks:=[],items:=[.slot 13 (.val .bool)],junk:=[6,7,8,9,10,11,12],tails:=[] },uk 5081002,uk 5081003,uk 5081004,uk 5081005],[])
def sp3_3 : List LSpec×List Nat:=([uk 5003000,uk 5003001,uk 5003002,uk 5003003,uk 5003004,uk 5003005,uk 5003006,uk 5003007,uk 5003008,{ id:=5003009,known:=true,toks:=[],items:=[.slot 6 (.val .bool)],junk:=[45,46,47,48,49,50,51,52,53,54,55,56,57,58,59,60,61,62,63,64,65,66,67],tails:=[] }],[])
def spt3 : Tab (List LSpec×List Nat):=(.node (.node (.node .leaf (some sp3_3) .leaf) none (.node (.node (.node .leaf none (.node (.node .leaf (some sp3_81) .leaf) none .leaf)) none .leaf) none .leaf)) none (.node (.node (.node (.node .leaf none (.node (.node .leaf (some sp3_80) .leaf) none .leaf)) none .leaf) none (.node (.node .leaf none (.node .leaf (some sp3_52) .leaf)) none .leaf)) none .leaf))
def spf3 (f : Nat) : List LSpec×List Nat:=(spt3.get f).getD ([],[])
theorem yKb : zQz Tryd.prog cfg 3 zX4:=fnD spf3 (l:=[(4,yJm),(5,zY6),(6,xQo),(7,xQt),(8,xQp),(9,xQu),(10,yXa),(11,zY7)]) zQ4 zQh (.cons xJg (.cons yJg (.cons wQ6 (.cons wWb (.cons wQ7 (.cons wWc (.cons yJj (.cons yJh .nil)))))))) (fun d=>by kernel_rfl)
end
end Go.Proofs.YtfeemnbhcafofaaDoor
