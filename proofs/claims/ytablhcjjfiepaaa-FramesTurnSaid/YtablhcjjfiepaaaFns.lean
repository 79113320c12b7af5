/- The functions of the program, as functions on plain data. -/
import Derived.Test.YtablhcjjfiepaaaCfg
import Derived.Test.YtablhcjjfiepaaaM6
import Derived.ProofKit
import Derived.Test.YtablhcjjfiepaaaConfS
namespace Go.Proofs.Ytablhcjjfiepaaa
open Go.Eng
set_option linter.unusedVariables false
set_option maxRecDepth 100000
abbrev TFr : Type:=Int×(Int×(List Int×(List Int×(Bool×(Bool×Unit)))))
abbrev TMf : Type:=Int×(Int×(MixE Int×(MixE Int×(Bool×(Bool×Unit)))))
abbrev TCf : Type:=Int×(Int×(Int×(Int×(Int×(Int×(Int×(Int×(Int×Unit))))))))
@[reducible] def zFr : TFr:=(0,(0,([],([],(false,(false,()))))))
@[reducible] def zMf : TMf:=(0,(0,(.nil,(.nil,(false,(false,()))))))
@[reducible] def pCf (c : TCf) : TCf:=(c.1,(c.2.1,(c.2.2.1,(c.2.2.2.1,(c.2.2.2.2.1,(c.2.2.2.2.2.1,(c.2.2.2.2.2.2.1,(c.2.2.2.2.2.2.2.1,(c.2.2.2.2.2.2.2.2.1,())))))))))
def uk (i : Nat) : LSpec:={ id:=i,known:=false,toks:=[],items:=[],junk:=[],tails:=[] }
def sp0 (f : Nat) : List LSpec×List Nat:=([],[])
noncomputable def zXw (d0 : Int×(Int×(Int×Unit))) : Option Bool :=
 (bif (Dat.ile d0.2.1 d0.1) then some (Dat.zQd true (Dat.ile d0.1 d0.2.2.1) false)
 else some false)
noncomputable def zKp : PFn:={ args:=[(.pair (.int .i64) (.pair (.int .i64) (.pair (.int .i64) .unit)))],res:=[.bool],fn:=zXw }
theorem yQo : zWp Try.prog cfg 79 zKp:=fnD sp0 (l:=[]) zW0 zQt .nil (fun d=>by kernel_rfl)
noncomputable def yK7 (d0 : Int) : Option Int :=
 (bif (Dat.ilt d0 1) then some 2
 else (bif (Dat.zQd false true (Dat.igt d0 6)) then some 2
 else some 0))
noncomputable def xW1 : PFn:={ args:=[(.int .i64)],res:=[(.int .i64)],fn:=yK7 }
theorem wQr : zWp Try.prog cfg 98 xW1:=fnD sp0 (l:=[]) zW0 zQt .nil (fun d=>by kernel_rfl)
noncomputable def yX4 (d0 : Int) : Option (Int×Int) :=
 Dat.bind (yK7 d0) fun x1 =>
 (bif (Dat.ine x1 0) then some (0,x1)
 else if (Dat.Neg d0) then none
 else Dat.bnd (Dat.shl .i64 1 d0) fun x4 =>
 some (x4,0))
noncomputable def yYy : PFn:={ args:=[(.int .i64)],res:=[(.int .i64),(.int .i64)],fn:=yX4 }
theorem xJt : zWp Try.prog cfg 97 yYy:=fnD sp0 (l:=[(98,xW1)]) zW0 zQt (.cons wQr .nil) (fun d=>by kernel_rfl)
noncomputable def yJi (d0 : Int) : Option Int :=
 Dat.loop (fun (s1 : Int) k2 =>
 Dat.bind (yX4 s1) fun x3 =>
 (bif (Dat.ine x3.2 0) then some s1
 else (bif (Dat.zQd false true (Dat.ige x3.1 d0)) then some s1
 else Dat.bnd (Dat.wrap .i64 (Dat.add s1 1)) fun x4 =>
 k2 x4))) 1
noncomputable def xW2 : PFn:={ args:=[(.int .i64)],res:=[(.int .i64)],fn:=yJi }
def uQb : List LSpec×List Nat:=([{ id:=9500,known:=true,toks:=[],items:=[.slot 3 (.val (.int .i64))],junk:=[9,10,8,11,12,4,5,13,14,15,16,17,18,19,20,2,6,7],tails:=[] }],[])
def spt95 : Tab (List LSpec×List Nat):=(.node (.node (.node (.node (.node (.node .leaf none (.node .leaf (some uQb) .leaf)) none .leaf) none .leaf) none .leaf) none .leaf) none .leaf)
def spf95 (f : Nat) : List LSpec×List Nat:=(spt95.get f).getD ([],[])
theorem wQs : zWp Try.prog cfg 95 xW2:=fnD spf95 (l:=[(97,yYy)]) zW0 zQt (.cons xJt .nil) (fun d=>by kernel_rfl)
noncomputable def yQe (d0 : TCf×(Int×Int)) : Option (Int×(Int×(Int×(Int×Unit)))) :=
 Dat.bnd (Dat.wrap .i64 (Dat.add 8 d0.2.2)) fun x1 =>
 Dat.bnd (Dat.wrap .i64 (Dat.mul d0.1.2.2.2.1 x1)) fun x2 =>
 Dat.bnd (Dat.wrap .i64 (Dat.add x2 64)) fun x3 =>
 Dat.bind (yJi d0.2.1) fun x4 =>
 some (d0.2.1,(d0.2.2,(x4,(x3,()))))
noncomputable def yYz : PFn:={ args:=[(.pair (.int .i64) (.pair (.int .i64) (.pair (.int .i64) (.pair (.int .i64) (.pair (.int .i64) (.pair (.int .i64) (.pair (.int .i64) (.pair (.int .i64) (.pair (.int .i64) .unit))))))))),(.int .i64),(.int .i64)],res:=[(.pair (.int .i64) (.pair (.int .i64) (.pair (.int .i64) (.pair (.int .i64) .unit))))],fn:=yQe }
theorem xJu : zWp Try.prog cfg 90 yYz:=fnD sp0 (l:=[(95,xW2)]) zW0 zQt (.cons wQs .nil) (fun d=>by kernel_rfl)
noncomputable def yZ8 (d0 : TCf×(Int×(Int×(Int×(Int×Unit))))) : Option Bool :=
 some (Dat.ile d0.2.1 d0.1.2.2.2.2.2.2.2.2.1)
noncomputable def yK0 : PFn:={ args:=[(.pair (.int .i64) (.pair (.int .i64) (.pair (.int .i64) (.pair (.int .i64) (.pair (.int .i64) (.pair (.int .i64) (.pair (.int .i64) (.pair (.int .i64) (.pair (.int .i64) .unit))))))))),(.pair (.int .i64) (.pair (.int .i64) (.pair (.int .i64) (.pair (.int .i64) .unit))))],res:=[.bool],fn:=yZ8 }
theorem xZj : zWp Try.prog cfg 91 yK0:=fnD sp0 (l:=[]) zW0 zQt .nil (fun d=>by kernel_rfl)
noncomputable def yX8 (d0 : TCf) : Option Int :=
 Dat.bind (yZ9 (d0.1,(d0.2.1,(d0.2.2.1,(d0.2.2.2.1,(d0.2.2.2.2.1,(d0.2.2.2.2.2.1,(d0.2.2.2.2.2.2.1,(d0.2.2.2.2.2.2.2.1,(d0.2.2.2.2.2.2.2.2.1,())))))))))) fun x1 =>
 Dat.loop (fun (s2 : Int) k3 =>
 (bif (Dat.ilt s2 9) then if (Dat.In s2 9) then Dat.bnd (Dat.get x1 (Dat.toN s2) (0,(0,(0,())))) fun x6 =>
 Dat.bind (zXw (x6.1,(x6.2.1,(x6.2.2.1,())))) fun x7 =>
 (bif (Dat.bnot x7) then some 8
 else Dat.bnd (Dat.wrap .i64 (Dat.add s2 1)) fun x8 =>
 k3 x8)
 else none
 else Dat.bind (yQe ((d0.1,(d0.2.1,(d0.2.2.1,(d0.2.2.2.1,(d0.2.2.2.2.1,(d0.2.2.2.2.2.1,(d0.2.2.2.2.2.2.1,(d0.2.2.2.2.2.2.2.1,(d0.2.2.2.2.2.2.2.2.1,()))))))))),(d0.1,d0.2.1))) fun x9 =>
 Dat.loop (fun (s10 : (Int×(Int×(Int×Int)))×Int) k11 =>
 Dat.bnd (Dat.wrap .i64 (Dat.add s10.2 1)) fun x12 =>
 Dat.bind (yZ8 ((d0.1,(d0.2.1,(d0.2.2.1,(d0.2.2.2.1,(d0.2.2.2.2.1,(d0.2.2.2.2.2.1,(d0.2.2.2.2.2.2.1,(d0.2.2.2.2.2.2.2.1,(d0.2.2.2.2.2.2.2.2.1,()))))))))),(s10.1.1,(s10.1.2.1,(s10.1.2.2.1,(s10.1.2.2.2,())))))) fun x13 =>
 (bif (Dat.zQd true (Dat.bnot x13) false) then Dat.bnd (Dat.wrap .i64 (Dat.add s10.1.1 d0.2.2.1)) fun x14 =>
 Dat.bnd (Dat.wrap .i64 (Dat.sub x14 1)) fun x15 =>
 if (Dat.IsZ d0.2.2.1) then none
 else Dat.bnd (Dat.wrap .i64 (Dat.tdiv x15 d0.2.2.1)) fun x18 =>
 Dat.bnd (Dat.wrap .i64 (Dat.mul 4 d0.2.2.1)) fun x19 =>
 Dat.bind (yQe ((d0.1,(d0.2.1,(d0.2.2.1,(d0.2.2.2.1,(d0.2.2.2.2.1,(d0.2.2.2.2.2.1,(d0.2.2.2.2.2.2.1,(d0.2.2.2.2.2.2.2.1,(d0.2.2.2.2.2.2.2.2.1,()))))))))),(x18,x19))) fun x20 =>
 k11 ((x20.1,(x20.2.1,(x20.2.2.1,x20.2.2.2.1))),x12)
 else (bif (Dat.igt x12 4) then some 8
 else some 0))) ((x9.1,(x9.2.1,(x9.2.2.1,x9.2.2.2.1))),0))) 0
noncomputable def yY0 : PFn:={ args:=[(.pair (.int .i64) (.pair (.int .i64) (.pair (.int .i64) (.pair (.int .i64) (.pair (.int .i64) (.pair (.int .i64) (.pair (.int .i64) (.pair (.int .i64) (.pair (.int .i64) .unit)))))))))],res:=[(.int .i64)],fn:=yX8 }
def uQn : List LSpec×List Nat:=([{ id:=8900,known:=true,toks:=[],items:=[.cells 1000003 [.val (.int .i64), .val (.int .i64), .val (.int .i64), .val (.int .i64)], .cells 1 [.val (.int .i64)]],junk:=[10,11,12,13,14,15,16,17,18,19,20,21,22,23,24,25,26,27,28,29,30,31,32],tails:=[] }],[])
def uQo : List LSpec×List Nat:=([{ id:=4100,known:=true,toks:=[],items:=[.slot 8 (.val (.int .i64))],junk:=[9,10,4,11,12,13,2,14],tails:=[] }],[])
def spt41 : Tab (List LSpec×List Nat):=(.node (.node .leaf none (.node (.node .leaf none (.node (.node .leaf (some uQo) .leaf) none (.node (.node .leaf (some uQn) .leaf) none .leaf))) none .leaf)) none .leaf)
def spf41 (f : Nat) : List LSpec×List Nat:=(spt41.get f).getD ([],[])
theorem xJv : zWp Try.prog cfg 41 yY0:=fnD spf41 (l:=[(78,yK1),(79,zKp),(90,yYz),(91,yK0)]) zW0 zQt (.cons xZk (.cons yQo (.cons xJu (.cons xZj .nil)))) (fun d=>by kernel_rfl)
noncomputable def zWl (d0 : ((List TFr)×(Int×Unit))×Int) : Option Bool :=
 (bif (Dat.ige d0.2 0) then some (Dat.zQd true (Dat.ilt d0.2 (Dat.ofN (Dat.len d0.1.1))) false)
 else some false)
noncomputable def zWw : PFn:={ args:=[(.pair (.list (.pair (.int .u8) (.pair (.int .i64) (.pair (.list (.int .u8)) (.pair (.list (.int .i64)) (.pair .bool (.pair .bool .unit))))))) (.pair (.int .i64) .unit)),(.int .i64)],res:=[.bool],fn:=zWl }
theorem zW1 : zWp Try.prog cfg 42 zWw:=fnD sp0 (l:=[]) zW0 zQt .nil (fun d=>by kernel_rfl)
noncomputable def zKw (d0 : Int) : Option Bool :=
 some (Dat.igt d0 0)
noncomputable def zJ2 : PFn:={ args:=[(.int .i64)],res:=[.bool],fn:=zKw }
theorem yZd : zWp Try.prog cfg 82 zJ2:=fnD sp0 (l:=[]) zW0 zQt .nil (fun d=>by kernel_rfl)
noncomputable def zW8 (d0 : TFr) : Option Bool :=
 Dat.loop (fun (s1 : Int) k2 =>
 (bif (Dat.ilt s1 (Dat.ofN (Dat.len d0.2.2.2.1))) then if (Dat.Ix s1 (Dat.len d0.2.2.2.1)) then Dat.bnd (Dat.get d0.2.2.2.1 (Dat.toN s1) 0) fun x5 =>
 Dat.bind (zKw x5) fun x6 =>
 (bif x6 then some (Dat.ige s1 0)
 else Dat.bnd (Dat.wrap .i64 (Dat.add s1 1)) fun x7 =>
 k2 x7)
 else none
 else some (Dat.ige (-1) 0))) 0
noncomputable def zKu : PFn:={ args:=[(.pair (.int .u8) (.pair (.int .i64) (.pair (.list (.int .u8)) (.pair (.list (.int .i64)) (.pair .bool (.pair .bool .unit))))))],res:=[.bool],fn:=zW8 }
def uQm : List LSpec×List Nat:=([{ id:=9200,known:=true,toks:=[],items:=[.slot 8 (.val (.int .i64))],junk:=[9,10,5,11,12,13,14,15,16,17,4,18],tails:=[] }],[])
def spt44 : Tab (List LSpec×List Nat):=(.node .leaf none (.node (.node .leaf none (.node .leaf none (.node .leaf none (.node (.node .leaf (some uQm) .leaf) none .leaf)))) none .leaf))
def spf44 (f : Nat) : List LSpec×List Nat:=(spt44.get f).getD ([],[])
theorem zYj : zWp Try.prog cfg 44 zKu:=fnD spf44 (l:=[(82,zJ2)]) zW0 zQt (.cons yZd .nil) (fun d=>by kernel_rfl)
noncomputable def zYo (d0 : TCf×TFr) : Option Bool :=
 (bif (Dat.ine (Dat.ofN (Dat.len d0.2.2.2.2.1)) d0.1.2.2.2.2.2.2.1) then some false
 else Dat.loop (fun (s1 : Int) k2 =>
 (bif (Dat.ilt s1 (Dat.ofN (Dat.len d0.2.2.2.2.1))) then if (Dat.Ix s1 (Dat.len d0.2.2.2.2.1)) then Dat.bnd (Dat.get d0.2.2.2.2.1 (Dat.toN s1) 0) fun x5 =>
 (bif (Dat.ilt x5 0) then some false
 else (bif (Dat.zQd false true (Dat.igt x5 8)) then some false
 else Dat.bnd (Dat.wrap .i64 (Dat.add s1 1)) fun x6 =>
 k2 x6))
 else none
 else (bif (Dat.ige d0.2.2.1 0) then (bif (Dat.ieq d0.2.1 0) then (bif (Dat.ieq d0.2.2.1 0) then (bif (Dat.zQd true (Dat.ieq (Dat.ofN (Dat.len d0.2.2.2.1)) 0) false) then Dat.bind (zW8 (d0.2.1,(d0.2.2.1,(d0.2.2.2.1,(d0.2.2.2.2.1,(d0.2.2.2.2.2.1,(d0.2.2.2.2.2.2.1,()))))))) fun x7 =>
 (bif (Dat.zQd true (Dat.bnot x7) false) then (bif (Dat.zQd true (Dat.bnot d0.2.2.2.2.2.1) false) then some (Dat.zQd true (Dat.bnot d0.2.2.2.2.2.2.1) false)
 else some false)
 else some false)
 else some false)
 else some false)
 else (bif (Dat.ieq d0.2.1 1) then (bif (Dat.zQd true (Dat.ilt d0.2.2.1 d0.1.1) false) then (bif (Dat.zQd true (Dat.ieq (Dat.ofN (Dat.len d0.2.2.2.1)) 0) false) then (bif (Dat.zQd true (Dat.bnot d0.2.2.2.2.2.2.1) false) then Dat.bind (zW8 (d0.2.1,(d0.2.2.1,(d0.2.2.2.1,(d0.2.2.2.2.1,(d0.2.2.2.2.2.1,(d0.2.2.2.2.2.2.1,()))))))) fun x8 =>
 some (Dat.zQd true x8 false)
 else some false)
 else some false)
 else some false)
 else (bif (Dat.ieq d0.2.1 2) then (bif (Dat.zQd true (Dat.ilt d0.2.2.1 d0.1.1) false) then some (Dat.zQd true (Dat.ieq (Dat.ofN (Dat.len d0.2.2.2.1)) d0.1.2.1) false)
 else some false)
 else some false)))
 else (bif (Dat.ieq d0.2.1 0) then (bif (Dat.ieq d0.2.2.1 0) then (bif (Dat.zQd true (Dat.ieq (Dat.ofN (Dat.len d0.2.2.2.1)) 0) false) then Dat.bind (zW8 (d0.2.1,(d0.2.2.1,(d0.2.2.2.1,(d0.2.2.2.2.1,(d0.2.2.2.2.2.1,(d0.2.2.2.2.2.2.1,()))))))) fun x9 =>
 (bif (Dat.zQd true (Dat.bnot x9) false) then (bif (Dat.zQd true (Dat.bnot d0.2.2.2.2.2.1) false) then some (Dat.zQd true (Dat.bnot d0.2.2.2.2.2.2.1) false)
 else some false)
 else some false)
 else some false)
 else some false)
 else (bif (Dat.ieq d0.2.1 1) then some false
 else (bif (Dat.ieq d0.2.1 2) then some false
 else some false)))))) 0)
noncomputable def yZm : PFn:={ args:=[(.pair (.int .i64) (.pair (.int .i64) (.pair (.int .i64) (.pair (.int .i64) (.pair (.int .i64) (.pair (.int .i64) (.pair (.int .i64) (.pair (.int .i64) (.pair (.int .i64) .unit))))))))),(.pair (.int .u8) (.pair (.int .i64) (.pair (.list (.int .u8)) (.pair (.list (.int .i64)) (.pair .bool (.pair .bool .unit))))))],res:=[.bool],fn:=zYo }
def uQh : List LSpec×List Nat:=([{ id:=6500,known:=true,toks:=[],items:=[.slot 17 (.val (.int .i64))],junk:=[18,19,20,6,21,22,23,24,25,26,4,27],tails:=[] }],[])
def spt65 : Tab (List LSpec×List Nat):=(.node (.node .leaf none (.node (.node (.node (.node (.node .leaf (some uQh) .leaf) none .leaf) none .leaf) none .leaf) none .leaf)) none .leaf)
def spf65 (f : Nat) : List LSpec×List Nat:=(spt65.get f).getD ([],[])
theorem xWv : zWp Try.prog cfg 65 yZm:=fnD spf65 (l:=[(44,zKu)]) zW0 zQt (.cons zYj .nil) (fun d=>by kernel_rfl)
noncomputable def zW9 (d0 : TCf×((List TFr)×(Int×Unit))) : Option Int :=
 Dat.bind (yX8 (pCf d0.1)) fun x1 =>
 (bif (Dat.ine x1 0) then some x1
 else (bif (Dat.ine (Dat.ofN (Dat.len d0.2.1)) d0.1.2.2.2.2.2.1) then some 8
 else Dat.bind (zWl ((d0.2.1,(d0.2.2.1,())),d0.2.2.1)) fun x2 =>
 (bif (Dat.zQd false true (Dat.bnot x2)) then some 8
 else Dat.loop (fun (s3 : Int×(List (Int×Int))) k4 =>
 (bif (Dat.ilt s3.1 (Dat.ofN (Dat.len d0.2.1))) then if (Dat.Ix s3.1 (Dat.len d0.2.1)) then Dat.bnd (Dat.get d0.2.1 (Dat.toN s3.1) zFr) fun x7 =>
 Dat.bind (zYo ((pCf d0.1),(x7.1,(x7.2.1,(x7.2.2.1,(x7.2.2.2.1,(x7.2.2.2.2.1,(x7.2.2.2.2.2.1,())))))))) fun x8 =>
 (bif (Dat.bnot x8) then some 8
 else (bif (Dat.ieq x7.1 0) then Dat.bnd (Dat.wrap .i64 (Dat.add s3.1 1)) fun x9 =>
 k4 (x9,s3.2)
 else Dat.bnd (Dat.mget s3.2 x7.2.1) fun x10 =>
 Dat.bnd (Dat.wrap .i64 (Dat.add x10 1)) fun x11 =>
 Dat.bnd (Dat.mput s3.2 x7.2.1 x11) fun x12 =>
 Dat.bnd (Dat.mget x12 x7.2.1) fun x13 =>
 (bif (Dat.igt x13 1) then some 8
 else Dat.bnd (Dat.wrap .i64 (Dat.add s3.1 1)) fun x14 =>
 k4 (x14,x12))))
 else none
 else some 0)) (0,([] : List (Int×Int))))))
noncomputable def zXi : PFn:={ args:=[(.pair (.int .i64) (.pair (.int .i64) (.pair (.int .i64) (.pair (.int .i64) (.pair (.int .i64) (.pair (.int .i64) (.pair (.int .i64) (.pair (.int .i64) (.pair (.int .i64) .unit))))))))),(.pair (.list (.pair (.int .u8) (.pair (.int .i64) (.pair (.list (.int .u8)) (.pair (.list (.int .i64)) (.pair .bool (.pair .bool .unit))))))) (.pair (.int .i64) .unit))],res:=[(.int .i64)],fn:=zW9 }
def uQr : List LSpec×List Nat:=([{ id:=2900,known:=true,toks:=[],items:=[.slot 31 (.val (.int .i64)), .map 1000006 .i64 .i64],junk:=[32,33,34,8,35,36,37,38,4,39,40,41,42,43,44,45,46,47,48,49,50,51,52],tails:=[] }],[])
def spt29 : Tab (List LSpec×List Nat):=(.node (.node .leaf none (.node .leaf none (.node .leaf none (.node .leaf (some uQr) .leaf)))) none .leaf)
def spf29 (f : Nat) : List LSpec×List Nat:=(spt29.get f).getD ([],[])
theorem zXm : zWp Try.prog cfg 29 zXi:=fnD spf29 (l:=[(41,yY0),(42,zWw),(65,yZm)]) zW0 zQt (.cons xJv (.cons zW1 (.cons xWv .nil))) (fun d=>by kernel_rfl)
noncomputable def zX1 (d0 : TCf×Int) : Option Bool :=
 (bif (Dat.ige d0.2 0) then some (Dat.zQd true (Dat.ilt d0.2 d0.1.2.2.2.2.2.2.1) false)
 else some false)
noncomputable def zZu : PFn:={ args:=[(.pair (.int .i64) (.pair (.int .i64) (.pair (.int .i64) (.pair (.int .i64) (.pair (.int .i64) (.pair (.int .i64) (.pair (.int .i64) (.pair (.int .i64) (.pair (.int .i64) .unit))))))))),(.int .i64)],res:=[.bool],fn:=zX1 }
theorem zKj : zWp Try.prog cfg 43 zZu:=fnD sp0 (l:=[]) zW0 zQt .nil (fun d=>by kernel_rfl)
noncomputable def zQk (d0 : List Int) : Option (List Int) :=
 if (Dat.Le (Dat.addN 0 0) (Dat.len ([] : List Int))) then if (Dat.EqN (Dat.len d0) 0) then if (Dat.Le (Dat.addN 0 0) (Dat.len ([] : List Int))) then some (Dat.seg ([] : List Int) 0 0)
 else none
 else if (Dat.Big (Dat.len (Dat.seg ([] : List Int) 0 0)) (Dat.len d0) 1) then none
 else Dat.bnd (Dat.app (Dat.seg ([] : List Int) 0 0) d0) fun x9 =>
 if (Dat.Le (Dat.addN 0 (Dat.len x9)) (Dat.len x9)) then some (Dat.seg x9 0 (Dat.len x9))
 else none
 else none
noncomputable def zQ1 : PFn:={ args:=[(.list (.int .u8))],res:=[(.list (.int .u8))],fn:=zQk }
noncomputable def cx48 : CloneX Try.prog cfg 48 5 (.int .u8) := clx xf48 5 (xf48.body.cOps.getD 0 ⟨none, .move (.tmp 0), 0, "", #[], none⟩) (xf48.body.cOps.getD 1 ⟨none, .move (.tmp 0), 0, "", #[], none⟩) (by kernel_rfl) (by kernel_rfl) (by kernel_rfl) (by kernel_rfl) (by kernel_rfl) (by kernel_rfl) (by kernel_rfl) (by kernel_rfl) (by kernel_rfl)
def uQl : List LSpec×List Nat:=([],[3])
def spt48 : Tab (List LSpec×List Nat):=(.node .leaf none (.node (.node (.node (.node .leaf none (.node .leaf (some uQl) .leaf)) none .leaf) none .leaf) none .leaf))
def spf48 (f : Nat) : List LSpec×List Nat:=(spt48.get f).getD ([],[])
theorem zQ7 : zWp Try.prog cfg 48 zQ1:=vYx spf48 zW0 zQt cx48 (of_decide_eq_true (by kernel_rfl)) (by kernel_rfl) (by kernel_rfl) (by kernel_rfl) (fun d=>by kernel_rfl) (fun d=>by kernel_rfl) (by kernel_rfl) (fun d r h=>by
  unfold zQk at h
  split at h
  · split at h
    · rename_i e
      have h1:=Option.some.inj h
      rw [← h1]
      exact (List.length_eq_zero_iff.1 e).symm
    · split at h
      · cases h
      · simp only [Dat.bnd] at h
        split at h
        · have h1 : (d.drop 0).take d.length = r := Option.some.inj h
          rw [← h1]
          simp
        · cases h
  · cases h)
noncomputable def zQ2 : OFn:={ args:=[(.list (.int .u8))],ores:=[(.own (.int .u8))],fn:=zQk }
theorem zQ8 : OwnD Try.prog cfg 48 zQ2∧True:=⟨vYw spf48 zW0 zQt cx48 (of_decide_eq_true (by kernel_rfl)) (by kernel_rfl) (by kernel_rfl) (by kernel_rfl) (fun d=>by kernel_rfl) (fun d=>by kernel_rfl) (by kernel_rfl) (fun d r h=>by
  unfold zQk at h
  split at h
  · split at h
    · rename_i e
      have h1:=Option.some.inj h
      rw [← h1]
      exact (List.length_eq_zero_iff.1 e).symm
    · split at h
      · cases h
      · simp only [Dat.bnd] at h
        split at h
        · have h1 : (d.drop 0).take d.length = r := Option.some.inj h
          rw [← h1]
          simp
        · cases h
  · cases h),trivial⟩
noncomputable def zQ9 (d0 : List Int) : Option (List Int) :=
 if (Dat.Le (Dat.addN 0 0) (Dat.len ([] : List Int))) then if (Dat.EqN (Dat.len d0) 0) then if (Dat.Le (Dat.addN 0 0) (Dat.len ([] : List Int))) then some (Dat.seg ([] : List Int) 0 0)
 else none
 else if (Dat.Big (Dat.len (Dat.seg ([] : List Int) 0 0)) (Dat.len d0) 8) then none
 else Dat.bnd (Dat.app (Dat.seg ([] : List Int) 0 0) d0) fun x9 =>
 if (Dat.Le (Dat.addN 0 (Dat.len x9)) (Dat.len x9)) then some (Dat.seg x9 0 (Dat.len x9))
 else none
 else none
noncomputable def zWb : PFn:={ args:=[(.list (.int .i64))],res:=[(.list (.int .i64))],fn:=zQ9 }
noncomputable def cx64 : CloneX Try.prog cfg 64 3 (.int .i64) := clx xf64 3 (xf64.body.cOps.getD 0 ⟨none, .move (.tmp 0), 0, "", #[], none⟩) (xf64.body.cOps.getD 1 ⟨none, .move (.tmp 0), 0, "", #[], none⟩) (by kernel_rfl) (by kernel_rfl) (by kernel_rfl) (by kernel_rfl) (by kernel_rfl) (by kernel_rfl) (by kernel_rfl) (by kernel_rfl) (by kernel_rfl)
def uQi : List LSpec×List Nat:=([],[3])
def spt64 : Tab (List LSpec×List Nat):=(.node .leaf none (.node (.node (.node (.node (.node (.node .leaf (some uQi) .leaf) none .leaf) none .leaf) none .leaf) none .leaf) none .leaf))
def spf64 (f : Nat) : List LSpec×List Nat:=(spt64.get f).getD ([],[])
theorem zWe : zWp Try.prog cfg 64 zWb:=vYx spf64 zW0 zQt cx64 (of_decide_eq_true (by kernel_rfl)) (by kernel_rfl) (by kernel_rfl) (by kernel_rfl) (fun d=>by kernel_rfl) (fun d=>by kernel_rfl) (by kernel_rfl) (fun d r h=>by
  unfold zQ9 at h
  split at h
  · split at h
    · rename_i e
      have h1:=Option.some.inj h
      rw [← h1]
      exact (List.length_eq_zero_iff.1 e).symm
    · split at h
      · cases h
      · simp only [Dat.bnd] at h
        split at h
        · have h1 : (d.drop 0).take d.length = r := Option.some.inj h
          rw [← h1]
          simp
        · cases h
  · cases h)
noncomputable def zWc : OFn:={ args:=[(.list (.int .i64))],ores:=[(.own (.int .i64))],fn:=zQ9 }
theorem zWf : OwnD Try.prog cfg 64 zWc∧True:=⟨vYw spf64 zW0 zQt cx64 (of_decide_eq_true (by kernel_rfl)) (by kernel_rfl) (by kernel_rfl) (by kernel_rfl) (fun d=>by kernel_rfl) (fun d=>by kernel_rfl) (by kernel_rfl) (fun d r h=>by
  unfold zQ9 at h
  split at h
  · split at h
    · rename_i e
      have h1:=Option.some.inj h
      rw [← h1]
      exact (List.length_eq_zero_iff.1 e).symm
    · split at h
      · cases h
      · simp only [Dat.bnd] at h
        split at h
        · have h1 : (d.drop 0).take d.length = r := Option.some.inj h
          rw [← h1]
          simp
        · cases h
  · cases h),trivial⟩
noncomputable abbrev TwT : Type:=List TMf×(List (List Int)×(List (List Int)×Int))
@[reducible] noncomputable def twB {β : Type} (NN : Nat) (fin : TwT→Option β) (s0 : TwT) (k0 : TwT→Option β) : Option β :=
 (bif (Dat.ilt s0.2.2.2 (Dat.ofN NN)) then if (Dat.In s0.2.2.2 NN) then if (Dat.Lt (Dat.addN 0 (Dat.toN s0.2.2.2)) (Dat.len s0.1)) then Dat.bnd (Dat.get s0.1 (Dat.addN 0 (Dat.toN s0.2.2.2)) zMf) fun x0 =>
 if (Dat.XOk s0.2.1 x0.2.2.1) then Dat.bnd (Dat.xget s0.2.1 x0.2.2.1) fun x1 =>
 Dat.bind (zQk x1) fun x2 =>
 Dat.bnd (Dat.app s0.2.1 (x2::([] : List (List Int)))) fun x3 =>
 if (Dat.XOk s0.2.2.1 x0.2.2.2.1) then Dat.bnd (Dat.xget s0.2.2.1 x0.2.2.2.1) fun x4 =>
 Dat.bind (zQ9 x4) fun x5 =>
 Dat.bnd (Dat.app s0.2.2.1 (x5::([] : List (List Int)))) fun x6 =>
 if (Dat.In s0.2.2.2 NN) then if (Dat.Lt (Dat.addN 0 (Dat.toN s0.2.2.2)) (Dat.len s0.1)) then Dat.bnd (Dat.get s0.1 (Dat.addN 0 (Dat.toN s0.2.2.2)) zMf) fun x7 =>
 Dat.bnd (Dat.set s0.1 (Dat.addN 0 (Dat.toN s0.2.2.2)) (x7.1,(x7.2.1,((Dat.xrow (Dat.len s0.2.1) x2),(x7.2.2.2.1,(x7.2.2.2.2.1,(x7.2.2.2.2.2.1,()))))))) fun x8 =>
 if (Dat.In s0.2.2.2 NN) then if (Dat.Lt (Dat.addN 0 (Dat.toN s0.2.2.2)) (Dat.len x8)) then Dat.bnd (Dat.get x8 (Dat.addN 0 (Dat.toN s0.2.2.2)) zMf) fun x9 =>
 Dat.bnd (Dat.set x8 (Dat.addN 0 (Dat.toN s0.2.2.2)) (x9.1,(x9.2.1,(x9.2.2.1,((Dat.xrow (Dat.len s0.2.2.1) x5),(x9.2.2.2.2.1,(x9.2.2.2.2.2.1,()))))))) fun x10 =>
 Dat.bnd (Dat.wrap .i64 (Dat.add s0.2.2.2 1)) fun x11 =>
 k0 (x10,(x3,(x6,x11)))
 else none
 else none
 else none
 else none
 else none
 else none
 else none
 else none
 else fin s0)
noncomputable def zYp (d0 : TCf×(((List TFr)×(Int×Unit))×(Int×Int))) : Option (((List (List Int))×((List (List Int))×(List (List TMf))))×(((MixE TMf)×(Int×Unit))×Int)) :=
 Dat.bind (zW9 ((pCf d0.1),(d0.2.1.1,(d0.2.1.2.1,())))) fun x1 =>
 (bif (Dat.ine x1 0) then some ((([] : List (List Int)),(([] : List (List Int)),([] : List (List TMf)))),(((Dat.xnil (α:=TMf) ),(0,())),x1))
 else Dat.bind (zWl ((d0.2.1.1,(d0.2.1.2.1,())),d0.2.2.1)) fun x2 =>
 (bif (Dat.bnot x2) then some ((([] : List (List Int)),(([] : List (List Int)),([] : List (List TMf)))),(((Dat.xnil (α:=TMf) ),(0,())),2))
 else Dat.bind (zX1 ((pCf d0.1),d0.2.2.2)) fun x3 =>
 (bif (Dat.zQd false true (Dat.bnot x3)) then some ((([] : List (List Int)),(([] : List (List Int)),([] : List (List TMf)))),(((Dat.xnil (α:=TMf) ),(0,())),2))
 else if (Dat.Ix d0.2.2.1 (Dat.len d0.2.1.1)) then Dat.bnd (Dat.get d0.2.1.1 (Dat.toN d0.2.2.1) zFr) fun x6 =>
 (bif (Dat.zQd false true (Dat.ieq x6.1 0)) then some ((([] : List (List Int)),(([] : List (List Int)),([] : List (List TMf)))),(((Dat.xnil (α:=TMf) ),(0,())),2))
 else if (Dat.Ix d0.2.2.1 (Dat.len d0.2.1.1)) then Dat.bnd (Dat.get d0.2.1.1 (Dat.toN d0.2.2.1) zFr) fun x9 =>
 if (Dat.Ix d0.2.2.2 (Dat.len x9.2.2.2.1)) then Dat.bnd (Dat.get x9.2.2.2.1 (Dat.toN d0.2.2.2) 0) fun x12 =>
 (bif (Dat.ieq x12 8) then some ((([] : List (List Int)),(([] : List (List Int)),([] : List (List TMf)))),(((Dat.xnil (α:=TMf) ),(0,())),260))
 else if (Dat.EqN (Dat.len d0.2.1.1) 0) then none
 else if (Dat.Le (Dat.addN 0 0) (Dat.len ([] : List TFr))) then if (Dat.EqN (Dat.len d0.2.1.1) 0) then Dat.bind (Dat.mapO (fun e19 =>
 some (e19.1,(e19.2.1,((Dat.zXx e19.2.2.1),((Dat.zXx e19.2.2.2.1),(e19.2.2.2.2.1,(e19.2.2.2.2.2.1,e19.2.2.2.2.2.2))))))) ([] : List TFr)) fun x20 =>
 Dat.loop (twB 0 (fun s21 =>
 if (Dat.Le (Dat.addN 0 0) (Dat.len s21.1)) then if (Dat.Le (Dat.addN 0 0) (Dat.len ([] : List TFr))) then if (Dat.EqN (Dat.len (Dat.seg s21.1 0 0)) 0) then if (Dat.In d0.2.2.1 0) then if (Dat.Lt (Dat.addN 0 (Dat.toN d0.2.2.1)) (Dat.len ([] : List TFr))) then Dat.bnd (Dat.get ([] : List TFr) (Dat.addN 0 (Dat.toN d0.2.2.1)) zFr) fun x61 =>
 if (Dat.Ix d0.2.2.2 (Dat.len x61.2.2.2.1)) then Dat.bnd (Dat.get x61.2.2.2.1 (Dat.toN d0.2.2.2) 0) fun x64 =>
 Dat.bnd (Dat.wrap .i64 (Dat.add x64 1)) fun x65 =>
 if (Dat.Ix d0.2.2.2 (Dat.len x61.2.2.2.1)) then Dat.bnd (Dat.get x61.2.2.2.1 (Dat.toN d0.2.2.2) 0) fun x68 =>
 none
 else none
 else none
 else none
 else none
 else if (Dat.Big (Dat.len ([] : List TMf)) (Dat.len (Dat.seg s21.1 0 0)) 72) then none
 else Dat.bnd (Dat.app ([] : List TMf) (Dat.seg s21.1 0 0)) fun x71 =>
 if (Dat.In d0.2.2.1 (Dat.len x71)) then if (Dat.Lt (Dat.addN 0 (Dat.toN d0.2.2.1)) (Dat.len x71)) then Dat.bnd (Dat.get x71 (Dat.addN 0 (Dat.toN d0.2.2.1)) zMf) fun x76 =>
 if (Dat.Ix d0.2.2.2 (Dat.xlen x76.2.2.2.1)) then if (Dat.XPt s21.2.2.1 x76.2.2.2.1 (Dat.toN d0.2.2.2)) then if (Dat.XPt s21.2.2.1 x76.2.2.2.1 (Dat.toN d0.2.2.2)) then Dat.bnd (Dat.xat s21.2.2.1 x76.2.2.2.1 (Dat.toN d0.2.2.2) 0) fun x83 =>
 Dat.bnd (Dat.wrap .i64 (Dat.add x83 1)) fun x84 =>
 if (Dat.Ix d0.2.2.2 (Dat.xlen x76.2.2.2.1)) then if (Dat.XPt s21.2.2.1 x76.2.2.2.1 (Dat.toN d0.2.2.2)) then if (Dat.XPt s21.2.2.1 x76.2.2.2.1 (Dat.toN d0.2.2.2)) then Dat.bnd (Dat.xset s21.2.2.1 x76.2.2.2.1 (Dat.toN d0.2.2.2) x84) fun x91 =>
 if (Dat.In d0.2.2.1 (Dat.len x71)) then if (Dat.Lt (Dat.addN 0 (Dat.toN d0.2.2.1)) (Dat.len x71)) then Dat.bnd (Dat.set x71 (Dat.addN 0 (Dat.toN d0.2.2.1)) (x76.1,(x76.2.1,(x76.2.2.1,(x76.2.2.2.1,(true,(x76.2.2.2.2.2.1,()))))))) fun x96 =>
 if (Dat.EqN 0 0) then if (Dat.EqN (Dat.len x71) (Dat.len x96)) then some ((s21.2.1,(x91,(x96::([] : List (List TMf))))),(((Dat.xnew (α:=TMf) 0 (Dat.len x71)),(d0.2.1.2.1,())),0))
 else none
 else none
 else none
 else none
 else none
 else none
 else none
 else none
 else none
 else none
 else none
 else none
 else none
 else none)) (x20,(([] : List (List Int)),(([] : List (List Int)),0)))
 else if (Dat.Big (Dat.len (Dat.seg ([] : List TFr) 0 0)) (Dat.len d0.2.1.1) 72) then none
 else Dat.bnd (Dat.app (Dat.seg ([] : List TFr) 0 0) d0.2.1.1) fun x103 =>
 Dat.bind (Dat.mapO (fun e104 =>
 some (e104.1,(e104.2.1,((Dat.zXx e104.2.2.1),((Dat.zXx e104.2.2.2.1),(e104.2.2.2.2.1,(e104.2.2.2.2.2.1,e104.2.2.2.2.2.2))))))) x103) fun x105 =>
 Dat.loop (twB (Dat.len x103) (fun s106 =>
 if (Dat.Le (Dat.addN 0 (Dat.len x103)) (Dat.len s106.1)) then if (Dat.Le (Dat.addN 0 0) (Dat.len ([] : List TFr))) then if (Dat.EqN (Dat.len (Dat.seg s106.1 0 (Dat.len x103))) 0) then if (Dat.In d0.2.2.1 0) then if (Dat.Lt (Dat.addN 0 (Dat.toN d0.2.2.1)) (Dat.len ([] : List TFr))) then Dat.bnd (Dat.get ([] : List TFr) (Dat.addN 0 (Dat.toN d0.2.2.1)) zFr) fun x146 =>
 if (Dat.Ix d0.2.2.2 (Dat.len x146.2.2.2.1)) then Dat.bnd (Dat.get x146.2.2.2.1 (Dat.toN d0.2.2.2) 0) fun x149 =>
 Dat.bnd (Dat.wrap .i64 (Dat.add x149 1)) fun x150 =>
 if (Dat.Ix d0.2.2.2 (Dat.len x146.2.2.2.1)) then Dat.bnd (Dat.get x146.2.2.2.1 (Dat.toN d0.2.2.2) 0) fun x153 =>
 none
 else none
 else none
 else none
 else none
 else if (Dat.Big (Dat.len ([] : List TMf)) (Dat.len (Dat.seg s106.1 0 (Dat.len x103))) 72) then none
 else Dat.bnd (Dat.app ([] : List TMf) (Dat.seg s106.1 0 (Dat.len x103))) fun x156 =>
 if (Dat.In d0.2.2.1 (Dat.len x156)) then if (Dat.Lt (Dat.addN 0 (Dat.toN d0.2.2.1)) (Dat.len x156)) then Dat.bnd (Dat.get x156 (Dat.addN 0 (Dat.toN d0.2.2.1)) zMf) fun x161 =>
 if (Dat.Ix d0.2.2.2 (Dat.xlen x161.2.2.2.1)) then if (Dat.XPt s106.2.2.1 x161.2.2.2.1 (Dat.toN d0.2.2.2)) then if (Dat.XPt s106.2.2.1 x161.2.2.2.1 (Dat.toN d0.2.2.2)) then Dat.bnd (Dat.xat s106.2.2.1 x161.2.2.2.1 (Dat.toN d0.2.2.2) 0) fun x168 =>
 Dat.bnd (Dat.wrap .i64 (Dat.add x168 1)) fun x169 =>
 if (Dat.Ix d0.2.2.2 (Dat.xlen x161.2.2.2.1)) then if (Dat.XPt s106.2.2.1 x161.2.2.2.1 (Dat.toN d0.2.2.2)) then if (Dat.XPt s106.2.2.1 x161.2.2.2.1 (Dat.toN d0.2.2.2)) then Dat.bnd (Dat.xset s106.2.2.1 x161.2.2.2.1 (Dat.toN d0.2.2.2) x169) fun x176 =>
 if (Dat.In d0.2.2.1 (Dat.len x156)) then if (Dat.Lt (Dat.addN 0 (Dat.toN d0.2.2.1)) (Dat.len x156)) then Dat.bnd (Dat.set x156 (Dat.addN 0 (Dat.toN d0.2.2.1)) (x161.1,(x161.2.1,(x161.2.2.1,(x161.2.2.2.1,(true,(x161.2.2.2.2.2.1,()))))))) fun x181 =>
 if (Dat.EqN 0 0) then if (Dat.EqN (Dat.len x156) (Dat.len x181)) then some ((s106.2.1,(x176,(x181::([] : List (List TMf))))),(((Dat.xnew (α:=TMf) 0 (Dat.len x156)),(d0.2.1.2.1,())),0))
 else none
 else none
 else none
 else none
 else none
 else none
 else none
 else none
 else none
 else none
 else none
 else none
 else none
 else none)) (x105,(([] : List (List Int)),(([] : List (List Int)),0)))
 else none)
 else none
 else none)
 else none)))
def wXg : List LSpec×List Nat:=([],[3])
def wXh : List LSpec×List Nat:=([{ id:=2700,known:=true,toks:=[(9000000,(.int .u8)),(9000000,(.int .i64)),(5500013,(.pair (.int .u8) (.pair (.int .i64) (.pair (.mix 900000002 (.int .u8)) (.pair (.mix 900000001 (.int .i64)) (.pair .bool (.pair .bool .unit)))))))],items:=[.vec 1000013 (.pair (.int .u8) (.pair (.int .i64) (.pair (.mix 900000002 (.int .u8)) (.pair (.mix 900000001 (.int .i64)) (.pair .bool (.pair .bool .unit)))))), .rows 900000002 (.int .u8), .rows 900000001 (.int .i64), .slot 15 (.val (.int .i64))],junk:=[16,17,18,19,5,4,20,21,22,23,24,25,26,27,28,29,30,31,32,33,34,35,36],tails:=[] }],[])
def wXi : List LSpec×List Nat:=([],[888888])
def vQ2 : Tab (List LSpec×List Nat):=(.node (.node (.node (.node (.node (.node (.node .leaf (some wXg) .leaf) none .leaf) none .leaf) none .leaf) none (.node .leaf none (.node .leaf (some wXh) .leaf))) none .leaf) none (.node .leaf none (.node .leaf none (.node .leaf (some wXi) .leaf))))
def vQ8 (f : Nat) : List LSpec×List Nat:=(vQ2.get f).getD ([],[])
noncomputable def yZi : RFn:={ args:=[(.pair (.int .i64) (.pair (.int .i64) (.pair (.int .i64) (.pair (.int .i64) (.pair (.int .i64) (.pair (.int .i64) (.pair (.int .i64) (.pair (.int .i64) (.pair (.int .i64) .unit))))))))),(.pair (.list (.pair (.int .u8) (.pair (.int .i64) (.pair (.list (.int .u8)) (.pair (.list (.int .i64)) (.pair .bool (.pair .bool .unit))))))) (.pair (.int .i64) .unit)),(.int .i64),(.int .i64)],objs:=[(.int .u8),(.int .i64),(.pair (.int .u8) (.pair (.int .i64) (.pair (.mix 0 (.int .u8)) (.pair (.mix 1 (.int .i64)) (.pair .bool (.pair .bool .unit))))))],res:=[(.pair (.mix 2 (.pair (.int .u8) (.pair (.int .i64) (.pair (.mix 0 (.int .u8)) (.pair (.mix 1 (.int .i64)) (.pair .bool (.pair .bool .unit))))))) (.pair (.int .i64) .unit)),(.int .i64)],fn:=zYp }
theorem xWn : OwnR Try.prog cfg 14 yZi:=fnR vQ8 [] (l:=[(29,zXi),(42,zWw),(43,zZu),(48,zQ1),(64,zWb)]) (lo:=[(48,zQ2),(64,zWc)]) (lr:=[]) zW0 zQt (.cons zXm (.cons zW1 (.cons zKj (.cons zQ7 (.cons zWe .nil))))) (.cons zQ8.1 (.cons zWf.1 .nil)) .nil (fun d=>by kernel_rfl)
noncomputable def zZ2 (d0 : Int×(Int×Int)) : Option Bool :=
 (bif (Dat.ige d0.1 d0.2.1) then some (Dat.zQd true (Dat.ile d0.1 d0.2.2) false)
 else some false)
noncomputable def xKj : PFn:={ args:=[(.int .i64),(.int .i64),(.int .i64)],res:=[.bool],fn:=zZ2 }
theorem wXz : zWp Try.prog cfg 93 xKj:=fnD sp0 (l:=[]) zW0 zQt .nil (fun d=>by kernel_rfl)
noncomputable def zJo (d0 : TCf) : Option Bool :=
 Dat.bind (zZ2 (d0.1,(1,64))) fun x1 =>
 (bif x1 then Dat.bind (zZ2 (d0.2.1,(1,32))) fun x2 =>
 (bif (Dat.zQd true x2 false) then Dat.bind (zZ2 (d0.2.2.1,(2,8))) fun x3 =>
 (bif (Dat.zQd true x3 false) then Dat.bind (zZ2 (d0.2.2.2.1,(1,4))) fun x4 =>
 (bif (Dat.zQd true x4 false) then Dat.bind (zZ2 (d0.2.2.2.2.1,(1,64))) fun x5 =>
 (bif (Dat.zQd true x5 false) then Dat.bind (zZ2 (d0.2.2.2.2.2.1,(1,8))) fun x6 =>
 (bif (Dat.zQd true x6 false) then Dat.bind (zZ2 (d0.2.2.2.2.2.2.1,(1,4))) fun x7 =>
 (bif (Dat.zQd true x7 false) then Dat.bind (zZ2 (d0.2.2.2.2.2.2.2.1,(1,16))) fun x8 =>
 (bif (Dat.zQd true x8 false) then Dat.bind (zZ2 (d0.2.2.2.2.2.2.2.2.1,(1,16))) fun x9 =>
 some (Dat.zQd true x9 false)
 else some false)
 else some false)
 else some false)
 else some false)
 else some false)
 else some false)
 else some false)
 else some false)
noncomputable def yWy : PFn:={ args:=[(.pair (.int .i64) (.pair (.int .i64) (.pair (.int .i64) (.pair (.int .i64) (.pair (.int .i64) (.pair (.int .i64) (.pair (.int .i64) (.pair (.int .i64) (.pair (.int .i64) .unit)))))))))],res:=[.bool],fn:=zJo }
theorem xQl : zWp Try.prog cfg 83 yWy:=fnD sp0 (l:=[(93,xKj)]) zW0 zQt (.cons wXz .nil) (fun d=>by kernel_rfl)
noncomputable def yXv (d0 : Int) : Option Int :=
 Dat.loop (fun (s1 : Int×Int) k2 =>
 (bif (Dat.ilt s1.2 d0) then Dat.bnd (Dat.wrap .i64 (Dat.mul 2 s1.1)) fun x3 =>
 Dat.bnd (Dat.wrap .i64 (Dat.add s1.2 1)) fun x4 =>
 k2 (x3,x4)
 else some s1.1)) (1,0)
noncomputable def yYx : PFn:={ args:=[(.int .i64)],res:=[(.int .i64)],fn:=yXv }
def uQa : List LSpec×List Nat:=([{ id:=9600,known:=true,toks:=[],items:=[.slot 3 (.val (.int .i64)), .slot 4 (.val (.int .i64))],junk:=[5,6,7,10,11,8,9],tails:=[] }],[])
def spt96 : Tab (List LSpec×List Nat):=(.node .leaf none (.node (.node (.node (.node (.node .leaf none (.node .leaf (some uQa) .leaf)) none .leaf) none .leaf) none .leaf) none .leaf))
def spf96 (f : Nat) : List LSpec×List Nat:=(spt96.get f).getD ([],[])
theorem xJs : zWp Try.prog cfg 96 yYx:=fnD spf96 (l:=[]) zW0 zQt .nil (fun d=>by kernel_rfl)
noncomputable def yXu (d0 : Int) : Option Int :=
 Dat.loop (fun (s1 : Int) k2 =>
 Dat.bind (yXv s1) fun x3 =>
 (bif (Dat.ilt x3 d0) then Dat.bnd (Dat.wrap .i64 (Dat.add s1 1)) fun x4 =>
 k2 x4
 else some s1)) 1
noncomputable def yYw : PFn:={ args:=[(.int .i64)],res:=[(.int .i64)],fn:=yXu }
def uQc : List LSpec×List Nat:=([{ id:=9400,known:=true,toks:=[],items:=[.slot 3 (.val (.int .i64))],junk:=[4,5,6,7,8,9],tails:=[] }],[])
def spt94 : Tab (List LSpec×List Nat):=(.node .leaf none (.node .leaf none (.node .leaf none (.node .leaf none (.node .leaf none (.node (.node .leaf (some uQc) .leaf) none .leaf))))))
def spf94 (f : Nat) : List LSpec×List Nat:=(spt94.get f).getD ([],[])
theorem xJr : zWp Try.prog cfg 94 yYw:=fnD spf94 (l:=[(96,yYx)]) zW0 zQt (.cons xJs .nil) (fun d=>by kernel_rfl)
noncomputable def yKp (d0 : TCf) : Option (List (Int×(Int×(Int×(Int×Unit))))) :=
 if (Dat.EqN 0 (Dat.len ([] : List (Int×(Int×(Int×(Int×Unit))))))) then Dat.loop (fun (s3 : (List (Int×(Int×(Int×(Int×Unit)))))×(Int×Int)) k4 =>
 Dat.bnd (Dat.wrap .i64 (Dat.add 8 s3.2.2)) fun x5 =>
 Dat.bnd (Dat.wrap .i64 (Dat.mul d0.2.2.2.1 x5)) fun x6 =>
 Dat.bnd (Dat.wrap .i64 (Dat.add x6 64)) fun x7 =>
 Dat.bind (yXu s3.2.1) fun x8 =>
 if (Dat.Le (Dat.addN 0 1) (Dat.len ((s3.2.1,(s3.2.2,(x8,(x7,()))))::([] : List (Int×(Int×(Int×(Int×Unit)))))))) then if (Dat.Big (Dat.len s3.1) (Dat.len (Dat.seg ((s3.2.1,(s3.2.2,(x8,(x7,()))))::([] : List (Int×(Int×(Int×(Int×Unit)))))) 0 1)) 32) then none
 else if (Dat.EqN (Dat.len s3.1) (Dat.len s3.1)) then Dat.bnd (Dat.app s3.1 (Dat.seg ((s3.2.1,(s3.2.2,(x8,(x7,()))))::([] : List (Int×(Int×(Int×(Int×Unit)))))) 0 1)) fun x15 =>
 (bif (Dat.ile s3.2.1 d0.2.2.2.2.2.2.2.2.1) then some x15
 else Dat.bnd (Dat.wrap .i64 (Dat.add s3.2.1 d0.2.2.1)) fun x16 =>
 Dat.bnd (Dat.wrap .i64 (Dat.sub x16 1)) fun x17 =>
 if (Dat.IsZ d0.2.2.1) then none
 else Dat.bnd (Dat.wrap .i64 (Dat.tdiv x17 d0.2.2.1)) fun x20 =>
 Dat.bnd (Dat.wrap .i64 (Dat.mul 4 d0.2.2.1)) fun x21 =>
 if (Dat.EqN (Dat.len x15) (Dat.len x15)) then k4 (x15,(x20,x21))
 else none)
 else none
 else none) (([] : List (Int×(Int×(Int×(Int×Unit))))),(d0.1,d0.2.1))
 else none
noncomputable def xW0 : PFn:={ args:=[(.pair (.int .i64) (.pair (.int .i64) (.pair (.int .i64) (.pair (.int .i64) (.pair (.int .i64) (.pair (.int .i64) (.pair (.int .i64) (.pair (.int .i64) (.pair (.int .i64) .unit)))))))))],res:=[(.list (.pair (.int .i64) (.pair (.int .i64) (.pair (.int .i64) (.pair (.int .i64) .unit)))))],fn:=yKp }
def uQe : List LSpec×List Nat:=([{ id:=8400,known:=true,toks:=[(3,(.pair (.int .i64) (.pair (.int .i64) (.pair (.int .i64) (.pair (.int .i64) .unit)))))],items:=[.slot 3 (.slt (.pair (.int .i64) (.pair (.int .i64) (.pair (.int .i64) (.pair (.int .i64) .unit)))) (some 1000003) false), .slot 4 (.val (.int .i64)), .slot 5 (.val (.int .i64))],junk:=[10,11,12,13,14,15,16,17,18,19,20,21,22,23,24,25,26,27,28,2,29,30,31,32,33,34,35,36,37,38,39],tails:=[(1000003,3)] }],[])
def spt84 : Tab (List LSpec×List Nat):=(.node .leaf none (.node (.node .leaf none (.node (.node .leaf none (.node (.node .leaf (some uQe) .leaf) none .leaf)) none .leaf)) none .leaf))
def spf84 (f : Nat) : List LSpec×List Nat:=(spt84.get f).getD ([],[])
theorem wQq : zWp Try.prog cfg 84 xW0:=fnD spf84 (l:=[(94,yYw)]) zW0 zQt (.cons xJr .nil) (fun d=>by kernel_rfl)
noncomputable def yKo (d0 : TCf) : Option Bool :=
 Dat.bind (zJo (d0.1,(d0.2.1,(d0.2.2.1,(d0.2.2.2.1,(d0.2.2.2.2.1,(d0.2.2.2.2.2.1,(d0.2.2.2.2.2.2.1,(d0.2.2.2.2.2.2.2.1,(d0.2.2.2.2.2.2.2.2.1,())))))))))) fun x1 =>
 (bif x1 then Dat.bind (yKp (d0.1,(d0.2.1,(d0.2.2.1,(d0.2.2.2.1,(d0.2.2.2.2.1,(d0.2.2.2.2.2.1,(d0.2.2.2.2.2.2.1,(d0.2.2.2.2.2.2.2.1,(d0.2.2.2.2.2.2.2.2.1,())))))))))) fun x2 =>
 some (Dat.zQd true (Dat.ile (Dat.ofN (Dat.len x2)) 4) false)
 else some false)
noncomputable def xWz : PFn:={ args:=[(.pair (.int .i64) (.pair (.int .i64) (.pair (.int .i64) (.pair (.int .i64) (.pair (.int .i64) (.pair (.int .i64) (.pair (.int .i64) (.pair (.int .i64) (.pair (.int .i64) .unit)))))))))],res:=[.bool],fn:=yKo }
theorem wQp : zWp Try.prog cfg 56 xWz:=fnD sp0 (l:=[(83,yWy),(84,xW0)]) zW0 zQt (.cons xQl (.cons wQq .nil)) (fun d=>by kernel_rfl)
noncomputable def zZm (d0 : TFr) : Option Bool :=
 Dat.loop (fun (s1 : Int) k2 =>
 (bif (Dat.ilt s1 (Dat.ofN (Dat.len d0.2.2.2.1))) then if (Dat.Ix s1 (Dat.len d0.2.2.2.1)) then Dat.bnd (Dat.get d0.2.2.2.1 (Dat.toN s1) 0) fun x5 =>
 (bif (Dat.igt x5 0) then some true
 else Dat.bnd (Dat.wrap .i64 (Dat.add s1 1)) fun x6 =>
 k2 x6)
 else none
 else some false)) 0
noncomputable def zYt : PFn:={ args:=[(.pair (.int .u8) (.pair (.int .i64) (.pair (.list (.int .u8)) (.pair (.list (.int .i64)) (.pair .bool (.pair .bool .unit))))))],res:=[.bool],fn:=zZm }
def uQf : List LSpec×List Nat:=([{ id:=7200,known:=true,toks:=[],items:=[.slot 3 (.val (.int .i64))],junk:=[4,5,6,7,8,11,12,13,14,15,16,2,9,10],tails:=[] }],[])
def spt72 : Tab (List LSpec×List Nat):=(.node .leaf none (.node (.node (.node .leaf none (.node (.node (.node .leaf (some uQf) .leaf) none .leaf) none .leaf)) none .leaf) none .leaf))
def spf72 (f : Nat) : List LSpec×List Nat:=(spt72.get f).getD ([],[])
theorem yWu : zWp Try.prog cfg 72 zYt:=fnD spf72 (l:=[]) zW0 zQt .nil (fun d=>by kernel_rfl)
noncomputable def yKj (d0 : TCf×TFr) : Option Bool :=
 (bif (Dat.ine (Dat.ofN (Dat.len d0.2.2.2.2.1)) d0.1.2.2.2.2.2.2.1) then some false
 else Dat.loop (fun (s1 : Int) k2 =>
 (bif (Dat.ilt s1 (Dat.ofN (Dat.len d0.2.2.2.2.1))) then if (Dat.Ix s1 (Dat.len d0.2.2.2.2.1)) then Dat.bnd (Dat.get d0.2.2.2.2.1 (Dat.toN s1) 0) fun x5 =>
 (bif (Dat.ilt x5 0) then some false
 else if (Dat.Ix s1 (Dat.len d0.2.2.2.2.1)) then Dat.bnd (Dat.get d0.2.2.2.2.1 (Dat.toN s1) 0) fun x8 =>
 (bif (Dat.zQd false true (Dat.igt x8 8)) then some false
 else Dat.bnd (Dat.wrap .i64 (Dat.add s1 1)) fun x9 =>
 k2 x9)
 else none)
 else none
 else (bif (Dat.ieq d0.2.1 0) then (bif (Dat.ieq d0.2.2.1 0) then (bif (Dat.zQd true (Dat.ieq (Dat.ofN (Dat.len d0.2.2.2.1)) 0) false) then Dat.bind (zZm (d0.2.1,(d0.2.2.1,(d0.2.2.2.1,(d0.2.2.2.2.1,(d0.2.2.2.2.2.1,(d0.2.2.2.2.2.2.1,()))))))) fun x10 =>
 (bif (Dat.zQd true (Dat.bnot x10) false) then (bif (Dat.zQd true (Dat.bnot d0.2.2.2.2.2.1) false) then some (Dat.zQd true (Dat.bnot d0.2.2.2.2.2.2.1) false)
 else some false)
 else some false)
 else some false)
 else some false)
 else (bif (Dat.ieq d0.2.1 1) then (bif (Dat.ige d0.2.2.1 0) then (bif (Dat.zQd true (Dat.ilt d0.2.2.1 d0.1.1) false) then (bif (Dat.zQd true (Dat.ieq (Dat.ofN (Dat.len d0.2.2.2.1)) 0) false) then (bif (Dat.zQd true (Dat.bnot d0.2.2.2.2.2.2.1) false) then Dat.bind (zZm (d0.2.1,(d0.2.2.1,(d0.2.2.2.1,(d0.2.2.2.2.1,(d0.2.2.2.2.2.1,(d0.2.2.2.2.2.2.1,()))))))) fun x11 =>
 some (Dat.zQd true x11 false)
 else some false)
 else some false)
 else some false)
 else some false)
 else (bif (Dat.ieq d0.2.1 2) then (bif (Dat.zQd true (Dat.ige d0.2.2.1 0) false) then (bif (Dat.zQd true (Dat.ilt d0.2.2.1 d0.1.1) false) then some (Dat.zQd true (Dat.ieq (Dat.ofN (Dat.len d0.2.2.2.1)) d0.1.2.1) false)
 else some false)
 else some false)
 else some false))))) 0)
noncomputable def xWw : PFn:={ args:=[(.pair (.int .i64) (.pair (.int .i64) (.pair (.int .i64) (.pair (.int .i64) (.pair (.int .i64) (.pair (.int .i64) (.pair (.int .i64) (.pair (.int .i64) (.pair (.int .i64) .unit))))))))),(.pair (.int .u8) (.pair (.int .i64) (.pair (.list (.int .u8)) (.pair (.list (.int .i64)) (.pair .bool (.pair .bool .unit))))))],res:=[.bool],fn:=yKj }
def uQd : List LSpec×List Nat:=([{ id:=8700,known:=true,toks:=[],items:=[.slot 5 (.val (.int .i64))],junk:=[12,13,14,15,16,19,20,21,22,23,24,25,26,27,28,29,30,31,32,4,17,18],tails:=[] }],[])
def spt87 : Tab (List LSpec×List Nat):=(.node (.node (.node (.node .leaf none (.node .leaf none (.node (.node .leaf (some uQd) .leaf) none .leaf))) none .leaf) none .leaf) none .leaf)
def spf87 (f : Nat) : List LSpec×List Nat:=(spt87.get f).getD ([],[])
theorem wQm : zWp Try.prog cfg 87 xWw:=fnD spf87 (l:=[(72,zYt)]) zW0 zQt (.cons yWu .nil) (fun d=>by kernel_rfl)
noncomputable def yWq (d0 : TCf×((List TFr)×(Int×Unit))) : Option Bool :=
 (bif (Dat.ine (Dat.ofN (Dat.len d0.2.1)) d0.1.2.2.2.2.2.1) then some false
 else (bif (Dat.zQd false true (Dat.ilt d0.2.2.1 0)) then some false
 else (bif (Dat.zQd false true (Dat.ige d0.2.2.1 (Dat.ofN (Dat.len d0.2.1)))) then some false
 else Dat.loop (fun (s1 : Int) k2 =>
 (bif (Dat.ilt s1 (Dat.ofN (Dat.len d0.2.1))) then if (Dat.Ix s1 (Dat.len d0.2.1)) then Dat.bnd (Dat.get d0.2.1 (Dat.toN s1) zFr) fun x5 =>
 Dat.bind (yKj ((pCf d0.1),(x5.1,(x5.2.1,(x5.2.2.1,(x5.2.2.2.1,(x5.2.2.2.2.1,(x5.2.2.2.2.2.1,())))))))) fun x6 =>
 (bif (Dat.bnot x6) then some false
 else Dat.loop (fun (s7 : Int) k8 =>
 (bif (Dat.ilt s7 s1) then if (Dat.Ix s1 (Dat.len d0.2.1)) then Dat.bnd (Dat.get d0.2.1 (Dat.toN s1) zFr) fun x11 =>
 (bif (Dat.ine x11.1 0) then if (Dat.Ix s7 (Dat.len d0.2.1)) then Dat.bnd (Dat.get d0.2.1 (Dat.toN s7) zFr) fun x14 =>
 (bif (Dat.zQd true (Dat.ine x14.1 0) false) then if (Dat.Ix s1 (Dat.len d0.2.1)) then Dat.bnd (Dat.get d0.2.1 (Dat.toN s1) zFr) fun x17 =>
 if (Dat.Ix s7 (Dat.len d0.2.1)) then Dat.bnd (Dat.get d0.2.1 (Dat.toN s7) zFr) fun x20 =>
 (bif (Dat.zQd true (Dat.ieq x17.2.1 x20.2.1) false) then some false
 else Dat.bnd (Dat.wrap .i64 (Dat.add s7 1)) fun x21 =>
 k8 x21)
 else none
 else none
 else Dat.bnd (Dat.wrap .i64 (Dat.add s7 1)) fun x22 =>
 k8 x22)
 else none
 else Dat.bnd (Dat.wrap .i64 (Dat.add s7 1)) fun x23 =>
 k8 x23)
 else none
 else Dat.bnd (Dat.wrap .i64 (Dat.add s1 1)) fun x24 =>
 k2 x24)) 0)
 else none
 else some true)) 0)))
noncomputable def xWy : PFn:={ args:=[(.pair (.int .i64) (.pair (.int .i64) (.pair (.int .i64) (.pair (.int .i64) (.pair (.int .i64) (.pair (.int .i64) (.pair (.int .i64) (.pair (.int .i64) (.pair (.int .i64) .unit))))))))),(.pair (.list (.pair (.int .u8) (.pair (.int .i64) (.pair (.list (.int .u8)) (.pair (.list (.int .i64)) (.pair .bool (.pair .bool .unit))))))) (.pair (.int .i64) .unit))],res:=[.bool],fn:=yWq }
def uQg : List LSpec×List Nat:=([{ id:=6600,known:=true,toks:=[],items:=[.slot 5 (.val (.int .i64))],junk:=[26,27,28,29,30,33,34,35,36,37,38,39,40,4,6,41,42,43,46,47,48,49,50,51,52,53,54,55,56,57,58,59,60,61,62,63,64,65,66,67,68,69,70,71,72,73,74,75,76,44,45,31,32],tails:=[] },{ id:=6601,known:=true,toks:=[],items:=[.slot 6 (.val (.int .i64))],junk:=[41,42,43,46,47,48,49,50,51,52,53,54,55,56,57,58,59,60,61,62,63,64,65,66,67,68,69,70,71,72,73,74,75,76,4,44,45],tails:=[] }],[])
def spt66 : Tab (List LSpec×List Nat):=(.node .leaf none (.node .leaf none (.node (.node (.node (.node (.node .leaf (some uQg) .leaf) none .leaf) none .leaf) none .leaf) none .leaf)))
def spf66 (f : Nat) : List LSpec×List Nat:=(spt66.get f).getD ([],[])
theorem wQo : zWp Try.prog cfg 66 xWy:=fnD spf66 (l:=[(87,xWw)]) zW0 zQt (.cons wQm .nil) (fun d=>by kernel_rfl)
noncomputable def zJ0 (d0 : TCf×((List TFr)×(Int×Unit))) : Option Int :=
 Dat.bind (yKo (pCf d0.1)) fun x1 =>
 (bif (Dat.bnot x1) then some 8
 else Dat.bind (yWq ((pCf d0.1),(d0.2.1,(d0.2.2.1,())))) fun x2 =>
 (bif (Dat.zQd false true (Dat.bnot x2)) then some 8
 else some 0))
noncomputable def yQp : PFn:={ args:=[(.pair (.int .i64) (.pair (.int .i64) (.pair (.int .i64) (.pair (.int .i64) (.pair (.int .i64) (.pair (.int .i64) (.pair (.int .i64) (.pair (.int .i64) (.pair (.int .i64) .unit))))))))),(.pair (.list (.pair (.int .u8) (.pair (.int .i64) (.pair (.list (.int .u8)) (.pair (.list (.int .i64)) (.pair .bool (.pair .bool .unit))))))) (.pair (.int .i64) .unit))],res:=[(.int .i64)],fn:=zJ0 }
theorem yZj : zWp Try.prog cfg 30 yQp:=fnD sp0 (l:=[(56,xWz),(66,xWy)]) zW0 zQt (.cons wQp (.cons wQo .nil)) (fun d=>by kernel_rfl)
noncomputable def zZk (d0 : TCf×(((List TFr)×(Int×Unit))×(Int×Int))) : Option Int :=
 Dat.bind (zJ0 ((pCf d0.1),(d0.2.1.1,(d0.2.1.2.1,())))) fun x1 =>
 (bif (Dat.ine x1 0) then some 8
 else (bif (Dat.ilt d0.2.2.1 0) then some 2
 else (bif (Dat.zQd false true (Dat.ige d0.2.2.1 (Dat.ofN (Dat.len d0.2.1.1)))) then some 2
 else (bif (Dat.zQd false true (Dat.ilt d0.2.2.2 0)) then some 2
 else (bif (Dat.zQd false true (Dat.ige d0.2.2.2 d0.1.2.2.2.2.2.2.1)) then some 2
 else some 0)))))
noncomputable def zZs : PFn:={ args:=[(.pair (.int .i64) (.pair (.int .i64) (.pair (.int .i64) (.pair (.int .i64) (.pair (.int .i64) (.pair (.int .i64) (.pair (.int .i64) (.pair (.int .i64) (.pair (.int .i64) .unit))))))))),(.pair (.list (.pair (.int .u8) (.pair (.int .i64) (.pair (.list (.int .u8)) (.pair (.list (.int .i64)) (.pair .bool (.pair .bool .unit))))))) (.pair (.int .i64) .unit)),(.int .i64),(.int .i64)],res:=[(.int .i64)],fn:=zZk }
theorem zZ0 : zWp Try.prog cfg 75 zZs:=fnD sp0 (l:=[(30,yQp)]) zW0 zQt (.cons yZj .nil) (fun d=>by kernel_rfl)
noncomputable def zW6 (d0 : TFr) : Option TFr :=
 if (Dat.Le (Dat.addN 0 0) (Dat.len ([] : List Int))) then if (Dat.EqN (Dat.len d0.2.2.1) 0) then if (Dat.Le (Dat.addN 0 0) (Dat.len ([] : List Int))) then if (Dat.EqN (Dat.len d0.2.2.2.1) 0) then if (Dat.Le (Dat.addN 0 0) (Dat.len ([] : List Int))) then if (Dat.Le (Dat.addN 0 0) (Dat.len ([] : List Int))) then some (d0.1,(d0.2.1,((Dat.seg ([] : List Int) 0 0),((Dat.seg ([] : List Int) 0 0),(d0.2.2.2.2.1,(d0.2.2.2.2.2.1,()))))))
 else none
 else none
 else if (Dat.Big (Dat.len (Dat.seg ([] : List Int) 0 0)) (Dat.len d0.2.2.2.1) 8) then none
 else Dat.bnd (Dat.app (Dat.seg ([] : List Int) 0 0) d0.2.2.2.1) fun x15 =>
 if (Dat.Le (Dat.addN 0 0) (Dat.len ([] : List Int))) then if (Dat.Le (Dat.addN 0 (Dat.len x15)) (Dat.len x15)) then some (d0.1,(d0.2.1,((Dat.seg ([] : List Int) 0 0),((Dat.seg x15 0 (Dat.len x15)),(d0.2.2.2.2.1,(d0.2.2.2.2.2.1,()))))))
 else none
 else none
 else none
 else if (Dat.Big (Dat.len (Dat.seg ([] : List Int) 0 0)) (Dat.len d0.2.2.1) 1) then none
 else Dat.bnd (Dat.app (Dat.seg ([] : List Int) 0 0) d0.2.2.1) fun x22 =>
 if (Dat.Le (Dat.addN 0 0) (Dat.len ([] : List Int))) then if (Dat.EqN (Dat.len d0.2.2.2.1) 0) then if (Dat.Le (Dat.addN 0 (Dat.len x22)) (Dat.len x22)) then if (Dat.Le (Dat.addN 0 0) (Dat.len ([] : List Int))) then some (d0.1,(d0.2.1,((Dat.seg x22 0 (Dat.len x22)),((Dat.seg ([] : List Int) 0 0),(d0.2.2.2.2.1,(d0.2.2.2.2.2.1,()))))))
 else none
 else none
 else if (Dat.Big (Dat.len (Dat.seg ([] : List Int) 0 0)) (Dat.len d0.2.2.2.1) 8) then none
 else Dat.bnd (Dat.app (Dat.seg ([] : List Int) 0 0) d0.2.2.2.1) fun x33 =>
 if (Dat.Le (Dat.addN 0 (Dat.len x22)) (Dat.len x22)) then if (Dat.Le (Dat.addN 0 (Dat.len x33)) (Dat.len x33)) then some (d0.1,(d0.2.1,((Dat.seg x22 0 (Dat.len x22)),((Dat.seg x33 0 (Dat.len x33)),(d0.2.2.2.2.1,(d0.2.2.2.2.2.1,()))))))
 else none
 else none
 else none
 else none
noncomputable def zZt : PFn:={ args:=[(.pair (.int .u8) (.pair (.int .i64) (.pair (.list (.int .u8)) (.pair (.list (.int .i64)) (.pair .bool (.pair .bool .unit))))))],res:=[(.pair (.int .u8) (.pair (.int .i64) (.pair (.list (.int .u8)) (.pair (.list (.int .i64)) (.pair .bool (.pair .bool .unit))))))],fn:=zW6 }
def uQk : List LSpec×List Nat:=([],[1,2])
def spt55 : Tab (List LSpec×List Nat):=(.node (.node (.node (.node .leaf none (.node .leaf none (.node .leaf (some uQk) .leaf))) none .leaf) none .leaf) none .leaf)
def spf55 (f : Nat) : List LSpec×List Nat:=(spt55.get f).getD ([],[])
noncomputable def zKv : OFn:={ args:=[(.pair (.int .u8) (.pair (.int .i64) (.pair (.list (.int .u8)) (.pair (.list (.int .i64)) (.pair .bool (.pair .bool .unit))))))],ores:=[(.pair (.plain (.int .u8)) (.pair (.plain (.int .i64)) (.pair (.own (.int .u8)) (.pair (.own (.int .i64)) (.pair (.plain .bool) (.pair (.plain .bool) (.plain .unit)))))))],fn:=zW6 }
theorem zYl : OwnD Try.prog cfg 55 zKv∧zWp Try.prog cfg 55 zKv.pfn:=fnO spf55 [] (l:=[]) (lo:=[]) zW0 zQt .nil .nil (fun d=>by kernel_rfl)
theorem zKi : zWp Try.prog cfg 55 zZt:=zYl.2
noncomputable def zJu (d0 : (List TFr)×(Int×Unit)) : Option ((List TFr)×(Int×Unit)) :=
 Dat.loop (fun (s1 : Int×((List (List TFr))×((MixE TFr)×Int))) k2 =>
 (bif (Dat.ilt s1.1 (Dat.ofN (Dat.len d0.1))) then if (Dat.Ix s1.1 (Dat.len d0.1)) then Dat.bnd (Dat.get d0.1 (Dat.toN s1.1) zFr) fun x5 =>
 Dat.bind (zW6 (x5.1,(x5.2.1,(x5.2.2.1,(x5.2.2.2.1,(x5.2.2.2.2.1,(x5.2.2.2.2.2.1,()))))))) fun x6 =>
 if (Dat.Le (Dat.addN 0 1) (Dat.len ((x6.1,(x6.2.1,(x6.2.2.1,(x6.2.2.2.1,(x6.2.2.2.2.1,(x6.2.2.2.2.2.1,()))))))::([] : List TFr)))) then if (Dat.XGr s1.2.1 s1.2.2.1) then if (Dat.EqN (Dat.len (Dat.seg ((x6.1,(x6.2.1,(x6.2.2.1,(x6.2.2.2.1,(x6.2.2.2.2.1,(x6.2.2.2.2.2.1,()))))))::([] : List TFr)) 0 1)) 0) then Dat.bnd (Dat.wrap .i64 (Dat.add s1.1 1)) fun x13 =>
 k2 (x13,(s1.2.1,(s1.2.2.1,s1.2.2.2)))
 else if (Dat.Big (Dat.xlen s1.2.2.1) (Dat.len (Dat.seg ((x6.1,(x6.2.1,(x6.2.2.1,(x6.2.2.2.1,(x6.2.2.2.2.1,(x6.2.2.2.2.2.1,()))))))::([] : List TFr)) 0 1)) 72) then none
 else Dat.bnd (Dat.xapp s1.2.1 s1.2.2.1 (Dat.seg ((x6.1,(x6.2.1,(x6.2.2.1,(x6.2.2.2.1,(x6.2.2.2.2.1,(x6.2.2.2.2.2.1,()))))))::([] : List TFr)) 0 1)) fun x16 =>
 Dat.bnd (Dat.vKi s1.2.2.1 (Dat.len (Dat.seg ((x6.1,(x6.2.1,(x6.2.2.1,(x6.2.2.2.1,(x6.2.2.2.2.1,(x6.2.2.2.2.2.1,()))))))::([] : List TFr)) 0 1))) fun x17 =>
 Dat.bnd (Dat.wrap .i64 (Dat.add s1.1 1)) fun x18 =>
 k2 (x18,(x16,(x17,s1.2.2.2)))
 else none
 else none
 else none
 else if (Dat.XW s1.2.1 s1.2.2.1) then Dat.bnd (Dat.xget s1.2.1 s1.2.2.1) fun x21 =>
 some (x21,(s1.2.2.2,()))
 else none)) (0,((([] : List TFr)::([] : List (List TFr))),((Dat.xnew (α:=TFr) 0 0),d0.2.1)))
noncomputable def yWw : PFn:={ args:=[(.pair (.list (.pair (.int .u8) (.pair (.int .i64) (.pair (.list (.int .u8)) (.pair (.list (.int .i64)) (.pair .bool (.pair .bool .unit))))))) (.pair (.int .i64) .unit))],res:=[(.pair (.list (.pair (.int .u8) (.pair (.int .i64) (.pair (.list (.int .u8)) (.pair (.list (.int .i64)) (.pair .bool (.pair .bool .unit))))))) (.pair (.int .i64) .unit))],fn:=zJu }
def uQt : List LSpec×List Nat:=([{ id:=2200,known:=true,toks:=[(7002000,(.pair (.int .u8) (.pair (.int .i64) (.pair (.list (.int .u8)) (.pair (.list (.int .i64)) (.pair .bool (.pair .bool .unit)))))))],items:=[.slot 4 (.val (.int .i64)), .rows 2002000 (.pair (.int .u8) (.pair (.int .i64) (.pair (.list (.int .u8)) (.pair (.list (.int .i64)) (.pair .bool (.pair .bool .unit)))))), .cells 1000003 [.val (.mix 2002000 (.pair (.int .u8) (.pair (.int .i64) (.pair (.list (.int .u8)) (.pair (.list (.int .i64)) (.pair .bool (.pair .bool .unit))))))), .val (.int .i64)]],junk:=[8,9,10,11,12,15,16,17,18,19,20,21,22,23,24,25,13,14],tails:=[] }],[])
def spt22 : Tab (List LSpec×List Nat):=(.node .leaf none (.node .leaf none (.node .leaf none (.node (.node .leaf (some uQt) .leaf) none .leaf))))
def spf22 (f : Nat) : List LSpec×List Nat:=(spt22.get f).getD ([],[])
noncomputable def yW4 : OFn:={ args:=[(.pair (.list (.pair (.int .u8) (.pair (.int .i64) (.pair (.list (.int .u8)) (.pair (.list (.int .i64)) (.pair .bool (.pair .bool .unit))))))) (.pair (.int .i64) .unit))],ores:=[(.pair (.own (.pair (.int .u8) (.pair (.int .i64) (.pair (.list (.int .u8)) (.pair (.list (.int .i64)) (.pair .bool (.pair .bool .unit))))))) (.pair (.plain (.int .i64)) (.plain .unit)))],fn:=zJu }
theorem yK3 : OwnD Try.prog cfg 22 yW4∧zWp Try.prog cfg 22 yW4.pfn:=fnO spf22 [] (l:=[(55,zZt)]) (lo:=[]) zW0 zQt (.cons zKi .nil) .nil (fun d=>by kernel_rfl)
theorem yKs : zWp Try.prog cfg 22 yWw:=yK3.2
noncomputable def zXb (d0 : ((List TFr)×(Int×Unit))×(Int×TFr)) : Option ((List TFr)×(Int×Unit)) :=
 Dat.bind (zJu (d0.1.1,(d0.1.2.1,()))) fun x1 =>
 if (Dat.EqN (Dat.len x1.1) 0) then Dat.bind (zW6 (d0.2.2.1,(d0.2.2.2.1,(d0.2.2.2.2.1,(d0.2.2.2.2.2.1,(d0.2.2.2.2.2.2.1,(d0.2.2.2.2.2.2.2.1,()))))))) fun x4 =>
 if (Dat.Ix d0.2.1 (Dat.len x1.1)) then Dat.bnd (Dat.get x1.1 (Dat.toN d0.2.1) zFr) fun x7 =>
 none
 else none
 else Dat.bind (zW6 (d0.2.2.1,(d0.2.2.2.1,(d0.2.2.2.2.1,(d0.2.2.2.2.2.1,(d0.2.2.2.2.2.2.1,(d0.2.2.2.2.2.2.2.1,()))))))) fun x8 =>
 if (Dat.In d0.2.1 (Dat.len x1.1)) then if (Dat.Lt (Dat.addN 0 (Dat.toN d0.2.1)) (Dat.len x1.1)) then Dat.bnd (Dat.set x1.1 (Dat.addN 0 (Dat.toN d0.2.1)) (x8.1,(x8.2.1,(x8.2.2.1,(x8.2.2.2.1,(x8.2.2.2.2.1,(x8.2.2.2.2.2.1,()))))))) fun x13 =>
 if (Dat.Le (Dat.addN 0 (Dat.len x1.1)) (Dat.len x13)) then some ((Dat.seg x13 0 (Dat.len x1.1)),(x1.2.1,()))
 else none
 else none
 else none
noncomputable def zKc : PFn:={ args:=[(.pair (.list (.pair (.int .u8) (.pair (.int .i64) (.pair (.list (.int .u8)) (.pair (.list (.int .i64)) (.pair .bool (.pair .bool .unit))))))) (.pair (.int .i64) .unit)),(.int .i64),(.pair (.int .u8) (.pair (.int .i64) (.pair (.list (.int .u8)) (.pair (.list (.int .i64)) (.pair .bool (.pair .bool .unit))))))],res:=[(.pair (.list (.pair (.int .u8) (.pair (.int .i64) (.pair (.list (.int .u8)) (.pair (.list (.int .i64)) (.pair .bool (.pair .bool .unit))))))) (.pair (.int .i64) .unit))],fn:=zXb }
theorem zKh : zWp Try.prog cfg 73 zKc:=fnDa sp0 [] (l:=[(22,yWw),(55,zZt)]) (lo:=[(22,yW4)]) zW0 zQt (.cons yKs (.cons zKi .nil)) (.cons yK3.1 .nil) (fun d=>by kernel_rfl)
noncomputable def zY4 (d0 : ((List TFr)×(Int×Unit))×(Int×(Int×Int))) : Option ((List TFr)×(Int×Unit)) :=
 if (Dat.Ix d0.2.1 (Dat.len d0.1.1)) then Dat.bnd (Dat.get d0.1.1 (Dat.toN d0.2.1) zFr) fun x3 =>
 Dat.bind (zW6 (x3.1,(x3.2.1,(x3.2.2.1,(x3.2.2.2.1,(x3.2.2.2.2.1,(x3.2.2.2.2.2.1,()))))))) fun x4 =>
 if (Dat.EqN (Dat.len x4.2.2.1) 0) then if (Dat.EqN (Dat.len x4.2.2.2.1) 0) then if (Dat.Ix d0.2.2.1 (Dat.len x4.2.2.2.1)) then Dat.bnd (Dat.get x4.2.2.2.1 (Dat.toN d0.2.2.1) 0) fun x11 =>
 Dat.bnd (Dat.wrap .i64 (Dat.add x11 d0.2.2.2)) fun x12 =>
 if (Dat.Ix d0.2.2.1 (Dat.len x4.2.2.2.1)) then Dat.bnd (Dat.get x4.2.2.2.1 (Dat.toN d0.2.2.1) 0) fun x15 =>
 none
 else none
 else none
 else if (Dat.In d0.2.2.1 (Dat.len x4.2.2.2.1)) then if (Dat.Lt (Dat.addN 0 (Dat.toN d0.2.2.1)) (Dat.len x4.2.2.2.1)) then Dat.bnd (Dat.get x4.2.2.2.1 (Dat.addN 0 (Dat.toN d0.2.2.1)) 0) fun x20 =>
 Dat.bnd (Dat.wrap .i64 (Dat.add x20 d0.2.2.2)) fun x21 =>
 if (Dat.In d0.2.2.1 (Dat.len x4.2.2.2.1)) then if (Dat.Lt (Dat.addN 0 (Dat.toN d0.2.2.1)) (Dat.len x4.2.2.2.1)) then Dat.bnd (Dat.set x4.2.2.2.1 (Dat.addN 0 (Dat.toN d0.2.2.1)) x21) fun x26 =>
 (bif x4.2.2.2.2.1 then if (Dat.Le (Dat.addN 0 (Dat.len x4.2.2.2.1)) (Dat.len x26)) then Dat.bind (zXb ((d0.1.1,(d0.1.2.1,())),(d0.2.1,(x4.1,(x4.2.1,(x4.2.2.1,((Dat.seg x26 0 (Dat.len x4.2.2.2.1)),(true,(x4.2.2.2.2.2.1,()))))))))) fun x29 =>
 some (x29.1,(x29.2.1,()))
 else none
 else if (Dat.Le (Dat.addN 0 (Dat.len x4.2.2.2.1)) (Dat.len x26)) then Dat.bind (zXb ((d0.1.1,(d0.1.2.1,())),(d0.2.1,(x4.1,(x4.2.1,(x4.2.2.1,((Dat.seg x26 0 (Dat.len x4.2.2.2.1)),((Dat.zQd false true (Dat.igt d0.2.2.2 0)),(x4.2.2.2.2.2.1,()))))))))) fun x32 =>
 some (x32.1,(x32.2.1,()))
 else none)
 else none
 else none
 else none
 else none
 else if (Dat.EqN (Dat.len x4.2.2.2.1) 0) then if (Dat.Ix d0.2.2.1 (Dat.len x4.2.2.2.1)) then Dat.bnd (Dat.get x4.2.2.2.1 (Dat.toN d0.2.2.1) 0) fun x37 =>
 Dat.bnd (Dat.wrap .i64 (Dat.add x37 d0.2.2.2)) fun x38 =>
 if (Dat.Ix d0.2.2.1 (Dat.len x4.2.2.2.1)) then Dat.bnd (Dat.get x4.2.2.2.1 (Dat.toN d0.2.2.1) 0) fun x41 =>
 none
 else none
 else none
 else if (Dat.In d0.2.2.1 (Dat.len x4.2.2.2.1)) then if (Dat.Lt (Dat.addN 0 (Dat.toN d0.2.2.1)) (Dat.len x4.2.2.2.1)) then Dat.bnd (Dat.get x4.2.2.2.1 (Dat.addN 0 (Dat.toN d0.2.2.1)) 0) fun x46 =>
 Dat.bnd (Dat.wrap .i64 (Dat.add x46 d0.2.2.2)) fun x47 =>
 if (Dat.In d0.2.2.1 (Dat.len x4.2.2.2.1)) then if (Dat.Lt (Dat.addN 0 (Dat.toN d0.2.2.1)) (Dat.len x4.2.2.2.1)) then Dat.bnd (Dat.set x4.2.2.2.1 (Dat.addN 0 (Dat.toN d0.2.2.1)) x47) fun x52 =>
 (bif x4.2.2.2.2.1 then if (Dat.Le (Dat.addN 0 (Dat.len x4.2.2.1)) (Dat.len x4.2.2.1)) then if (Dat.Le (Dat.addN 0 (Dat.len x4.2.2.2.1)) (Dat.len x52)) then Dat.bind (zXb ((d0.1.1,(d0.1.2.1,())),(d0.2.1,(x4.1,(x4.2.1,((Dat.seg x4.2.2.1 0 (Dat.len x4.2.2.1)),((Dat.seg x52 0 (Dat.len x4.2.2.2.1)),(true,(x4.2.2.2.2.2.1,()))))))))) fun x57 =>
 some (x57.1,(x57.2.1,()))
 else none
 else none
 else if (Dat.Le (Dat.addN 0 (Dat.len x4.2.2.1)) (Dat.len x4.2.2.1)) then if (Dat.Le (Dat.addN 0 (Dat.len x4.2.2.2.1)) (Dat.len x52)) then Dat.bind (zXb ((d0.1.1,(d0.1.2.1,())),(d0.2.1,(x4.1,(x4.2.1,((Dat.seg x4.2.2.1 0 (Dat.len x4.2.2.1)),((Dat.seg x52 0 (Dat.len x4.2.2.2.1)),((Dat.zQd false true (Dat.igt d0.2.2.2 0)),(x4.2.2.2.2.2.1,()))))))))) fun x62 =>
 some (x62.1,(x62.2.1,()))
 else none
 else none)
 else none
 else none
 else none
 else none
 else none
noncomputable def yWv : PFn:={ args:=[(.pair (.list (.pair (.int .u8) (.pair (.int .i64) (.pair (.list (.int .u8)) (.pair (.list (.int .i64)) (.pair .bool (.pair .bool .unit))))))) (.pair (.int .i64) .unit)),(.int .i64),(.int .i64),(.int .i64)],res:=[(.pair (.list (.pair (.int .u8) (.pair (.int .i64) (.pair (.list (.int .u8)) (.pair (.list (.int .i64)) (.pair .bool (.pair .bool .unit))))))) (.pair (.int .i64) .unit))],fn:=zY4 }
theorem yKr : zWp Try.prog cfg 88 yWv:=fnDa sp0 [] (l:=[(55,zZt),(73,zKc)]) (lo:=[(55,zKv)]) zW0 zQt (.cons zKi (.cons zKh .nil)) (.cons zYl.1 .nil) (fun d=>by kernel_rfl)
noncomputable def yKk (d0 : TCf×(((List TFr)×(Int×Unit))×(Int×Int))) : Option (((List TFr)×(Int×Unit))×Int) :=
 Dat.bind (zZk ((pCf d0.1),((d0.2.1.1,(d0.2.1.2.1,())),(d0.2.2.1,d0.2.2.2)))) fun x1 =>
 (bif (Dat.ine x1 0) then some ((([] : List TFr),(0,())),x1)
 else if (Dat.Ix d0.2.2.1 (Dat.len d0.2.1.1)) then Dat.bnd (Dat.get d0.2.1.1 (Dat.toN d0.2.2.1) zFr) fun x4 =>
 (bif (Dat.ieq x4.1 0) then some ((([] : List TFr),(0,())),2)
 else if (Dat.Ix d0.2.2.1 (Dat.len d0.2.1.1)) then Dat.bnd (Dat.get d0.2.1.1 (Dat.toN d0.2.2.1) zFr) fun x7 =>
 if (Dat.Ix d0.2.2.2 (Dat.len x7.2.2.2.1)) then Dat.bnd (Dat.get x7.2.2.2.1 (Dat.toN d0.2.2.2) 0) fun x10 =>
 (bif (Dat.ieq x10 8) then some ((([] : List TFr),(0,())),260)
 else Dat.bind (zY4 ((d0.2.1.1,(d0.2.1.2.1,())),(d0.2.2.1,(d0.2.2.2,1)))) fun x11 =>
 some ((x11.1,(x11.2.1,())),0))
 else none
 else none)
 else none)
noncomputable def xWx : PFn:={ args:=[(.pair (.int .i64) (.pair (.int .i64) (.pair (.int .i64) (.pair (.int .i64) (.pair (.int .i64) (.pair (.int .i64) (.pair (.int .i64) (.pair (.int .i64) (.pair (.int .i64) .unit))))))))),(.pair (.list (.pair (.int .u8) (.pair (.int .i64) (.pair (.list (.int .u8)) (.pair (.list (.int .i64)) (.pair .bool (.pair .bool .unit))))))) (.pair (.int .i64) .unit)),(.int .i64),(.int .i64)],res:=[(.pair (.list (.pair (.int .u8) (.pair (.int .i64) (.pair (.list (.int .u8)) (.pair (.list (.int .i64)) (.pair .bool (.pair .bool .unit))))))) (.pair (.int .i64) .unit)),(.int .i64)],fn:=yKk }
theorem wQn : zWp Try.prog cfg 76 xWx:=fnD sp0 (l:=[(75,zZs),(88,yWv)]) zW0 zQt (.cons zZ0 (.cons yKr .nil)) (fun d=>by kernel_rfl)
noncomputable def zK2 (d0 : TCf×(((List TFr)×(Int×Unit))×(Int×Int))) : Option (((List (List Int))×((List (List Int))×(List (List TMf))))×(((MixE TMf)×(Int×Unit))×Int)) :=
 Dat.bind (zW9 ((pCf d0.1),(d0.2.1.1,(d0.2.1.2.1,())))) fun x1 =>
 (bif (Dat.ine x1 0) then some ((([] : List (List Int)),(([] : List (List Int)),([] : List (List TMf)))),(((Dat.xnil (α:=TMf) ),(0,())),x1))
 else Dat.bind (zWl ((d0.2.1.1,(d0.2.1.2.1,())),d0.2.2.1)) fun x2 =>
 (bif (Dat.bnot x2) then some ((([] : List (List Int)),(([] : List (List Int)),([] : List (List TMf)))),(((Dat.xnil (α:=TMf) ),(0,())),2))
 else Dat.bind (zX1 ((pCf d0.1),d0.2.2.2)) fun x3 =>
 (bif (Dat.zQd false true (Dat.bnot x3)) then some ((([] : List (List Int)),(([] : List (List Int)),([] : List (List TMf)))),(((Dat.xnil (α:=TMf) ),(0,())),2))
 else if (Dat.Ix d0.2.2.1 (Dat.len d0.2.1.1)) then Dat.bnd (Dat.get d0.2.1.1 (Dat.toN d0.2.2.1) zFr) fun x6 =>
 (bif (Dat.ine x6.1 2) then some ((([] : List (List Int)),(([] : List (List Int)),([] : List (List TMf)))),(((Dat.xnil (α:=TMf) ),(0,())),260))
 else if (Dat.Ix d0.2.2.1 (Dat.len d0.2.1.1)) then Dat.bnd (Dat.get d0.2.1.1 (Dat.toN d0.2.2.1) zFr) fun x9 =>
 if (Dat.Ix d0.2.2.2 (Dat.len x9.2.2.2.1)) then Dat.bnd (Dat.get x9.2.2.2.1 (Dat.toN d0.2.2.2) 0) fun x12 =>
 (bif (Dat.zQd false true (Dat.ieq x12 0)) then some ((([] : List (List Int)),(([] : List (List Int)),([] : List (List TMf)))),(((Dat.xnil (α:=TMf) ),(0,())),260))
 else if (Dat.EqN (Dat.len d0.2.1.1) 0) then none
 else if (Dat.Le (Dat.addN 0 0) (Dat.len ([] : List TFr))) then if (Dat.EqN (Dat.len d0.2.1.1) 0) then Dat.bind (Dat.mapO (fun e19 =>
 some (e19.1,(e19.2.1,((Dat.zXx e19.2.2.1),((Dat.zXx e19.2.2.2.1),(e19.2.2.2.2.1,(e19.2.2.2.2.2.1,e19.2.2.2.2.2.2))))))) ([] : List TFr)) fun x20 =>
 Dat.loop (twB 0 (fun s21 =>
 if (Dat.Le (Dat.addN 0 0) (Dat.len s21.1)) then if (Dat.Le (Dat.addN 0 0) (Dat.len ([] : List TFr))) then if (Dat.EqN (Dat.len (Dat.seg s21.1 0 0)) 0) then if (Dat.In d0.2.2.1 0) then if (Dat.Lt (Dat.addN 0 (Dat.toN d0.2.2.1)) (Dat.len ([] : List TFr))) then Dat.bnd (Dat.get ([] : List TFr) (Dat.addN 0 (Dat.toN d0.2.2.1)) zFr) fun x61 =>
 if (Dat.Ix d0.2.2.2 (Dat.len x61.2.2.2.1)) then Dat.bnd (Dat.get x61.2.2.2.1 (Dat.toN d0.2.2.2) 0) fun x64 =>
 Dat.bnd (Dat.wrap .i64 (Dat.sub x64 1)) fun x65 =>
 if (Dat.Ix d0.2.2.2 (Dat.len x61.2.2.2.1)) then Dat.bnd (Dat.get x61.2.2.2.1 (Dat.toN d0.2.2.2) 0) fun x68 =>
 none
 else none
 else none
 else none
 else none
 else if (Dat.Big (Dat.len ([] : List TMf)) (Dat.len (Dat.seg s21.1 0 0)) 72) then none
 else Dat.bnd (Dat.app ([] : List TMf) (Dat.seg s21.1 0 0)) fun x71 =>
 if (Dat.In d0.2.2.1 (Dat.len x71)) then if (Dat.Lt (Dat.addN 0 (Dat.toN d0.2.2.1)) (Dat.len x71)) then Dat.bnd (Dat.get x71 (Dat.addN 0 (Dat.toN d0.2.2.1)) zMf) fun x76 =>
 if (Dat.Ix d0.2.2.2 (Dat.xlen x76.2.2.2.1)) then if (Dat.XPt s21.2.2.1 x76.2.2.2.1 (Dat.toN d0.2.2.2)) then if (Dat.XPt s21.2.2.1 x76.2.2.2.1 (Dat.toN d0.2.2.2)) then Dat.bnd (Dat.xat s21.2.2.1 x76.2.2.2.1 (Dat.toN d0.2.2.2) 0) fun x83 =>
 Dat.bnd (Dat.wrap .i64 (Dat.sub x83 1)) fun x84 =>
 if (Dat.Ix d0.2.2.2 (Dat.xlen x76.2.2.2.1)) then if (Dat.XPt s21.2.2.1 x76.2.2.2.1 (Dat.toN d0.2.2.2)) then if (Dat.XPt s21.2.2.1 x76.2.2.2.1 (Dat.toN d0.2.2.2)) then Dat.bnd (Dat.xset s21.2.2.1 x76.2.2.2.1 (Dat.toN d0.2.2.2) x84) fun x91 =>
 if (Dat.In d0.2.2.1 (Dat.len x71)) then if (Dat.Lt (Dat.addN 0 (Dat.toN d0.2.2.1)) (Dat.len x71)) then Dat.bnd (Dat.set x71 (Dat.addN 0 (Dat.toN d0.2.2.1)) (x76.1,(x76.2.1,(x76.2.2.1,(x76.2.2.2.1,(x76.2.2.2.2.1,(x76.2.2.2.2.2.1,()))))))) fun x96 =>
 if (Dat.EqN 0 0) then if (Dat.EqN (Dat.len x71) (Dat.len x96)) then some ((s21.2.1,(x91,(x96::([] : List (List TMf))))),(((Dat.xnew (α:=TMf) 0 (Dat.len x71)),(d0.2.1.2.1,())),0))
 else none
 else none
 else none
 else none
 else none
 else none
 else none
 else none
 else none
 else none
 else none
 else none
 else none
 else none)) (x20,(([] : List (List Int)),(([] : List (List Int)),0)))
 else if (Dat.Big (Dat.len (Dat.seg ([] : List TFr) 0 0)) (Dat.len d0.2.1.1) 72) then none
 else Dat.bnd (Dat.app (Dat.seg ([] : List TFr) 0 0) d0.2.1.1) fun x103 =>
 Dat.bind (Dat.mapO (fun e104 =>
 some (e104.1,(e104.2.1,((Dat.zXx e104.2.2.1),((Dat.zXx e104.2.2.2.1),(e104.2.2.2.2.1,(e104.2.2.2.2.2.1,e104.2.2.2.2.2.2))))))) x103) fun x105 =>
 Dat.loop (twB (Dat.len x103) (fun s106 =>
 if (Dat.Le (Dat.addN 0 (Dat.len x103)) (Dat.len s106.1)) then if (Dat.Le (Dat.addN 0 0) (Dat.len ([] : List TFr))) then if (Dat.EqN (Dat.len (Dat.seg s106.1 0 (Dat.len x103))) 0) then if (Dat.In d0.2.2.1 0) then if (Dat.Lt (Dat.addN 0 (Dat.toN d0.2.2.1)) (Dat.len ([] : List TFr))) then Dat.bnd (Dat.get ([] : List TFr) (Dat.addN 0 (Dat.toN d0.2.2.1)) zFr) fun x146 =>
 if (Dat.Ix d0.2.2.2 (Dat.len x146.2.2.2.1)) then Dat.bnd (Dat.get x146.2.2.2.1 (Dat.toN d0.2.2.2) 0) fun x149 =>
 Dat.bnd (Dat.wrap .i64 (Dat.sub x149 1)) fun x150 =>
 if (Dat.Ix d0.2.2.2 (Dat.len x146.2.2.2.1)) then Dat.bnd (Dat.get x146.2.2.2.1 (Dat.toN d0.2.2.2) 0) fun x153 =>
 none
 else none
 else none
 else none
 else none
 else if (Dat.Big (Dat.len ([] : List TMf)) (Dat.len (Dat.seg s106.1 0 (Dat.len x103))) 72) then none
 else Dat.bnd (Dat.app ([] : List TMf) (Dat.seg s106.1 0 (Dat.len x103))) fun x156 =>
 if (Dat.In d0.2.2.1 (Dat.len x156)) then if (Dat.Lt (Dat.addN 0 (Dat.toN d0.2.2.1)) (Dat.len x156)) then Dat.bnd (Dat.get x156 (Dat.addN 0 (Dat.toN d0.2.2.1)) zMf) fun x161 =>
 if (Dat.Ix d0.2.2.2 (Dat.xlen x161.2.2.2.1)) then if (Dat.XPt s106.2.2.1 x161.2.2.2.1 (Dat.toN d0.2.2.2)) then if (Dat.XPt s106.2.2.1 x161.2.2.2.1 (Dat.toN d0.2.2.2)) then Dat.bnd (Dat.xat s106.2.2.1 x161.2.2.2.1 (Dat.toN d0.2.2.2) 0) fun x168 =>
 Dat.bnd (Dat.wrap .i64 (Dat.sub x168 1)) fun x169 =>
 if (Dat.Ix d0.2.2.2 (Dat.xlen x161.2.2.2.1)) then if (Dat.XPt s106.2.2.1 x161.2.2.2.1 (Dat.toN d0.2.2.2)) then if (Dat.XPt s106.2.2.1 x161.2.2.2.1 (Dat.toN d0.2.2.2)) then Dat.bnd (Dat.xset s106.2.2.1 x161.2.2.2.1 (Dat.toN d0.2.2.2) x169) fun x176 =>
 if (Dat.In d0.2.2.1 (Dat.len x156)) then if (Dat.Lt (Dat.addN 0 (Dat.toN d0.2.2.1)) (Dat.len x156)) then Dat.bnd (Dat.set x156 (Dat.addN 0 (Dat.toN d0.2.2.1)) (x161.1,(x161.2.1,(x161.2.2.1,(x161.2.2.2.1,(x161.2.2.2.2.1,(x161.2.2.2.2.2.1,()))))))) fun x181 =>
 if (Dat.EqN 0 0) then if (Dat.EqN (Dat.len x156) (Dat.len x181)) then some ((s106.2.1,(x176,(x181::([] : List (List TMf))))),(((Dat.xnew (α:=TMf) 0 (Dat.len x156)),(d0.2.1.2.1,())),0))
 else none
 else none
 else none
 else none
 else none
 else none
 else none
 else none
 else none
 else none
 else none
 else none
 else none
 else none)) (x105,(([] : List (List Int)),(([] : List (List Int)),0)))
 else none)
 else none
 else none)
 else none)))
def wXj : List LSpec×List Nat:=([],[3])
def wXk : List LSpec×List Nat:=([{ id:=2700,known:=true,toks:=[(9000000,(.int .u8)),(9000000,(.int .i64)),(5500013,(.pair (.int .u8) (.pair (.int .i64) (.pair (.mix 900000002 (.int .u8)) (.pair (.mix 900000001 (.int .i64)) (.pair .bool (.pair .bool .unit)))))))],items:=[.vec 1000013 (.pair (.int .u8) (.pair (.int .i64) (.pair (.mix 900000002 (.int .u8)) (.pair (.mix 900000001 (.int .i64)) (.pair .bool (.pair .bool .unit)))))), .rows 900000002 (.int .u8), .rows 900000001 (.int .i64), .slot 15 (.val (.int .i64))],junk:=[16,17,18,19,5,4,20,21,22,23,24,25,26,27,28,29,30,31,32,33,34,35,36],tails:=[] }],[])
def wXl : List LSpec×List Nat:=([],[888888])
def vQ3 : Tab (List LSpec×List Nat):=(.node (.node (.node (.node (.node (.node (.node .leaf (some wXj) .leaf) none .leaf) none .leaf) none .leaf) none (.node .leaf none (.node .leaf (some wXk) .leaf))) none (.node .leaf none (.node .leaf (some wXl) .leaf))) none .leaf)
def vQ9 (f : Nat) : List LSpec×List Nat:=(vQ3.get f).getD ([],[])
noncomputable def yQ8 : RFn:={ args:=[(.pair (.int .i64) (.pair (.int .i64) (.pair (.int .i64) (.pair (.int .i64) (.pair (.int .i64) (.pair (.int .i64) (.pair (.int .i64) (.pair (.int .i64) (.pair (.int .i64) .unit))))))))),(.pair (.list (.pair (.int .u8) (.pair (.int .i64) (.pair (.list (.int .u8)) (.pair (.list (.int .i64)) (.pair .bool (.pair .bool .unit))))))) (.pair (.int .i64) .unit)),(.int .i64),(.int .i64)],objs:=[(.int .u8),(.int .i64),(.pair (.int .u8) (.pair (.int .i64) (.pair (.mix 0 (.int .u8)) (.pair (.mix 1 (.int .i64)) (.pair .bool (.pair .bool .unit))))))],res:=[(.pair (.mix 2 (.pair (.int .u8) (.pair (.int .i64) (.pair (.mix 0 (.int .u8)) (.pair (.mix 1 (.int .i64)) (.pair .bool (.pair .bool .unit))))))) (.pair (.int .i64) .unit)),(.int .i64)],fn:=zK2 }
theorem yJv : OwnR Try.prog cfg 13 yQ8:=fnR vQ9 [] (l:=[(29,zXi),(42,zWw),(43,zZu),(48,zQ1),(64,zWb)]) (lo:=[(48,zQ2),(64,zWc)]) (lr:=[]) zW0 zQt (.cons zXm (.cons zW1 (.cons zKj (.cons zQ7 (.cons zWe .nil))))) (.cons zQ8.1 (.cons zWf.1 .nil)) .nil (fun d=>by kernel_rfl)
noncomputable def yQk (d0 : TCf×(((List TFr)×(Int×Unit))×(Int×Int))) : Option (((List TFr)×(Int×Unit))×Int) :=
 Dat.bind (zZk ((pCf d0.1),((d0.2.1.1,(d0.2.1.2.1,())),(d0.2.2.1,d0.2.2.2)))) fun x1 =>
 (bif (Dat.ine x1 0) then some ((([] : List TFr),(0,())),x1)
 else if (Dat.Ix d0.2.2.1 (Dat.len d0.2.1.1)) then Dat.bnd (Dat.get d0.2.1.1 (Dat.toN d0.2.2.1) zFr) fun x4 =>
 (bif (Dat.ine x4.1 2) then some ((([] : List TFr),(0,())),260)
 else if (Dat.Ix d0.2.2.1 (Dat.len d0.2.1.1)) then Dat.bnd (Dat.get d0.2.1.1 (Dat.toN d0.2.2.1) zFr) fun x7 =>
 if (Dat.Ix d0.2.2.2 (Dat.len x7.2.2.2.1)) then Dat.bnd (Dat.get x7.2.2.2.1 (Dat.toN d0.2.2.2) 0) fun x10 =>
 (bif (Dat.zQd false true (Dat.ieq x10 0)) then some ((([] : List TFr),(0,())),260)
 else Dat.bind (zY4 ((d0.2.1.1,(d0.2.1.2.1,())),(d0.2.2.1,(d0.2.2.2,(-1))))) fun x11 =>
 some ((x11.1,(x11.2.1,())),0))
 else none
 else none)
 else none)
noncomputable def yKw : PFn:={ args:=[(.pair (.int .i64) (.pair (.int .i64) (.pair (.int .i64) (.pair (.int .i64) (.pair (.int .i64) (.pair (.int .i64) (.pair (.int .i64) (.pair (.int .i64) (.pair (.int .i64) .unit))))))))),(.pair (.list (.pair (.int .u8) (.pair (.int .i64) (.pair (.list (.int .u8)) (.pair (.list (.int .i64)) (.pair .bool (.pair .bool .unit))))))) (.pair (.int .i64) .unit)),(.int .i64),(.int .i64)],res:=[(.pair (.list (.pair (.int .u8) (.pair (.int .i64) (.pair (.list (.int .u8)) (.pair (.list (.int .i64)) (.pair .bool (.pair .bool .unit))))))) (.pair (.int .i64) .unit)),(.int .i64)],fn:=yQk }
theorem xZf : zWp Try.prog cfg 77 yKw:=fnD sp0 (l:=[(75,zZs),(88,yWv)]) zW0 zQt (.cons zZ0 (.cons yKr .nil)) (fun d=>by kernel_rfl)
noncomputable def zY6 (d0 : List Int×(List Int)) : Option Bool :=
 Dat.bnd (Dat.str d0.1) fun x1 =>
 Dat.bnd (Dat.str d0.2) fun x2 =>
 some (Dat.seq x1 x2)
noncomputable def yWz : PFn:={ args:=[(.list (.int .u8)),(.list (.int .u8))],res:=[.bool],fn:=zY6 }
theorem yKu : zWp Try.prog cfg 39 yWz:=fnD sp0 (l:=[]) zW0 zQt .nil (fun d=>by kernel_rfl)
noncomputable def zK0 (d0 : List Int×(List Int)) : Option Bool :=
 (bif (Dat.ine (Dat.ofN (Dat.len d0.1)) (Dat.ofN (Dat.len d0.2))) then some false
 else Dat.loop (fun (s1 : Int) k2 =>
 (bif (Dat.ilt s1 (Dat.ofN (Dat.len d0.1))) then if (Dat.Ix s1 (Dat.len d0.1)) then Dat.bnd (Dat.get d0.1 (Dat.toN s1) 0) fun x5 =>
 if (Dat.Ix s1 (Dat.len d0.2)) then Dat.bnd (Dat.get d0.2 (Dat.toN s1) 0) fun x8 =>
 (bif (Dat.ine x5 x8) then some false
 else Dat.bnd (Dat.wrap .i64 (Dat.add s1 1)) fun x9 =>
 k2 x9)
 else none
 else none
 else some true)) 0)
noncomputable def yWa : PFn:={ args:=[(.list (.int .i64)),(.list (.int .i64))],res:=[.bool],fn:=zK0 }
def uQv : List LSpec×List Nat:=([{ id:=1900,known:=true,toks:=[],items:=[.slot 5 (.val (.int .i64))],junk:=[11,12,13,14,17,18,19,20,21,22,23,24,25,4,15,16],tails:=[] }],[])
def spt19 : Tab (List LSpec×List Nat):=(.node (.node (.node .leaf none (.node (.node .leaf (some uQv) .leaf) none .leaf)) none .leaf) none .leaf)
def spf19 (f : Nat) : List LSpec×List Nat:=(spt19.get f).getD ([],[])
theorem yJy : zWp Try.prog cfg 19 yWa:=fnD spf19 (l:=[]) zW0 zQt .nil (fun d=>by kernel_rfl)
noncomputable def zXy (d0 : ((List TFr)×(Int×Unit))×((List TFr)×(Int×Unit))) : Option Bool :=
 (bif (Dat.ine (Dat.ofN (Dat.len d0.1.1)) (Dat.ofN (Dat.len d0.2.1))) then some false
 else (bif (Dat.zQd false true (Dat.ine d0.1.2.1 d0.2.2.1)) then some false
 else Dat.loop (fun (s1 : Int) k2 =>
 (bif (Dat.ilt s1 (Dat.ofN (Dat.len d0.1.1))) then if (Dat.Ix s1 (Dat.len d0.1.1)) then Dat.bnd (Dat.get d0.1.1 (Dat.toN s1) zFr) fun x5 =>
 if (Dat.Ix s1 (Dat.len d0.2.1)) then Dat.bnd (Dat.get d0.2.1 (Dat.toN s1) zFr) fun x8 =>
 (bif (Dat.ine x5.1 x8.1) then some false
 else (bif (Dat.zQd false true (Dat.ine x5.2.1 x8.2.1)) then some false
 else Dat.bind (zY6 (x5.2.2.1,x8.2.2.1)) fun x9 =>
 (bif (Dat.zQd false true (Dat.bnot x9)) then some false
 else Dat.bind (zK0 (x5.2.2.2.1,x8.2.2.2.1)) fun x10 =>
 (bif (Dat.zQd false true (Dat.bnot x10)) then some false
 else (bif (Dat.zQd false true (Dat.bnot (Dat.beq x5.2.2.2.2.1 x8.2.2.2.2.1))) then some false
 else (bif (Dat.zQd false true (Dat.bnot (Dat.beq x5.2.2.2.2.2.1 x8.2.2.2.2.2.1))) then some false
 else Dat.bnd (Dat.wrap .i64 (Dat.add s1 1)) fun x11 =>
 k2 x11))))))
 else none
 else none
 else some true)) 0))
noncomputable def yWx : PFn:={ args:=[(.pair (.list (.pair (.int .u8) (.pair (.int .i64) (.pair (.list (.int .u8)) (.pair (.list (.int .i64)) (.pair .bool (.pair .bool .unit))))))) (.pair (.int .i64) .unit)),(.pair (.list (.pair (.int .u8) (.pair (.int .i64) (.pair (.list (.int .u8)) (.pair (.list (.int .i64)) (.pair .bool (.pair .bool .unit))))))) (.pair (.int .i64) .unit))],res:=[.bool],fn:=zXy }
def uQs : List LSpec×List Nat:=([{ id:=2800,known:=true,toks:=[],items:=[.slot 5 (.val (.int .i64))],junk:=[22,23,24,25,26,29,30,31,32,33,34,35,36,37,38,6,7,39,40,41,42,43,44,45,46,47,48,49,50,51,52,53,54,55,56,57,58,59,60,61,62,63,64,65,66,67,68,69,70,71,72,73,74,75,76,77,78,79,80,4,27,28],tails:=[] }],[])
def spt28 : Tab (List LSpec×List Nat):=(.node .leaf none (.node (.node .leaf none (.node .leaf none (.node .leaf (some uQs) .leaf))) none .leaf))
def spf28 (f : Nat) : List LSpec×List Nat:=(spt28.get f).getD ([],[])
theorem yKt : zWp Try.prog cfg 28 yWx:=fnD spf28 (l:=[(39,yWz),(19,yWa)]) zW0 zQt (.cons yKu (.cons yJy .nil)) (fun d=>by kernel_rfl)
abbrev SpT : Type:=Int×((List (List Int))×((List (List Int))×(List (List TMf))))
@[reducible] noncomputable def spB {β : Type} (MM : MixE TMf) (fin : SpT→Option β) (s0 : SpT) (k0 : SpT→Option β) : Option β :=
 (bif (Dat.ilt s0.1 (Dat.ofN (Dat.xlen MM))) then if (Dat.Ix s0.1 (Dat.xlen MM)) then if (Dat.XPt s0.2.2.2 MM (Dat.toN s0.1)) then if (Dat.XPt s0.2.2.2 MM (Dat.toN s0.1)) then if (Dat.XPt s0.2.2.2 MM (Dat.toN s0.1)) then Dat.bnd (Dat.xat s0.2.2.2 MM (Dat.toN s0.1) zMf) fun x1 =>
 Dat.bnd (Dat.xset s0.2.2.2 MM (Dat.toN s0.1) (x1.1,((-7),(x1.2.2.1,(x1.2.2.2.1,(x1.2.2.2.2.1,(x1.2.2.2.2.2.1,()))))))) fun x2 =>
 Dat.loop (fun (s3 : Int×(List (List Int))) k4 =>
 if (Dat.Ix s0.1 (Dat.xlen MM)) then if (Dat.XPt x2 MM (Dat.toN s0.1)) then if (Dat.XPt x2 MM (Dat.toN s0.1)) then if (Dat.XPt x2 MM (Dat.toN s0.1)) then Dat.bnd (Dat.xat x2 MM (Dat.toN s0.1) zMf) fun x5 =>
 (bif (Dat.ilt s3.1 (Dat.ofN (Dat.xlen x5.2.2.1))) then if (Dat.Ix s0.1 (Dat.xlen MM)) then if (Dat.XPt x2 MM (Dat.toN s0.1)) then if (Dat.XPt x2 MM (Dat.toN s0.1)) then if (Dat.XPt x2 MM (Dat.toN s0.1)) then Dat.bnd (Dat.xat x2 MM (Dat.toN s0.1) zMf) fun x6 =>
 if (Dat.Ix s0.1 (Dat.xlen MM)) then if (Dat.XPt x2 MM (Dat.toN s0.1)) then if (Dat.XPt x2 MM (Dat.toN s0.1)) then if (Dat.XPt x2 MM (Dat.toN s0.1)) then Dat.bnd (Dat.xat x2 MM (Dat.toN s0.1) zMf) fun x7 =>
 if (Dat.Ix s3.1 (Dat.xlen x7.2.2.1)) then if (Dat.XPt s3.2 x7.2.2.1 (Dat.toN s3.1)) then if (Dat.XPt s3.2 x7.2.2.1 (Dat.toN s3.1)) then Dat.bnd (Dat.xat s3.2 x7.2.2.1 (Dat.toN s3.1) 0) fun x8 =>
 Dat.bnd (Dat.wrap .u8 (Dat.add x8 1)) fun x9 =>
 if (Dat.Ix s3.1 (Dat.xlen x6.2.2.1)) then if (Dat.XPt s3.2 x6.2.2.1 (Dat.toN s3.1)) then if (Dat.XPt s3.2 x6.2.2.1 (Dat.toN s3.1)) then Dat.bnd (Dat.xset s3.2 x6.2.2.1 (Dat.toN s3.1) x9) fun x10 =>
 Dat.bnd (Dat.wrap .i64 (Dat.add s3.1 1)) fun x11 =>
 k4 (x11,x10)
 else none
 else none
 else none
 else none
 else none
 else none
 else none
 else none
 else none
 else none
 else none
 else none
 else none
 else none
 else Dat.loop (fun (s12 : Int×(List (List Int))) k13 =>
 if (Dat.Ix s0.1 (Dat.xlen MM)) then if (Dat.XPt x2 MM (Dat.toN s0.1)) then if (Dat.XPt x2 MM (Dat.toN s0.1)) then if (Dat.XPt x2 MM (Dat.toN s0.1)) then Dat.bnd (Dat.xat x2 MM (Dat.toN s0.1) zMf) fun x14 =>
 (bif (Dat.ilt s12.1 (Dat.ofN (Dat.xlen x14.2.2.2.1))) then if (Dat.Ix s0.1 (Dat.xlen MM)) then if (Dat.XPt x2 MM (Dat.toN s0.1)) then if (Dat.XPt x2 MM (Dat.toN s0.1)) then if (Dat.XPt x2 MM (Dat.toN s0.1)) then Dat.bnd (Dat.xat x2 MM (Dat.toN s0.1) zMf) fun x15 =>
 if (Dat.Ix s12.1 (Dat.xlen x15.2.2.2.1)) then if (Dat.XPt s12.2 x15.2.2.2.1 (Dat.toN s12.1)) then if (Dat.XPt s12.2 x15.2.2.2.1 (Dat.toN s12.1)) then Dat.bnd (Dat.xset s12.2 x15.2.2.2.1 (Dat.toN s12.1) (-7)) fun x16 =>
 Dat.bnd (Dat.wrap .i64 (Dat.add s12.1 1)) fun x17 =>
 k13 (x17,x16)
 else none
 else none
 else none
 else none
 else none
 else none
 else none
 else Dat.bnd (Dat.wrap .i64 (Dat.add s0.1 1)) fun x18 =>
 k0 (x18,(s12.2,(s3.2,x2))))
 else none
 else none
 else none
 else none) (0,s0.2.1))
 else none
 else none
 else none
 else none) (0,s0.2.2.1)
 else none
 else none
 else none
 else none
 else fin s0)
@[reducible] noncomputable def vwF (P Q : List (List Int)) (e : TMf) : Option TFr :=
 if (Dat.XOk P e.2.2.1) then Dat.bnd (Dat.xget P e.2.2.1) fun x=>if (Dat.XOk Q e.2.2.2.1) then Dat.bnd (Dat.xget Q e.2.2.2.1) fun y=>some (e.1,(e.2.1,(x,(y,(e.2.2.2.2.1,(e.2.2.2.2.2.1,e.2.2.2.2.2.2))))))
 else none
 else none
noncomputable def zYm (d0 : TCf×(((List TFr)×(Int×Unit))×(((List TFr)×(Int×Unit))×(Int×Int)))) : Option Bool :=
 Dat.bind (zYp ((pCf d0.1),((d0.2.1.1,(d0.2.1.2.1,())),(d0.2.2.2.1,d0.2.2.2.2)))) fun x1 =>
 Dat.bind (yKk ((pCf d0.1),((d0.2.2.1.1,(d0.2.2.1.2.1,())),(d0.2.2.2.1,d0.2.2.2.2)))) fun x2 =>
 Dat.bind (zK2 ((pCf d0.1),((d0.2.1.1,(d0.2.1.2.1,())),(d0.2.2.2.1,d0.2.2.2.2)))) fun x3 =>
 Dat.bind (yQk ((pCf d0.1),((d0.2.2.1.1,(d0.2.2.1.2.1,())),(d0.2.2.2.1,d0.2.2.2.2)))) fun x4 =>
 Dat.join (σ:=Bool) (fun k5 =>
 if (Dat.XOk x1.1.2.2 x1.2.1.1) then Dat.bind (Dat.mapO (vwF x1.1.1 x1.1.2.1) (Dat.xget x1.1.2.2 x1.2.1.1)) fun x15 =>
 Dat.bind (zXy ((x15,(x1.2.1.2.1,())),(x2.1.1,(x2.1.2.1,())))) fun x16 =>
 (bif x16 then (bif (Dat.zQd true (Dat.ieq x1.2.2 x2.2) false) then if (Dat.XOk x3.1.2.2 x3.2.1.1) then Dat.bind (Dat.mapO (vwF x3.1.1 x3.1.2.1) (Dat.xget x3.1.2.2 x3.2.1.1)) fun x26 =>
 Dat.bind (zXy ((x26,(x3.2.1.2.1,())),(x4.1.1,(x4.1.2.1,())))) fun x27 =>
 (bif (Dat.zQd true x27 false) then k5 (Dat.zQd true (Dat.ieq x3.2.2 x4.2) false)
 else k5 false)
 else none
 else k5 false)
 else k5 false)
 else none) fun j28 =>
 Dat.loop (spB x1.2.1.1 (fun s29 =>
 Dat.loop (spB x3.2.1.1 (fun s115 =>
 some j28)) (0,(x3.1.2.1,(x3.1.1,x3.1.2.2))))) (0,(x1.1.2.1,(x1.1.1,x1.1.2.2)))
noncomputable def yZl : PFn:={ args:=[(.pair (.int .i64) (.pair (.int .i64) (.pair (.int .i64) (.pair (.int .i64) (.pair (.int .i64) (.pair (.int .i64) (.pair (.int .i64) (.pair (.int .i64) (.pair (.int .i64) .unit))))))))),(.pair (.list (.pair (.int .u8) (.pair (.int .i64) (.pair (.list (.int .u8)) (.pair (.list (.int .i64)) (.pair .bool (.pair .bool .unit))))))) (.pair (.int .i64) .unit)),(.pair (.list (.pair (.int .u8) (.pair (.int .i64) (.pair (.list (.int .u8)) (.pair (.list (.int .i64)) (.pair .bool (.pair .bool .unit))))))) (.pair (.int .i64) .unit)),(.int .i64),(.int .i64)],res:=[.bool],fn:=zYm }
def uQq : List LSpec×List Nat:=([{ id:=3300,known:=true,toks:=[],items:=[.slot 2 (.val (.int .i64)), .rows 13001000 (.int .i64), .rows 23001000 (.int .u8), .rows 3001000 (.pair (.int .u8) (.pair (.int .i64) (.pair (.mix 23001000 (.int .u8)) (.pair (.mix 13001000 (.int .i64)) (.pair .bool (.pair .bool .unit))))))],junk:=[5,6,7,8,9,12,13,14,15,16,3,17,18,19,20,21,22,23,24,25,28,29,30,31,32,33,34,35,36,37,38,39,40,41,42,43,44,45,26,27,4,46,47,48,49,50,51,52,53,54,57,58,59,60,61,62,63,64,55,56,10,11],tails:=[] },{ id:=3301,known:=true,toks:=[],items:=[.slot 3 (.val (.int .i64)), .rows 21000007 (.int .u8)],junk:=[17,18,19,20,21,22,23,24,25,28,29,30,31,32,33,34,35,36,37,38,39,40,41,42,43,44,45,26,27],tails:=[] },{ id:=3302,known:=true,toks:=[],items:=[.slot 4 (.val (.int .i64)), .rows 11000007 (.int .i64)],junk:=[46,47,48,49,50,51,52,53,54,57,58,59,60,61,62,63,64,55,56],tails:=[] }],[])
def uQp : List LSpec×List Nat:=([uk 5038000,uk 5038001,uk 5038002,uk 5038003,uk 5038004,{ id:=5038005,known:=true,toks:=[],items:=[.slot 19 (.val .bool)],junk:=[52,53,54,55,56,57,58,59,60,61,62,63,64,65,66,67,68,69],tails:=[] },uk 5038006,uk 5038007,uk 5038008],[])
def spt38 : Tab (List LSpec×List Nat):=(.node (.node .leaf none (.node (.node (.node (.node .leaf (some uQq) .leaf) none .leaf) none .leaf) none .leaf)) none (.node .leaf none (.node .leaf none (.node (.node (.node .leaf (some uQp) .leaf) none .leaf) none .leaf))))
def spf38 (f : Nat) : List LSpec×List Nat:=(spt38.get f).getD ([],[])
theorem xWu : zWp Try.prog cfg 38 yZl:=fnDr spf38 [] (l:=[(76,xWx),(77,yKw),(28,yWx)]) (lo:=[]) (lr:=[(14,yZi),(13,yQ8)]) zW0 zQt (.cons wQn (.cons xZf (.cons yKt .nil))) .nil (.cons xWn (.cons yJv .nil)) (fun d=>by kernel_rfl)
noncomputable def yQx (d0 : TCf×(((List TFr)×(Int×Unit))×Int)) : Option (Int×Bool) :=
 Dat.bind (zW9 ((pCf d0.1),(d0.2.1.1,(d0.2.1.2.1,())))) fun x1 =>
 (bif (Dat.ine x1 0) then some (0,false)
 else Dat.loop (fun (s2 : Int) k3 =>
 (bif (Dat.ilt s2 (Dat.ofN (Dat.len d0.2.1.1))) then if (Dat.Ix s2 (Dat.len d0.2.1.1)) then Dat.bnd (Dat.get d0.2.1.1 (Dat.toN s2) zFr) fun x6 =>
 (bif (Dat.ine x6.1 0) then (bif (Dat.zQd true (Dat.ieq x6.2.1 d0.2.2) false) then some ((Dat.imax true s2 0),(Dat.ige s2 0))
 else Dat.bnd (Dat.wrap .i64 (Dat.add s2 1)) fun x7 =>
 k3 x7)
 else Dat.bnd (Dat.wrap .i64 (Dat.add s2 1)) fun x8 =>
 k3 x8)
 else none
 else some ((Dat.imax true (-1) 0),(Dat.ige (-1) 0)))) 0)
noncomputable def yKz : PFn:={ args:=[(.pair (.int .i64) (.pair (.int .i64) (.pair (.int .i64) (.pair (.int .i64) (.pair (.int .i64) (.pair (.int .i64) (.pair (.int .i64) (.pair (.int .i64) (.pair (.int .i64) .unit))))))))),(.pair (.list (.pair (.int .u8) (.pair (.int .i64) (.pair (.list (.int .u8)) (.pair (.list (.int .i64)) (.pair .bool (.pair .bool .unit))))))) (.pair (.int .i64) .unit)),(.int .i64)],res:=[(.int .i64), .bool],fn:=yQx }
def uQw : List LSpec×List Nat:=([{ id:=4900,known:=true,toks:=[],items:=[.slot 8 (.val (.int .i64))],junk:=[9,10,5,11,12,13,14,15,16,17,4,18],tails:=[] }],[])
def spt12 : Tab (List LSpec×List Nat):=(.node (.node .leaf none (.node (.node (.node .leaf none (.node .leaf (some uQw) .leaf)) none .leaf) none .leaf)) none .leaf)
def spf12 (f : Nat) : List LSpec×List Nat:=(spt12.get f).getD ([],[])
theorem xZi : zWp Try.prog cfg 12 yKz:=fnD spf12 (l:=[(29,zXi)]) zW0 zQt (.cons zXm .nil) (fun d=>by kernel_rfl)
noncomputable def zJq (d0 : TCf×(((List TFr)×(Int×Unit))×(Int×(Int×Int)))) : Option (((List (List Int))×((List (List Int))×(List (List TMf))))×(((MixE TMf)×(Int×Unit))×Int)) :=
 Dat.bind (zW9 ((pCf d0.1),(d0.2.1.1,(d0.2.1.2.1,())))) fun x1 =>
 (bif (Dat.ine x1 0) then some ((([] : List (List Int)),(([] : List (List Int)),([] : List (List TMf)))),(((Dat.xnil (α:=TMf) ),(0,())),x1))
 else Dat.bind (zWl ((d0.2.1.1,(d0.2.1.2.1,())),d0.2.2.1)) fun x2 =>
 (bif (Dat.bnot x2) then some ((([] : List (List Int)),(([] : List (List Int)),([] : List (List TMf)))),(((Dat.xnil (α:=TMf) ),(0,())),2))
 else Dat.bind (zX1 ((pCf d0.1),d0.2.2.2.2)) fun x3 =>
 (bif (Dat.zQd false true (Dat.bnot x3)) then some ((([] : List (List Int)),(([] : List (List Int)),([] : List (List TMf)))),(((Dat.xnil (α:=TMf) ),(0,())),2))
 else (bif (Dat.zQd false true (Dat.ilt d0.2.2.2.1 0)) then some ((([] : List (List Int)),(([] : List (List Int)),([] : List (List TMf)))),(((Dat.xnil (α:=TMf) ),(0,())),2))
 else (bif (Dat.zQd false true (Dat.ige d0.2.2.2.1 d0.1.1)) then some ((([] : List (List Int)),(([] : List (List Int)),([] : List (List TMf)))),(((Dat.xnil (α:=TMf) ),(0,())),2))
 else if (Dat.Ix d0.2.2.1 (Dat.len d0.2.1.1)) then Dat.bnd (Dat.get d0.2.1.1 (Dat.toN d0.2.2.1) zFr) fun x6 =>
 Dat.bind (yQx ((pCf d0.1),((d0.2.1.1,(d0.2.1.2.1,())),d0.2.2.2.1))) fun x7 =>
 (bif (Dat.ieq x6.1 1) then some ((([] : List (List Int)),(([] : List (List Int)),([] : List (List TMf)))),(((Dat.xnil (α:=TMf) ),(0,())),2))
 else Dat.bind (zW8 (x6.1,(x6.2.1,(x6.2.2.1,(x6.2.2.2.1,(x6.2.2.2.2.1,(x6.2.2.2.2.2.1,()))))))) fun x8 =>
 (bif (Dat.zQd false true x8) then some ((([] : List (List Int)),(([] : List (List Int)),([] : List (List TMf)))),(((Dat.xnil (α:=TMf) ),(0,())),2))
 else (bif x7.2 then (bif (Dat.zQd false true (Dat.zQd true (Dat.ine x7.1 d0.2.2.1) false)) then some ((([] : List (List Int)),(([] : List (List Int)),([] : List (List TMf)))),(((Dat.xnil (α:=TMf) ),(0,())),2))
 else if (Dat.EqN (Dat.len d0.2.1.1) 0) then none
 else if (Dat.Le (Dat.addN 0 0) (Dat.len ([] : List TFr))) then if (Dat.EqN (Dat.len d0.2.1.1) 0) then Dat.bind (Dat.mapO (fun e15 =>
 some (e15.1,(e15.2.1,((Dat.zXx e15.2.2.1),((Dat.zXx e15.2.2.2.1),(e15.2.2.2.2.1,(e15.2.2.2.2.2.1,e15.2.2.2.2.2.2))))))) ([] : List TFr)) fun x16 =>
 Dat.loop (twB 0 (fun s17 =>
 if (Dat.Le (Dat.addN 0 0) (Dat.len s17.1)) then if (Dat.Le (Dat.addN 0 0) (Dat.len ([] : List TFr))) then if (Dat.EqN (Dat.len (Dat.seg s17.1 0 0)) 0) then if (Dat.In d0.2.2.1 0) then if (Dat.Lt (Dat.addN 0 (Dat.toN d0.2.2.1)) (Dat.len ([] : List TFr))) then Dat.bnd (Dat.get ([] : List TFr) (Dat.addN 0 (Dat.toN d0.2.2.1)) zFr) fun x57 =>
 if (Dat.MkOk d0.1.2.2.2.2.2.2.1 d0.1.2.2.2.2.2.2.1 8) then if (Dat.In d0.2.2.2.2 (Dat.toN d0.1.2.2.2.2.2.2.1)) then if (Dat.Lt (Dat.addN 0 (Dat.toN d0.2.2.2.2)) (Dat.len (Dat.rep (α:=Int) (Dat.toN d0.1.2.2.2.2.2.2.1) 0))) then Dat.bnd (Dat.set (Dat.rep (α:=Int) (Dat.toN d0.1.2.2.2.2.2.2.1) 0) (Dat.addN 0 (Dat.toN d0.2.2.2.2)) 1) fun x64 =>
 if (Dat.EqN 0 0) then if (Dat.EqN (Dat.toN d0.1.2.2.2.2.2.2.1) (Dat.len x64)) then Dat.bnd (Dat.app s17.2.2.1 (x64::([] : List (List Int)))) fun x69 =>
 if (Dat.In d0.2.2.1 0) then none
 else none
 else none
 else none
 else none
 else none
 else none
 else none
 else none
 else if (Dat.Big (Dat.len ([] : List TMf)) (Dat.len (Dat.seg s17.1 0 0)) 72) then none
 else Dat.bnd (Dat.app ([] : List TMf) (Dat.seg s17.1 0 0)) fun x74 =>
 if (Dat.In d0.2.2.1 (Dat.len x74)) then if (Dat.Lt (Dat.addN 0 (Dat.toN d0.2.2.1)) (Dat.len x74)) then Dat.bnd (Dat.get x74 (Dat.addN 0 (Dat.toN d0.2.2.1)) zMf) fun x79 =>
 if (Dat.MkOk d0.1.2.2.2.2.2.2.1 d0.1.2.2.2.2.2.2.1 8) then if (Dat.In d0.2.2.2.2 (Dat.toN d0.1.2.2.2.2.2.2.1)) then if (Dat.Lt (Dat.addN 0 (Dat.toN d0.2.2.2.2)) (Dat.len (Dat.rep (α:=Int) (Dat.toN d0.1.2.2.2.2.2.2.1) 0))) then Dat.bnd (Dat.set (Dat.rep (α:=Int) (Dat.toN d0.1.2.2.2.2.2.2.1) 0) (Dat.addN 0 (Dat.toN d0.2.2.2.2)) 1) fun x86 =>
 if (Dat.EqN 0 0) then if (Dat.EqN (Dat.toN d0.1.2.2.2.2.2.2.1) (Dat.len x86)) then Dat.bnd (Dat.app s17.2.2.1 (x86::([] : List (List Int)))) fun x91 =>
 if (Dat.In d0.2.2.1 (Dat.len x74)) then if (Dat.Lt (Dat.addN 0 (Dat.toN d0.2.2.1)) (Dat.len x74)) then Dat.bnd (Dat.set x74 (Dat.addN 0 (Dat.toN d0.2.2.1)) (1,(d0.2.2.2.1,((Dat.xnil (α:=Int) ),((Dat.xnew (α:=Int) (Dat.len s17.2.2.1) (Dat.toN d0.1.2.2.2.2.2.2.1)),(true,(false,()))))))) fun x96 =>
 if (Dat.EqN 0 0) then if (Dat.EqN (Dat.len x74) (Dat.len x96)) then some ((s17.2.1,(x91,(x96::([] : List (List TMf))))),(((Dat.xnew (α:=TMf) 0 (Dat.len x74)),(d0.2.1.2.1,())),0))
 else none
 else none
 else none
 else none
 else none
 else none
 else none
 else none
 else none
 else none
 else none
 else none
 else none)) (x16,(([] : List (List Int)),(([] : List (List Int)),0)))
 else if (Dat.Big (Dat.len (Dat.seg ([] : List TFr) 0 0)) (Dat.len d0.2.1.1) 72) then none
 else Dat.bnd (Dat.app (Dat.seg ([] : List TFr) 0 0) d0.2.1.1) fun x103 =>
 Dat.bind (Dat.mapO (fun e104 =>
 some (e104.1,(e104.2.1,((Dat.zXx e104.2.2.1),((Dat.zXx e104.2.2.2.1),(e104.2.2.2.2.1,(e104.2.2.2.2.2.1,e104.2.2.2.2.2.2))))))) x103) fun x105 =>
 Dat.loop (twB (Dat.len x103) (fun s106 =>
 if (Dat.Le (Dat.addN 0 (Dat.len x103)) (Dat.len s106.1)) then if (Dat.Le (Dat.addN 0 0) (Dat.len ([] : List TFr))) then if (Dat.EqN (Dat.len (Dat.seg s106.1 0 (Dat.len x103))) 0) then if (Dat.In d0.2.2.1 0) then if (Dat.Lt (Dat.addN 0 (Dat.toN d0.2.2.1)) (Dat.len ([] : List TFr))) then Dat.bnd (Dat.get ([] : List TFr) (Dat.addN 0 (Dat.toN d0.2.2.1)) zFr) fun x146 =>
 if (Dat.MkOk d0.1.2.2.2.2.2.2.1 d0.1.2.2.2.2.2.2.1 8) then if (Dat.In d0.2.2.2.2 (Dat.toN d0.1.2.2.2.2.2.2.1)) then if (Dat.Lt (Dat.addN 0 (Dat.toN d0.2.2.2.2)) (Dat.len (Dat.rep (α:=Int) (Dat.toN d0.1.2.2.2.2.2.2.1) 0))) then Dat.bnd (Dat.set (Dat.rep (α:=Int) (Dat.toN d0.1.2.2.2.2.2.2.1) 0) (Dat.addN 0 (Dat.toN d0.2.2.2.2)) 1) fun x153 =>
 if (Dat.EqN 0 0) then if (Dat.EqN (Dat.toN d0.1.2.2.2.2.2.2.1) (Dat.len x153)) then Dat.bnd (Dat.app s106.2.2.1 (x153::([] : List (List Int)))) fun x158 =>
 if (Dat.In d0.2.2.1 0) then none
 else none
 else none
 else none
 else none
 else none
 else none
 else none
 else none
 else if (Dat.Big (Dat.len ([] : List TMf)) (Dat.len (Dat.seg s106.1 0 (Dat.len x103))) 72) then none
 else Dat.bnd (Dat.app ([] : List TMf) (Dat.seg s106.1 0 (Dat.len x103))) fun x163 =>
 if (Dat.In d0.2.2.1 (Dat.len x163)) then if (Dat.Lt (Dat.addN 0 (Dat.toN d0.2.2.1)) (Dat.len x163)) then Dat.bnd (Dat.get x163 (Dat.addN 0 (Dat.toN d0.2.2.1)) zMf) fun x168 =>
 if (Dat.MkOk d0.1.2.2.2.2.2.2.1 d0.1.2.2.2.2.2.2.1 8) then if (Dat.In d0.2.2.2.2 (Dat.toN d0.1.2.2.2.2.2.2.1)) then if (Dat.Lt (Dat.addN 0 (Dat.toN d0.2.2.2.2)) (Dat.len (Dat.rep (α:=Int) (Dat.toN d0.1.2.2.2.2.2.2.1) 0))) then Dat.bnd (Dat.set (Dat.rep (α:=Int) (Dat.toN d0.1.2.2.2.2.2.2.1) 0) (Dat.addN 0 (Dat.toN d0.2.2.2.2)) 1) fun x175 =>
 if (Dat.EqN 0 0) then if (Dat.EqN (Dat.toN d0.1.2.2.2.2.2.2.1) (Dat.len x175)) then Dat.bnd (Dat.app s106.2.2.1 (x175::([] : List (List Int)))) fun x180 =>
 if (Dat.In d0.2.2.1 (Dat.len x163)) then if (Dat.Lt (Dat.addN 0 (Dat.toN d0.2.2.1)) (Dat.len x163)) then Dat.bnd (Dat.set x163 (Dat.addN 0 (Dat.toN d0.2.2.1)) (1,(d0.2.2.2.1,((Dat.xnil (α:=Int) ),((Dat.xnew (α:=Int) (Dat.len s106.2.2.1) (Dat.toN d0.1.2.2.2.2.2.2.1)),(true,(false,()))))))) fun x185 =>
 if (Dat.EqN 0 0) then if (Dat.EqN (Dat.len x163) (Dat.len x185)) then some ((s106.2.1,(x180,(x185::([] : List (List TMf))))),(((Dat.xnew (α:=TMf) 0 (Dat.len x163)),(d0.2.1.2.1,())),0))
 else none
 else none
 else none
 else none
 else none
 else none
 else none
 else none
 else none
 else none
 else none
 else none
 else none)) (x105,(([] : List (List Int)),(([] : List (List Int)),0)))
 else none)
 else if (Dat.EqN (Dat.len d0.2.1.1) 0) then none
 else if (Dat.Le (Dat.addN 0 0) (Dat.len ([] : List TFr))) then if (Dat.EqN (Dat.len d0.2.1.1) 0) then Dat.bind (Dat.mapO (fun e196 =>
 some (e196.1,(e196.2.1,((Dat.zXx e196.2.2.1),((Dat.zXx e196.2.2.2.1),(e196.2.2.2.2.1,(e196.2.2.2.2.2.1,e196.2.2.2.2.2.2))))))) ([] : List TFr)) fun x197 =>
 Dat.loop (twB 0 (fun s198 =>
 if (Dat.Le (Dat.addN 0 0) (Dat.len s198.1)) then if (Dat.Le (Dat.addN 0 0) (Dat.len ([] : List TFr))) then if (Dat.EqN (Dat.len (Dat.seg s198.1 0 0)) 0) then if (Dat.In d0.2.2.1 0) then if (Dat.Lt (Dat.addN 0 (Dat.toN d0.2.2.1)) (Dat.len ([] : List TFr))) then Dat.bnd (Dat.get ([] : List TFr) (Dat.addN 0 (Dat.toN d0.2.2.1)) zFr) fun x238 =>
 if (Dat.MkOk d0.1.2.2.2.2.2.2.1 d0.1.2.2.2.2.2.2.1 8) then if (Dat.In d0.2.2.2.2 (Dat.toN d0.1.2.2.2.2.2.2.1)) then if (Dat.Lt (Dat.addN 0 (Dat.toN d0.2.2.2.2)) (Dat.len (Dat.rep (α:=Int) (Dat.toN d0.1.2.2.2.2.2.2.1) 0))) then Dat.bnd (Dat.set (Dat.rep (α:=Int) (Dat.toN d0.1.2.2.2.2.2.2.1) 0) (Dat.addN 0 (Dat.toN d0.2.2.2.2)) 1) fun x245 =>
 if (Dat.EqN 0 0) then if (Dat.EqN (Dat.toN d0.1.2.2.2.2.2.2.1) (Dat.len x245)) then Dat.bnd (Dat.app s198.2.2.1 (x245::([] : List (List Int)))) fun x250 =>
 if (Dat.In d0.2.2.1 0) then none
 else none
 else none
 else none
 else none
 else none
 else none
 else none
 else none
 else if (Dat.Big (Dat.len ([] : List TMf)) (Dat.len (Dat.seg s198.1 0 0)) 72) then none
 else Dat.bnd (Dat.app ([] : List TMf) (Dat.seg s198.1 0 0)) fun x255 =>
 if (Dat.In d0.2.2.1 (Dat.len x255)) then if (Dat.Lt (Dat.addN 0 (Dat.toN d0.2.2.1)) (Dat.len x255)) then Dat.bnd (Dat.get x255 (Dat.addN 0 (Dat.toN d0.2.2.1)) zMf) fun x260 =>
 if (Dat.MkOk d0.1.2.2.2.2.2.2.1 d0.1.2.2.2.2.2.2.1 8) then if (Dat.In d0.2.2.2.2 (Dat.toN d0.1.2.2.2.2.2.2.1)) then if (Dat.Lt (Dat.addN 0 (Dat.toN d0.2.2.2.2)) (Dat.len (Dat.rep (α:=Int) (Dat.toN d0.1.2.2.2.2.2.2.1) 0))) then Dat.bnd (Dat.set (Dat.rep (α:=Int) (Dat.toN d0.1.2.2.2.2.2.2.1) 0) (Dat.addN 0 (Dat.toN d0.2.2.2.2)) 1) fun x267 =>
 if (Dat.EqN 0 0) then if (Dat.EqN (Dat.toN d0.1.2.2.2.2.2.2.1) (Dat.len x267)) then Dat.bnd (Dat.app s198.2.2.1 (x267::([] : List (List Int)))) fun x272 =>
 if (Dat.In d0.2.2.1 (Dat.len x255)) then if (Dat.Lt (Dat.addN 0 (Dat.toN d0.2.2.1)) (Dat.len x255)) then Dat.bnd (Dat.set x255 (Dat.addN 0 (Dat.toN d0.2.2.1)) (1,(d0.2.2.2.1,((Dat.xnil (α:=Int) ),((Dat.xnew (α:=Int) (Dat.len s198.2.2.1) (Dat.toN d0.1.2.2.2.2.2.2.1)),(true,(false,()))))))) fun x277 =>
 if (Dat.EqN 0 0) then if (Dat.EqN (Dat.len x255) (Dat.len x277)) then some ((s198.2.1,(x272,(x277::([] : List (List TMf))))),(((Dat.xnew (α:=TMf) 0 (Dat.len x255)),(d0.2.1.2.1,())),0))
 else none
 else none
 else none
 else none
 else none
 else none
 else none
 else none
 else none
 else none
 else none
 else none
 else none)) (x197,(([] : List (List Int)),(([] : List (List Int)),0)))
 else if (Dat.Big (Dat.len (Dat.seg ([] : List TFr) 0 0)) (Dat.len d0.2.1.1) 72) then none
 else Dat.bnd (Dat.app (Dat.seg ([] : List TFr) 0 0) d0.2.1.1) fun x284 =>
 Dat.bind (Dat.mapO (fun e285 =>
 some (e285.1,(e285.2.1,((Dat.zXx e285.2.2.1),((Dat.zXx e285.2.2.2.1),(e285.2.2.2.2.1,(e285.2.2.2.2.2.1,e285.2.2.2.2.2.2))))))) x284) fun x286 =>
 Dat.loop (twB (Dat.len x284) (fun s287 =>
 if (Dat.Le (Dat.addN 0 (Dat.len x284)) (Dat.len s287.1)) then if (Dat.Le (Dat.addN 0 0) (Dat.len ([] : List TFr))) then if (Dat.EqN (Dat.len (Dat.seg s287.1 0 (Dat.len x284))) 0) then if (Dat.In d0.2.2.1 0) then if (Dat.Lt (Dat.addN 0 (Dat.toN d0.2.2.1)) (Dat.len ([] : List TFr))) then Dat.bnd (Dat.get ([] : List TFr) (Dat.addN 0 (Dat.toN d0.2.2.1)) zFr) fun x327 =>
 if (Dat.MkOk d0.1.2.2.2.2.2.2.1 d0.1.2.2.2.2.2.2.1 8) then if (Dat.In d0.2.2.2.2 (Dat.toN d0.1.2.2.2.2.2.2.1)) then if (Dat.Lt (Dat.addN 0 (Dat.toN d0.2.2.2.2)) (Dat.len (Dat.rep (α:=Int) (Dat.toN d0.1.2.2.2.2.2.2.1) 0))) then Dat.bnd (Dat.set (Dat.rep (α:=Int) (Dat.toN d0.1.2.2.2.2.2.2.1) 0) (Dat.addN 0 (Dat.toN d0.2.2.2.2)) 1) fun x334 =>
 if (Dat.EqN 0 0) then if (Dat.EqN (Dat.toN d0.1.2.2.2.2.2.2.1) (Dat.len x334)) then Dat.bnd (Dat.app s287.2.2.1 (x334::([] : List (List Int)))) fun x339 =>
 if (Dat.In d0.2.2.1 0) then none
 else none
 else none
 else none
 else none
 else none
 else none
 else none
 else none
 else if (Dat.Big (Dat.len ([] : List TMf)) (Dat.len (Dat.seg s287.1 0 (Dat.len x284))) 72) then none
 else Dat.bnd (Dat.app ([] : List TMf) (Dat.seg s287.1 0 (Dat.len x284))) fun x344 =>
 if (Dat.In d0.2.2.1 (Dat.len x344)) then if (Dat.Lt (Dat.addN 0 (Dat.toN d0.2.2.1)) (Dat.len x344)) then Dat.bnd (Dat.get x344 (Dat.addN 0 (Dat.toN d0.2.2.1)) zMf) fun x349 =>
 if (Dat.MkOk d0.1.2.2.2.2.2.2.1 d0.1.2.2.2.2.2.2.1 8) then if (Dat.In d0.2.2.2.2 (Dat.toN d0.1.2.2.2.2.2.2.1)) then if (Dat.Lt (Dat.addN 0 (Dat.toN d0.2.2.2.2)) (Dat.len (Dat.rep (α:=Int) (Dat.toN d0.1.2.2.2.2.2.2.1) 0))) then Dat.bnd (Dat.set (Dat.rep (α:=Int) (Dat.toN d0.1.2.2.2.2.2.2.1) 0) (Dat.addN 0 (Dat.toN d0.2.2.2.2)) 1) fun x356 =>
 if (Dat.EqN 0 0) then if (Dat.EqN (Dat.toN d0.1.2.2.2.2.2.2.1) (Dat.len x356)) then Dat.bnd (Dat.app s287.2.2.1 (x356::([] : List (List Int)))) fun x361 =>
 if (Dat.In d0.2.2.1 (Dat.len x344)) then if (Dat.Lt (Dat.addN 0 (Dat.toN d0.2.2.1)) (Dat.len x344)) then Dat.bnd (Dat.set x344 (Dat.addN 0 (Dat.toN d0.2.2.1)) (1,(d0.2.2.2.1,((Dat.xnil (α:=Int) ),((Dat.xnew (α:=Int) (Dat.len s287.2.2.1) (Dat.toN d0.1.2.2.2.2.2.2.1)),(true,(false,()))))))) fun x366 =>
 if (Dat.EqN 0 0) then if (Dat.EqN (Dat.len x344) (Dat.len x366)) then some ((s287.2.1,(x361,(x366::([] : List (List TMf))))),(((Dat.xnew (α:=TMf) 0 (Dat.len x344)),(d0.2.1.2.1,())),0))
 else none
 else none
 else none
 else none
 else none
 else none
 else none
 else none
 else none
 else none
 else none
 else none
 else none)) (x286,(([] : List (List Int)),(([] : List (List Int)),0)))
 else none)))
 else none)))))
def wXr : List LSpec×List Nat:=([],[888888])
def wXq : List LSpec×List Nat:=([],[3])
def wXs : List LSpec×List Nat:=([{ id:=2700,known:=true,toks:=[(9000000,(.int .u8)),(9000000,(.int .i64)),(5500013,(.pair (.int .u8) (.pair (.int .i64) (.pair (.mix 900000002 (.int .u8)) (.pair (.mix 900000001 (.int .i64)) (.pair .bool (.pair .bool .unit)))))))],items:=[.vec 1000013 (.pair (.int .u8) (.pair (.int .i64) (.pair (.mix 900000002 (.int .u8)) (.pair (.mix 900000001 (.int .i64)) (.pair .bool (.pair .bool .unit)))))), .rows 900000002 (.int .u8), .rows 900000001 (.int .i64), .slot 15 (.val (.int .i64))],junk:=[16,17,18,19,5,4,20,21,22,23,24,25,26,27,28,29,30,31,32,33,34,35,36],tails:=[] }],[])
def wXt : List LSpec×List Nat:=([],[888888])
def vQ5 : Tab (List LSpec×List Nat):=(.node (.node (.node (.node (.node (.node (.node .leaf (some wXq) .leaf) none .leaf) none .leaf) none .leaf) none (.node .leaf none (.node .leaf (some wXs) .leaf))) none .leaf) none (.node .leaf none (.node (.node .leaf (some wXt) .leaf) none (.node .leaf none (.node (.node .leaf (some wXr) .leaf) none .leaf)))))
def vWb (f : Nat) : List LSpec×List Nat:=(vQ5.get f).getD ([],[])
noncomputable def yWs : RFn:={ args:=[(.pair (.int .i64) (.pair (.int .i64) (.pair (.int .i64) (.pair (.int .i64) (.pair (.int .i64) (.pair (.int .i64) (.pair (.int .i64) (.pair (.int .i64) (.pair (.int .i64) .unit))))))))),(.pair (.list (.pair (.int .u8) (.pair (.int .i64) (.pair (.list (.int .u8)) (.pair (.list (.int .i64)) (.pair .bool (.pair .bool .unit))))))) (.pair (.int .i64) .unit)),(.int .i64),(.int .i64),(.int .i64)],objs:=[(.int .u8),(.int .i64),(.pair (.int .u8) (.pair (.int .i64) (.pair (.mix 0 (.int .u8)) (.pair (.mix 1 (.int .i64)) (.pair .bool (.pair .bool .unit))))))],res:=[(.pair (.mix 2 (.pair (.int .u8) (.pair (.int .i64) (.pair (.mix 0 (.int .u8)) (.pair (.mix 1 (.int .i64)) (.pair .bool (.pair .bool .unit))))))) (.pair (.int .i64) .unit)),(.int .i64)],fn:=zJq }
theorem xQj : OwnR Try.prog cfg 10 yWs:=fnR vWb [] (l:=[(29,zXi),(42,zWw),(43,zZu),(12,yKz),(44,zKu),(48,zQ1),(64,zWb)]) (lo:=[(48,zQ2),(64,zWc)]) (lr:=[]) zW0 zQt (.cons zXm (.cons zW1 (.cons zKj (.cons xZi (.cons zYj (.cons zQ7 (.cons zWe .nil))))))) (.cons zQ8.1 (.cons zWf.1 .nil)) .nil (fun d=>by kernel_rfl)
noncomputable def zJr (d0 : TCf×(((List TFr)×(Int×Unit))×(Int×(List Int)))) : Option (((List (List Int))×((List (List Int))×(List (List TMf))))×(((MixE TMf)×(Int×Unit))×Int)) :=
 Dat.bind (zW9 ((pCf d0.1),(d0.2.1.1,(d0.2.1.2.1,())))) fun x1 =>
 (bif (Dat.ine x1 0) then some ((([] : List (List Int)),(([] : List (List Int)),([] : List (List TMf)))),(((Dat.xnil (α:=TMf) ),(0,())),x1))
 else Dat.bind (zWl ((d0.2.1.1,(d0.2.1.2.1,())),d0.2.2.1)) fun x2 =>
 (bif (Dat.bnot x2) then some ((([] : List (List Int)),(([] : List (List Int)),([] : List (List TMf)))),(((Dat.xnil (α:=TMf) ),(0,())),2))
 else if (Dat.Ix d0.2.2.1 (Dat.len d0.2.1.1)) then Dat.bnd (Dat.get d0.2.1.1 (Dat.toN d0.2.2.1) zFr) fun x5 =>
 (bif (Dat.zQd false true (Dat.ine x5.1 1)) then some ((([] : List (List Int)),(([] : List (List Int)),([] : List (List TMf)))),(((Dat.xnil (α:=TMf) ),(0,())),2))
 else (bif (Dat.zQd false true (Dat.ine (Dat.ofN (Dat.len d0.2.2.2)) d0.1.2.1)) then some ((([] : List (List Int)),(([] : List (List Int)),([] : List (List TMf)))),(((Dat.xnil (α:=TMf) ),(0,())),2))
 else if (Dat.EqN (Dat.len d0.2.1.1) 0) then none
 else if (Dat.Le (Dat.addN 0 0) (Dat.len ([] : List TFr))) then if (Dat.EqN (Dat.len d0.2.1.1) 0) then Dat.bind (Dat.mapO (fun e12 =>
 some (e12.1,(e12.2.1,((Dat.zXx e12.2.2.1),((Dat.zXx e12.2.2.2.1),(e12.2.2.2.2.1,(e12.2.2.2.2.2.1,e12.2.2.2.2.2.2))))))) ([] : List TFr)) fun x13 =>
 Dat.loop (twB 0 (fun s14 =>
 if (Dat.Le (Dat.addN 0 0) (Dat.len s14.1)) then if (Dat.Le (Dat.addN 0 0) (Dat.len ([] : List TFr))) then if (Dat.EqN (Dat.len (Dat.seg s14.1 0 0)) 0) then if (Dat.In d0.2.2.1 0) then if (Dat.Lt (Dat.addN 0 (Dat.toN d0.2.2.1)) (Dat.len ([] : List TFr))) then Dat.bnd (Dat.get ([] : List TFr) (Dat.addN 0 (Dat.toN d0.2.2.1)) zFr) fun x54 =>
 Dat.bind (zQk d0.2.2.2) fun x55 =>
 Dat.bnd (Dat.app s14.2.1 (x55::([] : List (List Int)))) fun x56 =>
 if (Dat.In d0.2.2.1 0) then none
 else none
 else none
 else none
 else if (Dat.Big (Dat.len ([] : List TMf)) (Dat.len (Dat.seg s14.1 0 0)) 72) then none
 else Dat.bnd (Dat.app ([] : List TMf) (Dat.seg s14.1 0 0)) fun x61 =>
 if (Dat.In d0.2.2.1 (Dat.len x61)) then if (Dat.Lt (Dat.addN 0 (Dat.toN d0.2.2.1)) (Dat.len x61)) then Dat.bnd (Dat.get x61 (Dat.addN 0 (Dat.toN d0.2.2.1)) zMf) fun x66 =>
 Dat.bind (zQk d0.2.2.2) fun x67 =>
 Dat.bnd (Dat.app s14.2.1 (x67::([] : List (List Int)))) fun x68 =>
 if (Dat.In d0.2.2.1 (Dat.len x61)) then if (Dat.Lt (Dat.addN 0 (Dat.toN d0.2.2.1)) (Dat.len x61)) then Dat.bnd (Dat.set x61 (Dat.addN 0 (Dat.toN d0.2.2.1)) (2,(x66.2.1,((Dat.xrow (Dat.len s14.2.1) x67),(x66.2.2.2.1,(x66.2.2.2.2.1,(x66.2.2.2.2.2.1,()))))))) fun x73 =>
 if (Dat.EqN 0 0) then if (Dat.EqN (Dat.len x61) (Dat.len x73)) then some ((x68,(s14.2.2.1,(x73::([] : List (List TMf))))),(((Dat.xnew (α:=TMf) 0 (Dat.len x61)),(d0.2.1.2.1,())),0))
 else none
 else none
 else none
 else none
 else none
 else none
 else none
 else none)) (x13,(([] : List (List Int)),(([] : List (List Int)),0)))
 else if (Dat.Big (Dat.len (Dat.seg ([] : List TFr) 0 0)) (Dat.len d0.2.1.1) 72) then none
 else Dat.bnd (Dat.app (Dat.seg ([] : List TFr) 0 0) d0.2.1.1) fun x80 =>
 Dat.bind (Dat.mapO (fun e81 =>
 some (e81.1,(e81.2.1,((Dat.zXx e81.2.2.1),((Dat.zXx e81.2.2.2.1),(e81.2.2.2.2.1,(e81.2.2.2.2.2.1,e81.2.2.2.2.2.2))))))) x80) fun x82 =>
 Dat.loop (twB (Dat.len x80) (fun s83 =>
 if (Dat.Le (Dat.addN 0 (Dat.len x80)) (Dat.len s83.1)) then if (Dat.Le (Dat.addN 0 0) (Dat.len ([] : List TFr))) then if (Dat.EqN (Dat.len (Dat.seg s83.1 0 (Dat.len x80))) 0) then if (Dat.In d0.2.2.1 0) then if (Dat.Lt (Dat.addN 0 (Dat.toN d0.2.2.1)) (Dat.len ([] : List TFr))) then Dat.bnd (Dat.get ([] : List TFr) (Dat.addN 0 (Dat.toN d0.2.2.1)) zFr) fun x123 =>
 Dat.bind (zQk d0.2.2.2) fun x124 =>
 Dat.bnd (Dat.app s83.2.1 (x124::([] : List (List Int)))) fun x125 =>
 if (Dat.In d0.2.2.1 0) then none
 else none
 else none
 else none
 else if (Dat.Big (Dat.len ([] : List TMf)) (Dat.len (Dat.seg s83.1 0 (Dat.len x80))) 72) then none
 else Dat.bnd (Dat.app ([] : List TMf) (Dat.seg s83.1 0 (Dat.len x80))) fun x130 =>
 if (Dat.In d0.2.2.1 (Dat.len x130)) then if (Dat.Lt (Dat.addN 0 (Dat.toN d0.2.2.1)) (Dat.len x130)) then Dat.bnd (Dat.get x130 (Dat.addN 0 (Dat.toN d0.2.2.1)) zMf) fun x135 =>
 Dat.bind (zQk d0.2.2.2) fun x136 =>
 Dat.bnd (Dat.app s83.2.1 (x136::([] : List (List Int)))) fun x137 =>
 if (Dat.In d0.2.2.1 (Dat.len x130)) then if (Dat.Lt (Dat.addN 0 (Dat.toN d0.2.2.1)) (Dat.len x130)) then Dat.bnd (Dat.set x130 (Dat.addN 0 (Dat.toN d0.2.2.1)) (2,(x135.2.1,((Dat.xrow (Dat.len s83.2.1) x136),(x135.2.2.2.1,(x135.2.2.2.2.1,(x135.2.2.2.2.2.1,()))))))) fun x142 =>
 if (Dat.EqN 0 0) then if (Dat.EqN (Dat.len x130) (Dat.len x142)) then some ((x137,(s83.2.2.1,(x142::([] : List (List TMf))))),(((Dat.xnew (α:=TMf) 0 (Dat.len x130)),(d0.2.1.2.1,())),0))
 else none
 else none
 else none
 else none
 else none
 else none
 else none
 else none)) (x82,(([] : List (List Int)),(([] : List (List Int)),0)))
 else none))
 else none))
def wXn : List LSpec×List Nat:=([],[888888])
def wXm : List LSpec×List Nat:=([],[3])
def wXo : List LSpec×List Nat:=([{ id:=2700,known:=true,toks:=[(9000000,(.int .u8)),(9000000,(.int .i64)),(5500013,(.pair (.int .u8) (.pair (.int .i64) (.pair (.mix 900000002 (.int .u8)) (.pair (.mix 900000001 (.int .i64)) (.pair .bool (.pair .bool .unit)))))))],items:=[.vec 1000013 (.pair (.int .u8) (.pair (.int .i64) (.pair (.mix 900000002 (.int .u8)) (.pair (.mix 900000001 (.int .i64)) (.pair .bool (.pair .bool .unit)))))), .rows 900000002 (.int .u8), .rows 900000001 (.int .i64), .slot 15 (.val (.int .i64))],junk:=[16,17,18,19,5,4,20,21,22,23,24,25,26,27,28,29,30,31,32,33,34,35,36],tails:=[] }],[])
def wXp : List LSpec×List Nat:=([],[888888])
def vQ4 : Tab (List LSpec×List Nat):=(.node (.node (.node (.node (.node (.node (.node .leaf (some wXm) .leaf) none .leaf) none .leaf) none .leaf) none (.node .leaf (some wXp) (.node .leaf (some wXo) .leaf))) none .leaf) none (.node .leaf none (.node .leaf none (.node .leaf none (.node (.node .leaf (some wXn) .leaf) none .leaf)))))
def vWa (f : Nat) : List LSpec×List Nat:=(vQ4.get f).getD ([],[])
noncomputable def yWt : RFn:={ args:=[(.pair (.int .i64) (.pair (.int .i64) (.pair (.int .i64) (.pair (.int .i64) (.pair (.int .i64) (.pair (.int .i64) (.pair (.int .i64) (.pair (.int .i64) (.pair (.int .i64) .unit))))))))),(.pair (.list (.pair (.int .u8) (.pair (.int .i64) (.pair (.list (.int .u8)) (.pair (.list (.int .i64)) (.pair .bool (.pair .bool .unit))))))) (.pair (.int .i64) .unit)),(.int .i64),(.list (.int .u8))],objs:=[(.int .u8),(.int .i64),(.pair (.int .u8) (.pair (.int .i64) (.pair (.mix 0 (.int .u8)) (.pair (.mix 1 (.int .i64)) (.pair .bool (.pair .bool .unit))))))],res:=[(.pair (.mix 2 (.pair (.int .u8) (.pair (.int .i64) (.pair (.mix 0 (.int .u8)) (.pair (.mix 1 (.int .i64)) (.pair .bool (.pair .bool .unit))))))) (.pair (.int .i64) .unit)),(.int .i64)],fn:=zJr }
theorem xQk : OwnR Try.prog cfg 11 yWt:=fnR vWa [] (l:=[(29,zXi),(42,zWw),(48,zQ1),(64,zWb)]) (lo:=[(48,zQ2),(64,zWc)]) (lr:=[]) zW0 zQt (.cons zXm (.cons zW1 (.cons zQ7 (.cons zWe .nil)))) (.cons zQ8.1 (.cons zWf.1 .nil)) .nil (fun d=>by kernel_rfl)
noncomputable def zK1 (d0 : TCf×(((List TFr)×(Int×Unit))×(Int×(List Int)))) : Option (((List (List Int))×((List (List Int))×(List (List TMf))))×(((MixE TMf)×(Int×Unit))×Int)) :=
 Dat.bind (zW9 ((pCf d0.1),(d0.2.1.1,(d0.2.1.2.1,())))) fun x1 =>
 (bif (Dat.ine x1 0) then some ((([] : List (List Int)),(([] : List (List Int)),([] : List (List TMf)))),(((Dat.xnil (α:=TMf) ),(0,())),x1))
 else Dat.bind (zWl ((d0.2.1.1,(d0.2.1.2.1,())),d0.2.2.1)) fun x2 =>
 (bif (Dat.bnot x2) then some ((([] : List (List Int)),(([] : List (List Int)),([] : List (List TMf)))),(((Dat.xnil (α:=TMf) ),(0,())),2))
 else if (Dat.Ix d0.2.2.1 (Dat.len d0.2.1.1)) then Dat.bnd (Dat.get d0.2.1.1 (Dat.toN d0.2.2.1) zFr) fun x5 =>
 (bif (Dat.zQd false true (Dat.ine x5.1 2)) then some ((([] : List (List Int)),(([] : List (List Int)),([] : List (List TMf)))),(((Dat.xnil (α:=TMf) ),(0,())),2))
 else (bif (Dat.zQd false true (Dat.ine (Dat.ofN (Dat.len d0.2.2.2)) d0.1.2.1)) then some ((([] : List (List Int)),(([] : List (List Int)),([] : List (List TMf)))),(((Dat.xnil (α:=TMf) ),(0,())),2))
 else if (Dat.EqN (Dat.len d0.2.1.1) 0) then none
 else if (Dat.Le (Dat.addN 0 0) (Dat.len ([] : List TFr))) then if (Dat.EqN (Dat.len d0.2.1.1) 0) then Dat.bind (Dat.mapO (fun e12 =>
 some (e12.1,(e12.2.1,((Dat.zXx e12.2.2.1),((Dat.zXx e12.2.2.2.1),(e12.2.2.2.2.1,(e12.2.2.2.2.2.1,e12.2.2.2.2.2.2))))))) ([] : List TFr)) fun x13 =>
 Dat.loop (twB 0 (fun s14 =>
 if (Dat.Le (Dat.addN 0 0) (Dat.len s14.1)) then if (Dat.Le (Dat.addN 0 0) (Dat.len ([] : List TFr))) then if (Dat.EqN (Dat.len (Dat.seg s14.1 0 0)) 0) then if (Dat.In d0.2.2.1 0) then if (Dat.Lt (Dat.addN 0 (Dat.toN d0.2.2.1)) (Dat.len ([] : List TFr))) then Dat.bnd (Dat.get ([] : List TFr) (Dat.addN 0 (Dat.toN d0.2.2.1)) zFr) fun x54 =>
 Dat.bind (zQk d0.2.2.2) fun x55 =>
 Dat.bnd (Dat.app s14.2.1 (x55::([] : List (List Int)))) fun x56 =>
 if (Dat.In d0.2.2.1 0) then none
 else none
 else none
 else none
 else if (Dat.Big (Dat.len ([] : List TMf)) (Dat.len (Dat.seg s14.1 0 0)) 72) then none
 else Dat.bnd (Dat.app ([] : List TMf) (Dat.seg s14.1 0 0)) fun x61 =>
 if (Dat.In d0.2.2.1 (Dat.len x61)) then if (Dat.Lt (Dat.addN 0 (Dat.toN d0.2.2.1)) (Dat.len x61)) then Dat.bnd (Dat.get x61 (Dat.addN 0 (Dat.toN d0.2.2.1)) zMf) fun x66 =>
 Dat.bind (zQk d0.2.2.2) fun x67 =>
 Dat.bnd (Dat.app s14.2.1 (x67::([] : List (List Int)))) fun x68 =>
 if (Dat.In d0.2.2.1 (Dat.len x61)) then if (Dat.Lt (Dat.addN 0 (Dat.toN d0.2.2.1)) (Dat.len x61)) then Dat.bnd (Dat.set x61 (Dat.addN 0 (Dat.toN d0.2.2.1)) (x66.1,(x66.2.1,((Dat.xrow (Dat.len s14.2.1) x67),(x66.2.2.2.1,(true,(true,()))))))) fun x73 =>
 if (Dat.EqN 0 0) then if (Dat.EqN (Dat.len x61) (Dat.len x73)) then some ((x68,(s14.2.2.1,(x73::([] : List (List TMf))))),(((Dat.xnew (α:=TMf) 0 (Dat.len x61)),(d0.2.1.2.1,())),0))
 else none
 else none
 else none
 else none
 else none
 else none
 else none
 else none)) (x13,(([] : List (List Int)),(([] : List (List Int)),0)))
 else if (Dat.Big (Dat.len (Dat.seg ([] : List TFr) 0 0)) (Dat.len d0.2.1.1) 72) then none
 else Dat.bnd (Dat.app (Dat.seg ([] : List TFr) 0 0) d0.2.1.1) fun x80 =>
 Dat.bind (Dat.mapO (fun e81 =>
 some (e81.1,(e81.2.1,((Dat.zXx e81.2.2.1),((Dat.zXx e81.2.2.2.1),(e81.2.2.2.2.1,(e81.2.2.2.2.2.1,e81.2.2.2.2.2.2))))))) x80) fun x82 =>
 Dat.loop (twB (Dat.len x80) (fun s83 =>
 if (Dat.Le (Dat.addN 0 (Dat.len x80)) (Dat.len s83.1)) then if (Dat.Le (Dat.addN 0 0) (Dat.len ([] : List TFr))) then if (Dat.EqN (Dat.len (Dat.seg s83.1 0 (Dat.len x80))) 0) then if (Dat.In d0.2.2.1 0) then if (Dat.Lt (Dat.addN 0 (Dat.toN d0.2.2.1)) (Dat.len ([] : List TFr))) then Dat.bnd (Dat.get ([] : List TFr) (Dat.addN 0 (Dat.toN d0.2.2.1)) zFr) fun x123 =>
 Dat.bind (zQk d0.2.2.2) fun x124 =>
 Dat.bnd (Dat.app s83.2.1 (x124::([] : List (List Int)))) fun x125 =>
 if (Dat.In d0.2.2.1 0) then none
 else none
 else none
 else none
 else if (Dat.Big (Dat.len ([] : List TMf)) (Dat.len (Dat.seg s83.1 0 (Dat.len x80))) 72) then none
 else Dat.bnd (Dat.app ([] : List TMf) (Dat.seg s83.1 0 (Dat.len x80))) fun x130 =>
 if (Dat.In d0.2.2.1 (Dat.len x130)) then if (Dat.Lt (Dat.addN 0 (Dat.toN d0.2.2.1)) (Dat.len x130)) then Dat.bnd (Dat.get x130 (Dat.addN 0 (Dat.toN d0.2.2.1)) zMf) fun x135 =>
 Dat.bind (zQk d0.2.2.2) fun x136 =>
 Dat.bnd (Dat.app s83.2.1 (x136::([] : List (List Int)))) fun x137 =>
 if (Dat.In d0.2.2.1 (Dat.len x130)) then if (Dat.Lt (Dat.addN 0 (Dat.toN d0.2.2.1)) (Dat.len x130)) then Dat.bnd (Dat.set x130 (Dat.addN 0 (Dat.toN d0.2.2.1)) (x135.1,(x135.2.1,((Dat.xrow (Dat.len s83.2.1) x136),(x135.2.2.2.1,(true,(true,()))))))) fun x142 =>
 if (Dat.EqN 0 0) then if (Dat.EqN (Dat.len x130) (Dat.len x142)) then some ((x137,(s83.2.2.1,(x142::([] : List (List TMf))))),(((Dat.xnew (α:=TMf) 0 (Dat.len x130)),(d0.2.1.2.1,())),0))
 else none
 else none
 else none
 else none
 else none
 else none
 else none
 else none)) (x82,(([] : List (List Int)),(([] : List (List Int)),0)))
 else none))
 else none))
def wXd : List LSpec×List Nat:=([],[888888])
def wXc : List LSpec×List Nat:=([],[3])
def wXe : List LSpec×List Nat:=([{ id:=2700,known:=true,toks:=[(9000000,(.int .u8)),(9000000,(.int .i64)),(5500013,(.pair (.int .u8) (.pair (.int .i64) (.pair (.mix 900000002 (.int .u8)) (.pair (.mix 900000001 (.int .i64)) (.pair .bool (.pair .bool .unit)))))))],items:=[.vec 1000013 (.pair (.int .u8) (.pair (.int .i64) (.pair (.mix 900000002 (.int .u8)) (.pair (.mix 900000001 (.int .i64)) (.pair .bool (.pair .bool .unit)))))), .rows 900000002 (.int .u8), .rows 900000001 (.int .i64), .slot 15 (.val (.int .i64))],junk:=[16,17,18,19,5,4,20,21,22,23,24,25,26,27,28,29,30,31,32,33,34,35,36],tails:=[] }],[])
def wXf : List LSpec×List Nat:=([],[888888])
def vQ1 : Tab (List LSpec×List Nat):=(.node (.node (.node (.node (.node (.node (.node .leaf (some wXc) .leaf) none .leaf) none .leaf) none .leaf) none (.node .leaf none (.node .leaf (some wXe) .leaf))) none .leaf) none (.node (.node (.node (.node .leaf (some wXf) .leaf) none .leaf) none .leaf) none (.node .leaf none (.node .leaf none (.node (.node .leaf (some wXd) .leaf) none .leaf)))))
def vQ7 (f : Nat) : List LSpec×List Nat:=(vQ1.get f).getD ([],[])
noncomputable def yQ7 : RFn:={ args:=[(.pair (.int .i64) (.pair (.int .i64) (.pair (.int .i64) (.pair (.int .i64) (.pair (.int .i64) (.pair (.int .i64) (.pair (.int .i64) (.pair (.int .i64) (.pair (.int .i64) .unit))))))))),(.pair (.list (.pair (.int .u8) (.pair (.int .i64) (.pair (.list (.int .u8)) (.pair (.list (.int .i64)) (.pair .bool (.pair .bool .unit))))))) (.pair (.int .i64) .unit)),(.int .i64),(.list (.int .u8))],objs:=[(.int .u8),(.int .i64),(.pair (.int .u8) (.pair (.int .i64) (.pair (.mix 0 (.int .u8)) (.pair (.mix 1 (.int .i64)) (.pair .bool (.pair .bool .unit))))))],res:=[(.pair (.mix 2 (.pair (.int .u8) (.pair (.int .i64) (.pair (.mix 0 (.int .u8)) (.pair (.mix 1 (.int .i64)) (.pair .bool (.pair .bool .unit))))))) (.pair (.int .i64) .unit)),(.int .i64)],fn:=zK1 }
theorem yJu : OwnR Try.prog cfg 16 yQ7:=fnR vQ7 [] (l:=[(29,zXi),(42,zWw),(48,zQ1),(64,zWb)]) (lo:=[(48,zQ2),(64,zWc)]) (lr:=[]) zW0 zQt (.cons zXm (.cons zW1 (.cons zQ7 (.cons zWe .nil)))) (.cons zQ8.1 (.cons zWf.1 .nil)) .nil (fun d=>by kernel_rfl)
noncomputable def zK3 (d0 : TCf×(((List TFr)×(Int×Unit))×Int)) : Option (((List (List Int))×((List (List Int))×(List (List TMf))))×(((MixE TMf)×(Int×Unit))×Int)) :=
 Dat.bind (zW9 ((pCf d0.1),(d0.2.1.1,(d0.2.1.2.1,())))) fun x1 =>
 (bif (Dat.ine x1 0) then some ((([] : List (List Int)),(([] : List (List Int)),([] : List (List TMf)))),(((Dat.xnil (α:=TMf) ),(0,())),x1))
 else Dat.bind (zWl ((d0.2.1.1,(d0.2.1.2.1,())),d0.2.2)) fun x2 =>
 (bif (Dat.bnot x2) then some ((([] : List (List Int)),(([] : List (List Int)),([] : List (List TMf)))),(((Dat.xnil (α:=TMf) ),(0,())),2))
 else if (Dat.Ix d0.2.2 (Dat.len d0.2.1.1)) then Dat.bnd (Dat.get d0.2.1.1 (Dat.toN d0.2.2) zFr) fun x5 =>
 (bif (Dat.zQd false true (Dat.bnot x5.2.2.2.2.2.1)) then some ((([] : List (List Int)),(([] : List (List Int)),([] : List (List TMf)))),(((Dat.xnil (α:=TMf) ),(0,())),2))
 else if (Dat.EqN (Dat.len d0.2.1.1) 0) then none
 else if (Dat.Le (Dat.addN 0 0) (Dat.len ([] : List TFr))) then if (Dat.EqN (Dat.len d0.2.1.1) 0) then Dat.bind (Dat.mapO (fun e12 =>
 some (e12.1,(e12.2.1,((Dat.zXx e12.2.2.1),((Dat.zXx e12.2.2.2.1),(e12.2.2.2.2.1,(e12.2.2.2.2.2.1,e12.2.2.2.2.2.2))))))) ([] : List TFr)) fun x13 =>
 Dat.loop (twB 0 (fun s14 =>
 if (Dat.Le (Dat.addN 0 0) (Dat.len s14.1)) then if (Dat.Le (Dat.addN 0 0) (Dat.len ([] : List TFr))) then if (Dat.EqN (Dat.len (Dat.seg s14.1 0 0)) 0) then if (Dat.In d0.2.2 0) then if (Dat.Lt (Dat.addN 0 (Dat.toN d0.2.2)) (Dat.len ([] : List TFr))) then Dat.bnd (Dat.get ([] : List TFr) (Dat.addN 0 (Dat.toN d0.2.2)) zFr) fun x54 =>
 if (Dat.In d0.2.2 0) then if (Dat.Lt (Dat.addN 0 (Dat.toN d0.2.2)) (Dat.len ([] : List TFr))) then Dat.bnd (Dat.set ([] : List TFr) (Dat.addN 0 (Dat.toN d0.2.2)) (x54.1,(x54.2.1,(x54.2.2.1,(x54.2.2.2.1,(x54.2.2.2.2.1,(false,()))))))) fun x59 =>
 if (Dat.EqN 0 0) then if (Dat.EqN 0 (Dat.len x59)) then none
 else none
 else none
 else none
 else none
 else none
 else none
 else if (Dat.Big (Dat.len ([] : List TMf)) (Dat.len (Dat.seg s14.1 0 0)) 72) then none
 else Dat.bnd (Dat.app ([] : List TMf) (Dat.seg s14.1 0 0)) fun x66 =>
 if (Dat.In d0.2.2 (Dat.len x66)) then if (Dat.Lt (Dat.addN 0 (Dat.toN d0.2.2)) (Dat.len x66)) then Dat.bnd (Dat.get x66 (Dat.addN 0 (Dat.toN d0.2.2)) zMf) fun x71 =>
 if (Dat.In d0.2.2 (Dat.len x66)) then if (Dat.Lt (Dat.addN 0 (Dat.toN d0.2.2)) (Dat.len x66)) then Dat.bnd (Dat.set x66 (Dat.addN 0 (Dat.toN d0.2.2)) (x71.1,(x71.2.1,(x71.2.2.1,(x71.2.2.2.1,(x71.2.2.2.2.1,(false,()))))))) fun x76 =>
 if (Dat.EqN 0 0) then if (Dat.EqN (Dat.len x66) (Dat.len x76)) then some ((s14.2.1,(s14.2.2.1,(x76::([] : List (List TMf))))),(((Dat.xnew (α:=TMf) 0 (Dat.len x66)),(d0.2.1.2.1,())),0))
 else none
 else none
 else none
 else none
 else none
 else none
 else none
 else none)) (x13,(([] : List (List Int)),(([] : List (List Int)),0)))
 else if (Dat.Big (Dat.len (Dat.seg ([] : List TFr) 0 0)) (Dat.len d0.2.1.1) 72) then none
 else Dat.bnd (Dat.app (Dat.seg ([] : List TFr) 0 0) d0.2.1.1) fun x83 =>
 Dat.bind (Dat.mapO (fun e84 =>
 some (e84.1,(e84.2.1,((Dat.zXx e84.2.2.1),((Dat.zXx e84.2.2.2.1),(e84.2.2.2.2.1,(e84.2.2.2.2.2.1,e84.2.2.2.2.2.2))))))) x83) fun x85 =>
 Dat.loop (twB (Dat.len x83) (fun s86 =>
 if (Dat.Le (Dat.addN 0 (Dat.len x83)) (Dat.len s86.1)) then if (Dat.Le (Dat.addN 0 0) (Dat.len ([] : List TFr))) then if (Dat.EqN (Dat.len (Dat.seg s86.1 0 (Dat.len x83))) 0) then if (Dat.In d0.2.2 0) then if (Dat.Lt (Dat.addN 0 (Dat.toN d0.2.2)) (Dat.len ([] : List TFr))) then Dat.bnd (Dat.get ([] : List TFr) (Dat.addN 0 (Dat.toN d0.2.2)) zFr) fun x126 =>
 if (Dat.In d0.2.2 0) then if (Dat.Lt (Dat.addN 0 (Dat.toN d0.2.2)) (Dat.len ([] : List TFr))) then Dat.bnd (Dat.set ([] : List TFr) (Dat.addN 0 (Dat.toN d0.2.2)) (x126.1,(x126.2.1,(x126.2.2.1,(x126.2.2.2.1,(x126.2.2.2.2.1,(false,()))))))) fun x131 =>
 if (Dat.EqN 0 0) then if (Dat.EqN 0 (Dat.len x131)) then none
 else none
 else none
 else none
 else none
 else none
 else none
 else if (Dat.Big (Dat.len ([] : List TMf)) (Dat.len (Dat.seg s86.1 0 (Dat.len x83))) 72) then none
 else Dat.bnd (Dat.app ([] : List TMf) (Dat.seg s86.1 0 (Dat.len x83))) fun x138 =>
 if (Dat.In d0.2.2 (Dat.len x138)) then if (Dat.Lt (Dat.addN 0 (Dat.toN d0.2.2)) (Dat.len x138)) then Dat.bnd (Dat.get x138 (Dat.addN 0 (Dat.toN d0.2.2)) zMf) fun x143 =>
 if (Dat.In d0.2.2 (Dat.len x138)) then if (Dat.Lt (Dat.addN 0 (Dat.toN d0.2.2)) (Dat.len x138)) then Dat.bnd (Dat.set x138 (Dat.addN 0 (Dat.toN d0.2.2)) (x143.1,(x143.2.1,(x143.2.2.1,(x143.2.2.2.1,(x143.2.2.2.2.1,(false,()))))))) fun x148 =>
 if (Dat.EqN 0 0) then if (Dat.EqN (Dat.len x138) (Dat.len x148)) then some ((s86.2.1,(s86.2.2.1,(x148::([] : List (List TMf))))),(((Dat.xnew (α:=TMf) 0 (Dat.len x138)),(d0.2.1.2.1,())),0))
 else none
 else none
 else none
 else none
 else none
 else none
 else none
 else none)) (x85,(([] : List (List Int)),(([] : List (List Int)),0)))
 else none)
 else none))
def wW9 : List LSpec×List Nat:=([],[888888])
def wW8 : List LSpec×List Nat:=([],[3])
def wXa : List LSpec×List Nat:=([{ id:=2700,known:=true,toks:=[(9000000,(.int .u8)),(9000000,(.int .i64)),(5500013,(.pair (.int .u8) (.pair (.int .i64) (.pair (.mix 900000002 (.int .u8)) (.pair (.mix 900000001 (.int .i64)) (.pair .bool (.pair .bool .unit)))))))],items:=[.vec 1000013 (.pair (.int .u8) (.pair (.int .i64) (.pair (.mix 900000002 (.int .u8)) (.pair (.mix 900000001 (.int .i64)) (.pair .bool (.pair .bool .unit)))))), .rows 900000002 (.int .u8), .rows 900000001 (.int .i64), .slot 15 (.val (.int .i64))],junk:=[16,17,18,19,5,4,20,21,22,23,24,25,26,27,28,29,30,31,32,33,34,35,36],tails:=[] }],[])
def wXb : List LSpec×List Nat:=([],[888888])
def vQ0 : Tab (List LSpec×List Nat):=(.node (.node (.node (.node (.node (.node (.node .leaf (some wW8) .leaf) none .leaf) none .leaf) none .leaf) none (.node .leaf none (.node .leaf (some wXa) .leaf))) none (.node (.node (.node .leaf (some wXb) .leaf) none .leaf) none .leaf)) none (.node .leaf none (.node .leaf none (.node .leaf none (.node (.node .leaf (some wW9) .leaf) none .leaf)))))
def vQ6 (f : Nat) : List LSpec×List Nat:=(vQ0.get f).getD ([],[])
noncomputable def yQ9 : RFn:={ args:=[(.pair (.int .i64) (.pair (.int .i64) (.pair (.int .i64) (.pair (.int .i64) (.pair (.int .i64) (.pair (.int .i64) (.pair (.int .i64) (.pair (.int .i64) (.pair (.int .i64) .unit))))))))),(.pair (.list (.pair (.int .u8) (.pair (.int .i64) (.pair (.list (.int .u8)) (.pair (.list (.int .i64)) (.pair .bool (.pair .bool .unit))))))) (.pair (.int .i64) .unit)),(.int .i64)],objs:=[(.int .u8),(.int .i64),(.pair (.int .u8) (.pair (.int .i64) (.pair (.mix 0 (.int .u8)) (.pair (.mix 1 (.int .i64)) (.pair .bool (.pair .bool .unit))))))],res:=[(.pair (.mix 2 (.pair (.int .u8) (.pair (.int .i64) (.pair (.mix 0 (.int .u8)) (.pair (.mix 1 (.int .i64)) (.pair .bool (.pair .bool .unit))))))) (.pair (.int .i64) .unit)),(.int .i64)],fn:=zK3 }
theorem yJw : OwnR Try.prog cfg 17 yQ9:=fnR vQ6 [] (l:=[(29,zXi),(42,zWw),(48,zQ1),(64,zWb)]) (lo:=[(48,zQ2),(64,zWc)]) (lr:=[]) zW0 zQt (.cons zXm (.cons zW1 (.cons zQ7 (.cons zWe .nil)))) (.cons zQ8.1 (.cons zWf.1 .nil)) .nil (fun d=>by kernel_rfl)
noncomputable def yKm (d0 : ((List TFr)×(Int×Unit))×Int) : Option Int :=
 Dat.loop (fun (s1 : Int) k2 =>
 (bif (Dat.ilt s1 (Dat.ofN (Dat.len d0.1.1))) then if (Dat.Ix s1 (Dat.len d0.1.1)) then Dat.bnd (Dat.get d0.1.1 (Dat.toN s1) zFr) fun x5 =>
 (bif (Dat.ine x5.1 0) then if (Dat.Ix s1 (Dat.len d0.1.1)) then Dat.bnd (Dat.get d0.1.1 (Dat.toN s1) zFr) fun x8 =>
 (bif (Dat.zQd true (Dat.ieq x8.2.1 d0.2) false) then some s1
 else Dat.bnd (Dat.wrap .i64 (Dat.add s1 1)) fun x9 =>
 k2 x9)
 else none
 else Dat.bnd (Dat.wrap .i64 (Dat.add s1 1)) fun x10 =>
 k2 x10)
 else none
 else some (-1))) 0
noncomputable def xKi : PFn:={ args:=[(.pair (.list (.pair (.int .u8) (.pair (.int .i64) (.pair (.list (.int .u8)) (.pair (.list (.int .i64)) (.pair .bool (.pair .bool .unit))))))) (.pair (.int .i64) .unit)),(.int .i64)],res:=[(.int .i64)],fn:=yKm }
def uQj : List LSpec×List Nat:=([{ id:=5800,known:=true,toks:=[],items:=[.slot 5 (.val (.int .i64))],junk:=[6,7,8,9,10,13,14,15,16,17,18,19,20,21,22,23,24,25,26,27,28,29,30,4,11,12],tails:=[] }],[])
def spt58 : Tab (List LSpec×List Nat):=(.node .leaf none (.node .leaf none (.node (.node .leaf none (.node .leaf none (.node .leaf (some uQj) .leaf))) none .leaf)))
def spf58 (f : Nat) : List LSpec×List Nat:=(spt58.get f).getD ([],[])
theorem wXy : zWp Try.prog cfg 58 xKi:=fnD spf58 (l:=[]) zW0 zQt .nil (fun d=>by kernel_rfl)
noncomputable def zY5 (d0 : TCf) : Option TFr :=
 if (Dat.MkOk d0.2.2.2.2.2.2.1 d0.2.2.2.2.2.2.1 8) then if (Dat.Le (Dat.addN 0 (Dat.toN d0.2.2.2.2.2.2.1)) (Dat.len (Dat.rep (α:=Int) (Dat.toN d0.2.2.2.2.2.2.1) 0))) then some (0,(0,(([] : List Int),((Dat.seg (Dat.rep (α:=Int) (Dat.toN d0.2.2.2.2.2.2.1) 0) 0 (Dat.toN d0.2.2.2.2.2.2.1)),(false,(false,()))))))
 else none
 else none
noncomputable def yYt : PFn:={ args:=[(.pair (.int .i64) (.pair (.int .i64) (.pair (.int .i64) (.pair (.int .i64) (.pair (.int .i64) (.pair (.int .i64) (.pair (.int .i64) (.pair (.int .i64) (.pair (.int .i64) .unit)))))))))],res:=[(.pair (.int .u8) (.pair (.int .i64) (.pair (.list (.int .u8)) (.pair (.list (.int .i64)) (.pair .bool (.pair .bool .unit))))))],fn:=zY5 }
noncomputable def yW5 : OFn:={ args:=[(.pair (.int .i64) (.pair (.int .i64) (.pair (.int .i64) (.pair (.int .i64) (.pair (.int .i64) (.pair (.int .i64) (.pair (.int .i64) (.pair (.int .i64) (.pair (.int .i64) .unit)))))))))],ores:=[(.pair (.plain (.int .u8)) (.pair (.plain (.int .i64)) (.pair (.own (.int .u8)) (.pair (.own (.int .i64)) (.pair (.plain .bool) (.pair (.plain .bool) (.plain .unit)))))))],fn:=zY5 }
theorem yK4 : OwnD Try.prog cfg 85 yW5∧zWp Try.prog cfg 85 yW5.pfn:=fnO sp0 [] (l:=[]) (lo:=[]) zW0 zQt .nil .nil (fun d=>by kernel_rfl)
theorem xJo : zWp Try.prog cfg 85 yYt:=yK4.2
noncomputable def zKb (d0 : TCf×(Int×Int)) : Option TFr :=
 Dat.bind (zY5 (pCf d0.1)) fun x1 =>
 if (Dat.EqN (Dat.len x1.2.2.1) 0) then if (Dat.EqN (Dat.len x1.2.2.2.1) 0) then if (Dat.Ix d0.2.2 (Dat.len x1.2.2.2.1)) then Dat.bnd (Dat.get x1.2.2.2.1 (Dat.toN d0.2.2) 0) fun x8 =>
 none
 else none
 else if (Dat.In d0.2.2 (Dat.len x1.2.2.2.1)) then if (Dat.Lt (Dat.addN 0 (Dat.toN d0.2.2)) (Dat.len x1.2.2.2.1)) then Dat.bnd (Dat.set x1.2.2.2.1 (Dat.addN 0 (Dat.toN d0.2.2)) 1) fun x13 =>
 if (Dat.Le (Dat.addN 0 (Dat.len x1.2.2.2.1)) (Dat.len x13)) then some (1,(d0.2.1,(x1.2.2.1,((Dat.seg x13 0 (Dat.len x1.2.2.2.1)),(true,(x1.2.2.2.2.2.1,()))))))
 else none
 else none
 else none
 else if (Dat.EqN (Dat.len x1.2.2.2.1) 0) then if (Dat.Ix d0.2.2 (Dat.len x1.2.2.2.1)) then Dat.bnd (Dat.get x1.2.2.2.1 (Dat.toN d0.2.2) 0) fun x20 =>
 none
 else none
 else if (Dat.In d0.2.2 (Dat.len x1.2.2.2.1)) then if (Dat.Lt (Dat.addN 0 (Dat.toN d0.2.2)) (Dat.len x1.2.2.2.1)) then Dat.bnd (Dat.set x1.2.2.2.1 (Dat.addN 0 (Dat.toN d0.2.2)) 1) fun x25 =>
 if (Dat.Le (Dat.addN 0 (Dat.len x1.2.2.1)) (Dat.len x1.2.2.1)) then if (Dat.Le (Dat.addN 0 (Dat.len x1.2.2.2.1)) (Dat.len x25)) then some (1,(d0.2.1,((Dat.seg x1.2.2.1 0 (Dat.len x1.2.2.1)),((Dat.seg x25 0 (Dat.len x1.2.2.2.1)),(true,(x1.2.2.2.2.2.1,()))))))
 else none
 else none
 else none
 else none
noncomputable def yZk : PFn:={ args:=[(.pair (.int .i64) (.pair (.int .i64) (.pair (.int .i64) (.pair (.int .i64) (.pair (.int .i64) (.pair (.int .i64) (.pair (.int .i64) (.pair (.int .i64) (.pair (.int .i64) .unit))))))))),(.int .i64),(.int .i64)],res:=[(.pair (.int .u8) (.pair (.int .i64) (.pair (.list (.int .u8)) (.pair (.list (.int .i64)) (.pair .bool (.pair .bool .unit))))))],fn:=zKb }
theorem xWt : zWp Try.prog cfg 74 yZk:=fnDa sp0 [] (l:=[(85,yYt)]) (lo:=[(85,yW5)]) zW0 zQt (.cons xJo .nil) (.cons yK4.1 .nil) (fun d=>by kernel_rfl)
noncomputable def yXs (d0 : TCf×(((List TFr)×(Int×Unit))×(Int×(Int×Int)))) : Option (((List TFr)×(Int×Unit))×Int) :=
 Dat.bind (zJ0 ((pCf d0.1),(d0.2.1.1,(d0.2.1.2.1,())))) fun x1 =>
 (bif (Dat.ine x1 0) then some ((([] : List TFr),(0,())),8)
 else (bif (Dat.ilt d0.2.2.1 0) then some ((([] : List TFr),(0,())),2)
 else (bif (Dat.zQd false true (Dat.ige d0.2.2.1 (Dat.ofN (Dat.len d0.2.1.1)))) then some ((([] : List TFr),(0,())),2)
 else if (Dat.Ix d0.2.2.1 (Dat.len d0.2.1.1)) then Dat.bnd (Dat.get d0.2.1.1 (Dat.toN d0.2.2.1) zFr) fun x4 =>
 (bif (Dat.zQd false true (Dat.ieq x4.1 1)) then some ((([] : List TFr),(0,())),2)
 else if (Dat.Ix d0.2.2.1 (Dat.len d0.2.1.1)) then Dat.bnd (Dat.get d0.2.1.1 (Dat.toN d0.2.2.1) zFr) fun x7 =>
 Dat.bind (zZm (x7.1,(x7.2.1,(x7.2.2.1,(x7.2.2.2.1,(x7.2.2.2.2.1,(x7.2.2.2.2.2.1,()))))))) fun x8 =>
 (bif (Dat.zQd false true x8) then some ((([] : List TFr),(0,())),2)
 else (bif (Dat.zQd false true (Dat.ilt d0.2.2.2.1 0)) then some ((([] : List TFr),(0,())),2)
 else (bif (Dat.zQd false true (Dat.ige d0.2.2.2.1 d0.1.1)) then some ((([] : List TFr),(0,())),2)
 else (bif (Dat.zQd false true (Dat.ilt d0.2.2.2.2 0)) then some ((([] : List TFr),(0,())),2)
 else (bif (Dat.zQd false true (Dat.ige d0.2.2.2.2 d0.1.2.2.2.2.2.2.1)) then some ((([] : List TFr),(0,())),2)
 else Dat.bind (yKm ((d0.2.1.1,(d0.2.1.2.1,())),d0.2.2.2.1)) fun x9 =>
 (bif (Dat.ige x9 0) then Dat.bind (yKm ((d0.2.1.1,(d0.2.1.2.1,())),d0.2.2.2.1)) fun x10 =>
 (bif (Dat.zQd true (Dat.ine x10 d0.2.2.1) false) then some ((([] : List TFr),(0,())),2)
 else Dat.bind (zKb ((pCf d0.1),(d0.2.2.2.1,d0.2.2.2.2))) fun x11 =>
 Dat.bind (zXb ((d0.2.1.1,(d0.2.1.2.1,())),(d0.2.2.1,(x11.1,(x11.2.1,(x11.2.2.1,(x11.2.2.2.1,(x11.2.2.2.2.1,(x11.2.2.2.2.2.1,()))))))))) fun x12 =>
 some ((x12.1,(x12.2.1,())),0))
 else Dat.bind (zKb ((pCf d0.1),(d0.2.2.2.1,d0.2.2.2.2))) fun x13 =>
 Dat.bind (zXb ((d0.2.1.1,(d0.2.1.2.1,())),(d0.2.2.1,(x13.1,(x13.2.1,(x13.2.2.1,(x13.2.2.2.1,(x13.2.2.2.2.1,(x13.2.2.2.2.2.1,()))))))))) fun x14 =>
 some ((x14.1,(x14.2.1,())),0)))))))
 else none)
 else none)))
noncomputable def yYu : PFn:={ args:=[(.pair (.int .i64) (.pair (.int .i64) (.pair (.int .i64) (.pair (.int .i64) (.pair (.int .i64) (.pair (.int .i64) (.pair (.int .i64) (.pair (.int .i64) (.pair (.int .i64) .unit))))))))),(.pair (.list (.pair (.int .u8) (.pair (.int .i64) (.pair (.list (.int .u8)) (.pair (.list (.int .i64)) (.pair .bool (.pair .bool .unit))))))) (.pair (.int .i64) .unit)),(.int .i64),(.int .i64),(.int .i64)],res:=[(.pair (.list (.pair (.int .u8) (.pair (.int .i64) (.pair (.list (.int .u8)) (.pair (.list (.int .i64)) (.pair .bool (.pair .bool .unit))))))) (.pair (.int .i64) .unit)),(.int .i64)],fn:=yXs }
theorem xJp : zWp Try.prog cfg 34 yYu:=fnD sp0 (l:=[(30,yQp),(72,zYt),(58,xKi),(74,yZk),(73,zKc)]) zW0 zQt (.cons yZj (.cons yWu (.cons wXy (.cons xWt (.cons zKh .nil))))) (fun d=>by kernel_rfl)
noncomputable def yXt (d0 : TCf×(((List TFr)×(Int×Unit))×(Int×(List Int)))) : Option (((List TFr)×(Int×Unit))×Int) :=
 Dat.bind (zZk ((pCf d0.1),((d0.2.1.1,(d0.2.1.2.1,())),(d0.2.2.1,0)))) fun x1 =>
 (bif (Dat.ine x1 0) then some ((([] : List TFr),(0,())),x1)
 else if (Dat.Ix d0.2.2.1 (Dat.len d0.2.1.1)) then Dat.bnd (Dat.get d0.2.1.1 (Dat.toN d0.2.2.1) zFr) fun x4 =>
 (bif (Dat.ine x4.1 1) then some ((([] : List TFr),(0,())),2)
 else (bif (Dat.zQd false true (Dat.ine (Dat.ofN (Dat.len d0.2.2.2)) d0.1.2.1)) then some ((([] : List TFr),(0,())),2)
 else Dat.bind (zXb ((d0.2.1.1,(d0.2.1.2.1,())),(d0.2.2.1,(2,(x4.2.1,(d0.2.2.2,(x4.2.2.2.1,(x4.2.2.2.2.1,(x4.2.2.2.2.2.1,()))))))))) fun x5 =>
 some ((x5.1,(x5.2.1,())),0)))
 else none)
noncomputable def yYv : PFn:={ args:=[(.pair (.int .i64) (.pair (.int .i64) (.pair (.int .i64) (.pair (.int .i64) (.pair (.int .i64) (.pair (.int .i64) (.pair (.int .i64) (.pair (.int .i64) (.pair (.int .i64) .unit))))))))),(.pair (.list (.pair (.int .u8) (.pair (.int .i64) (.pair (.list (.int .u8)) (.pair (.list (.int .i64)) (.pair .bool (.pair .bool .unit))))))) (.pair (.int .i64) .unit)),(.int .i64),(.list (.int .u8))],res:=[(.pair (.list (.pair (.int .u8) (.pair (.int .i64) (.pair (.list (.int .u8)) (.pair (.list (.int .i64)) (.pair .bool (.pair .bool .unit))))))) (.pair (.int .i64) .unit)),(.int .i64)],fn:=yXt }
theorem xJq : zWp Try.prog cfg 35 yYv:=fnD sp0 (l:=[(75,zZs),(73,zKc)]) zW0 zQt (.cons zZ0 (.cons zKh .nil)) (fun d=>by kernel_rfl)
noncomputable def yQj (d0 : TCf×(((List TFr)×(Int×Unit))×(Int×(List Int)))) : Option (((List TFr)×(Int×Unit))×Int) :=
 Dat.bind (zZk ((pCf d0.1),((d0.2.1.1,(d0.2.1.2.1,())),(d0.2.2.1,0)))) fun x1 =>
 (bif (Dat.ine x1 0) then some ((([] : List TFr),(0,())),x1)
 else if (Dat.Ix d0.2.2.1 (Dat.len d0.2.1.1)) then Dat.bnd (Dat.get d0.2.1.1 (Dat.toN d0.2.2.1) zFr) fun x4 =>
 (bif (Dat.ine x4.1 2) then some ((([] : List TFr),(0,())),2)
 else (bif (Dat.zQd false true (Dat.ine (Dat.ofN (Dat.len d0.2.2.2)) d0.1.2.1)) then some ((([] : List TFr),(0,())),2)
 else Dat.bind (zXb ((d0.2.1.1,(d0.2.1.2.1,())),(d0.2.2.1,(x4.1,(x4.2.1,(d0.2.2.2,(x4.2.2.2.1,(true,(true,()))))))))) fun x5 =>
 some ((x5.1,(x5.2.1,())),0)))
 else none)
noncomputable def yKv : PFn:={ args:=[(.pair (.int .i64) (.pair (.int .i64) (.pair (.int .i64) (.pair (.int .i64) (.pair (.int .i64) (.pair (.int .i64) (.pair (.int .i64) (.pair (.int .i64) (.pair (.int .i64) .unit))))))))),(.pair (.list (.pair (.int .u8) (.pair (.int .i64) (.pair (.list (.int .u8)) (.pair (.list (.int .i64)) (.pair .bool (.pair .bool .unit))))))) (.pair (.int .i64) .unit)),(.int .i64),(.list (.int .u8))],res:=[(.pair (.list (.pair (.int .u8) (.pair (.int .i64) (.pair (.list (.int .u8)) (.pair (.list (.int .i64)) (.pair .bool (.pair .bool .unit))))))) (.pair (.int .i64) .unit)),(.int .i64)],fn:=yQj }
theorem xZe : zWp Try.prog cfg 36 yKv:=fnD sp0 (l:=[(75,zZs),(73,zKc)]) zW0 zQt (.cons zZ0 (.cons zKh .nil)) (fun d=>by kernel_rfl)
noncomputable def yQm (d0 : TCf×(((List TFr)×(Int×Unit))×Int)) : Option (((List TFr)×(Int×Unit))×Int) :=
 Dat.bind (zZk ((pCf d0.1),((d0.2.1.1,(d0.2.1.2.1,())),(d0.2.2,0)))) fun x1 =>
 (bif (Dat.ine x1 0) then some ((([] : List TFr),(0,())),x1)
 else if (Dat.Ix d0.2.2 (Dat.len d0.2.1.1)) then Dat.bnd (Dat.get d0.2.1.1 (Dat.toN d0.2.2) zFr) fun x4 =>
 (bif (Dat.bnot x4.2.2.2.2.2.1) then some ((([] : List TFr),(0,())),2)
 else Dat.bind (zXb ((d0.2.1.1,(d0.2.1.2.1,())),(d0.2.2,(x4.1,(x4.2.1,(x4.2.2.1,(x4.2.2.2.1,(x4.2.2.2.2.1,(false,()))))))))) fun x5 =>
 some ((x5.1,(x5.2.1,())),0))
 else none)
noncomputable def yKy : PFn:={ args:=[(.pair (.int .i64) (.pair (.int .i64) (.pair (.int .i64) (.pair (.int .i64) (.pair (.int .i64) (.pair (.int .i64) (.pair (.int .i64) (.pair (.int .i64) (.pair (.int .i64) .unit))))))))),(.pair (.list (.pair (.int .u8) (.pair (.int .i64) (.pair (.list (.int .u8)) (.pair (.list (.int .i64)) (.pair .bool (.pair .bool .unit))))))) (.pair (.int .i64) .unit)),(.int .i64)],res:=[(.pair (.list (.pair (.int .u8) (.pair (.int .i64) (.pair (.list (.int .u8)) (.pair (.list (.int .i64)) (.pair .bool (.pair .bool .unit))))))) (.pair (.int .i64) .unit)),(.int .i64)],fn:=yQm }
theorem xZh : zWp Try.prog cfg 37 yKy:=fnD sp0 (l:=[(75,zZs),(73,zKc)]) zW0 zQt (.cons zZ0 (.cons zKh .nil)) (fun d=>by kernel_rfl)
noncomputable def yQl (d0 : (List TFr)×(Int×Unit)) : Option Bool :=
 Dat.loop (fun (s1 : Int) k2 =>
 (bif (Dat.ilt s1 (Dat.ofN (Dat.len d0.1))) then (bif (Dat.zQd true (Dat.ilt s1 20) false) then if (Dat.Ix s1 (Dat.len d0.1)) then Dat.bnd (Dat.get d0.1 (Dat.toN s1) zFr) fun x5 =>
 (bif (Dat.igt (Dat.ofN (Dat.len x5.2.2.1)) 100) then some true
 else if (Dat.Ix s1 (Dat.len d0.1)) then Dat.bnd (Dat.get d0.1 (Dat.toN s1) zFr) fun x8 =>
 (bif (Dat.zQd false true (Dat.igt (Dat.ofN (Dat.len x8.2.2.2.1)) 20)) then some true
 else Dat.bnd (Dat.wrap .i64 (Dat.add s1 1)) fun x9 =>
 k2 x9)
 else none)
 else none
 else some (Dat.igt (Dat.ofN (Dat.len d0.1)) 20))
 else some (Dat.igt (Dat.ofN (Dat.len d0.1)) 20))) 0
noncomputable def yKx : PFn:={ args:=[(.pair (.list (.pair (.int .u8) (.pair (.int .i64) (.pair (.list (.int .u8)) (.pair (.list (.int .i64)) (.pair .bool (.pair .bool .unit))))))) (.pair (.int .i64) .unit))],res:=[.bool],fn:=yQl }
def uQu : List LSpec×List Nat:=([{ id:=2100,known:=true,toks:=[],items:=[.slot 3 (.val (.int .i64))],junk:=[4,5,6,7,8,9,10,11,12,15,16,17,18,19,20,21,22,23,24,25,26,27,28,29,30,31,32,2,13,14],tails:=[] }],[])
def spt21 : Tab (List LSpec×List Nat):=(.node (.node .leaf none (.node .leaf none (.node (.node .leaf (some uQu) .leaf) none .leaf))) none .leaf)
def spf21 (f : Nat) : List LSpec×List Nat:=(spt21.get f).getD ([],[])
theorem xZg : zWp Try.prog cfg 21 yKx:=fnD spf21 (l:=[]) zW0 zQt .nil (fun d=>by kernel_rfl)
noncomputable def zZ3 (d0 : TCf×(((List TFr)×(Int×Unit))×(Int×(Int×(Int×(List Int)))))) : Option Bool :=
 Dat.join (σ:=Bool) (fun k1 =>
 Dat.bind (yQl (d0.2.1.1,(d0.2.1.2.1,()))) fun x2 =>
 (bif x2 then k1 true
 else k1 (Dat.zQd false true (Dat.igt (Dat.ofN (Dat.len d0.2.2.2.2.2)) 100)))) fun j3 =>
 (bif j3 then some true
 else Dat.bind (zJu (d0.2.1.1,(d0.2.1.2.1,()))) fun x4 =>
 if (Dat.Le (Dat.addN 0 0) (Dat.len ([] : List Int))) then if (Dat.Big (Dat.len (Dat.seg ([] : List Int) 0 0)) (Dat.len d0.2.2.2.2.2) 1) then none
 else Dat.bnd (Dat.app (Dat.seg ([] : List Int) 0 0) d0.2.2.2.2.2) fun x9 =>
 Dat.bind (zJq ((pCf d0.1),((x4.1,(x4.2.1,())),(d0.2.2.1,(d0.2.2.2.1,d0.2.2.2.2.1))))) fun x10 =>
 Dat.bind (yXs ((pCf d0.1),((d0.2.1.1,(d0.2.1.2.1,())),(d0.2.2.1,(d0.2.2.2.1,d0.2.2.2.2.1))))) fun x11 =>
 Dat.bind (zJr ((pCf d0.1),((x4.1,(x4.2.1,())),(d0.2.2.1,x9)))) fun x12 =>
 Dat.bind (yXt ((pCf d0.1),((d0.2.1.1,(d0.2.1.2.1,())),(d0.2.2.1,d0.2.2.2.2.2)))) fun x13 =>
 Dat.bind (zK1 ((pCf d0.1),((x4.1,(x4.2.1,())),(d0.2.2.1,x9)))) fun x14 =>
 Dat.bind (yQj ((pCf d0.1),((d0.2.1.1,(d0.2.1.2.1,())),(d0.2.2.1,d0.2.2.2.2.2)))) fun x15 =>
 Dat.bind (zK3 ((pCf d0.1),((x4.1,(x4.2.1,())),d0.2.2.1))) fun x16 =>
 Dat.bind (yQm ((pCf d0.1),((d0.2.1.1,(d0.2.1.2.1,())),d0.2.2.1))) fun x17 =>
 Dat.join (σ:=Bool) (fun k18 =>
 if (Dat.XOk x10.1.2.2 x10.2.1.1) then Dat.bind (Dat.mapO (vwF x10.1.1 x10.1.2.1) (Dat.xget x10.1.2.2 x10.2.1.1)) fun x28 =>
 Dat.bind (zXy ((x28,(x10.2.1.2.1,())),(x11.1.1,(x11.1.2.1,())))) fun x29 =>
 (bif x29 then (bif (Dat.zQd true (Dat.ieq x10.2.2 x11.2) false) then if (Dat.XOk x12.1.2.2 x12.2.1.1) then Dat.bind (Dat.mapO (vwF x12.1.1 x12.1.2.1) (Dat.xget x12.1.2.2 x12.2.1.1)) fun x39 =>
 Dat.bind (zXy ((x39,(x12.2.1.2.1,())),(x13.1.1,(x13.1.2.1,())))) fun x40 =>
 (bif (Dat.zQd true x40 false) then (bif (Dat.zQd true (Dat.ieq x12.2.2 x13.2) false) then if (Dat.XOk x14.1.2.2 x14.2.1.1) then Dat.bind (Dat.mapO (vwF x14.1.1 x14.1.2.1) (Dat.xget x14.1.2.2 x14.2.1.1)) fun x50 =>
 Dat.bind (zXy ((x50,(x14.2.1.2.1,())),(x15.1.1,(x15.1.2.1,())))) fun x51 =>
 (bif (Dat.zQd true x51 false) then (bif (Dat.zQd true (Dat.ieq x14.2.2 x15.2) false) then if (Dat.XOk x16.1.2.2 x16.2.1.1) then Dat.bind (Dat.mapO (vwF x16.1.1 x16.1.2.1) (Dat.xget x16.1.2.2 x16.2.1.1)) fun x61 =>
 Dat.bind (zXy ((x61,(x16.2.1.2.1,())),(x17.1.1,(x17.1.2.1,())))) fun x62 =>
 (bif (Dat.zQd true x62 false) then k18 (Dat.zQd true (Dat.ieq x16.2.2 x17.2) false)
 else k18 false)
 else none
 else k18 false)
 else k18 false)
 else none
 else k18 false)
 else k18 false)
 else none
 else k18 false)
 else k18 false)
 else none) fun j63 =>
 Dat.loop (spB x10.2.1.1 (fun s64 =>
 Dat.loop (spB x12.2.1.1 (fun s150 =>
 Dat.loop (spB x14.2.1.1 (fun s236 =>
 Dat.loop (spB x16.2.1.1 (fun s322 =>
 Dat.join (σ:=Bool) (fun k408 =>
 (bif j63 then Dat.bind (zYm ((pCf d0.1),((x4.1,(x4.2.1,())),((d0.2.1.1,(d0.2.1.2.1,())),(d0.2.2.1,d0.2.2.2.2.1))))) fun x409 =>
 (bif (Dat.zQd true x409 false) then Dat.bind (zXy ((x4.1,(x4.2.1,())),(d0.2.1.1,(d0.2.1.2.1,())))) fun x410 =>
 (bif (Dat.zQd true x410 false) then Dat.bind (zY6 (x9,d0.2.2.2.2.2)) fun x411 =>
 k408 (Dat.zQd true x411 false)
 else k408 false)
 else k408 false)
 else k408 false)) fun j412 =>
 some j412)) (0,(x16.1.2.1,(x16.1.1,x16.1.2.2))))) (0,(x14.1.2.1,(x14.1.1,x14.1.2.2))))) (0,(x12.1.2.1,(x12.1.1,x12.1.2.2))))) (0,(x10.1.2.1,(x10.1.1,x10.1.2.2)))
 else none)
noncomputable def zZj : PFn:={ args:=[(.pair (.int .i64) (.pair (.int .i64) (.pair (.int .i64) (.pair (.int .i64) (.pair (.int .i64) (.pair (.int .i64) (.pair (.int .i64) (.pair (.int .i64) (.pair (.int .i64) .unit))))))))),(.pair (.list (.pair (.int .u8) (.pair (.int .i64) (.pair (.list (.int .u8)) (.pair (.list (.int .i64)) (.pair .bool (.pair .bool .unit))))))) (.pair (.int .i64) .unit)),(.int .i64),(.int .i64),(.int .i64),(.list (.int .u8))],res:=[.bool],fn:=zZ3 }
def sp5_33 : List LSpec×List Nat:=([{ id:=3300,known:=true,toks:=[],items:=[.slot 2 (.val (.int .i64)), .rows 13001000 (.int .i64), .rows 23001000 (.int .u8), .rows 3001000 (.pair (.int .u8) (.pair (.int .i64) (.pair (.mix 23001000 (.int .u8)) (.pair (.mix 13001000 (.int .i64)) (.pair .bool (.pair .bool .unit))))))],junk:=[5,6,7,8,9,12,13,14,15,16,3,17,18,19,20,21,22,23,24,25,28,29,30,31,32,33,34,35,36,37,38,39,40,41,42,43,44,45,26,27,4,46,47,48,49,50,51,52,53,54,57,58,59,60,61,62,63,64,55,56,10,11],tails:=[] },{ id:=3301,known:=true,toks:=[],items:=[.slot 3 (.val (.int .i64)), .rows 21000007 (.int .u8)],junk:=[17,18,19,20,21,22,23,24,25,28,29,30,31,32,33,34,35,36,37,38,39,40,41,42,43,44,45,26,27],tails:=[] },{ id:=3302,known:=true,toks:=[],items:=[.slot 4 (.val (.int .i64)), .rows 11000007 (.int .i64)],junk:=[46,47,48,49,50,51,52,53,54,57,58,59,60,61,62,63,64,55,56],tails:=[] }],[])
def sp5_5 : List LSpec×List Nat:=([uk 5005000,{ id:=5005001,known:=true,toks:=[],items:=[.slot 38 (.val .bool)],junk:=[32,33,34,35,36,37],tails:=[] },uk 5005002,uk 5005003,uk 5005004,uk 5005005,uk 5005006,uk 5005007,uk 5005008,uk 5005009,uk 5005010,uk 5005011,uk 5005012,{ id:=5005013,known:=true,toks:=[],items:=[.slot 31 (.val .bool)],junk:=[108,109,110,111,112,113,114,115,116,117,118,119,120,121,122,123,124,125,126,127,128,129,130,131,132,133,134,135,136,137,138,139,140,141,142,143,144,145],tails:=[] },uk 5005014,uk 5005015,uk 5005016,uk 5005017,{ id:=5005018,known:=true,toks:=[],items:=[.slot 12 (.val .bool)],junk:=[154,155,156,157,158,159,160,161,162,163,164,165,166,167,168,169,170,171,172],tails:=[] }],[])
def spt5 : Tab (List LSpec×List Nat):=(.node (.node .leaf none (.node (.node (.node (.node .leaf (some sp5_33) .leaf) none .leaf) none .leaf) (some sp5_5) .leaf)) none .leaf)
def spf5 (f : Nat) : List LSpec×List Nat:=(spt5.get f).getD ([],[])
theorem yZw : zWp Try.prog cfg 5 zZj:=fnDr spf5 [] (l:=[(21,yKx),(22,yWw),(34,yYu),(35,yYv),(36,yKv),(37,yKy),(28,yWx),(38,yZl),(39,yWz)]) (lo:=[]) (lr:=[(10,yWs),(11,yWt),(16,yQ7),(17,yQ9)]) zW0 zQt (.cons xZg (.cons yKs (.cons xJp (.cons xJq (.cons xZe (.cons xZh (.cons yKt (.cons xWu (.cons yKu .nil))))))))) .nil (.cons xQj (.cons xQk (.cons yJu (.cons yJw .nil)))) (fun d=>by kernel_rfl)
end Go.Proofs.Ytablhcjjfiepaaa
