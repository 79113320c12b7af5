/- The functions of the program, as functions on plain data. -/
import Derived.Test.YtablhcjjfiepaaaCfg
import Derived.Test.YtablhcjjfiepaaaM6
import Derived.ProofKit
import Derived.Test.YtablhcjjfiepaaaConfS
namespace Go.Proofs.Ytablhcjjfiepaaa
open Go.Eng
set_option linter.unusedVariables false
set_option maxRecDepth 100000
abbrev TFr : Type:=Int×(Int×(List Int×(List Int×(Bool×(Bool×Unit)))))
abbrev TMf : Type:=Int×(Int×(MixE Int×(MixE Int×(Bool×(Bool×Unit)))))
abbrev TCf : Type:=Int×(Int×(Int×(Int×(Int×(Int×(Int×(Int×(Int×Unit))))))))
@[reducible] def zFr : TFr:=(0,(0,([],([],(false,(false,()))))))
@[reducible] def zMf : TMf:=(0,(0,(.nil,(.nil,(false,(false,()))))))
@[reducible] def pCf (c : TCf) : TCf:=(c.1,(c.2.1,(c.2.2.1,(c.2.2.2.1,(c.2.2.2.2.1,(c.2.2.2.2.2.1,(c.2.2.2.2.2.2.1,(c.2.2.2.2.2.2.2.1,(c.2.2.2.2.2.2.2.2.1,())))))))))
def uk (i : Nat) : LSpec:={ id:=i,known:=false,toks:=[],items:=[],junk:=[],tails:=[] }
def sp0 (f : Nat) : List LSpec×List Nat:=([],[])
noncomputable def zXl (d0 : Int×(Int×(Int×Unit))) : Option Bool :=
 (bif (Dat.ile d0.2.1 d0.1) then some (Dat.zQg true (Dat.ile d0.1 d0.2.2.1) false)
 else some false)
noncomputable def zKg : PFn:={ args:=[(.pair (.int .i64) (.pair (.int .i64) (.pair (.int .i64) .unit)))],res:=[.bool],fn:=zXl }
theorem yQc : zWf Try.prog cfg 79 zKg:=fnD sp0 (l:=[]) zWt zQt .nil (fun d=>by kernel_rfl)
noncomputable def yKh (d0 : Int) : Option Int :=
 (bif (Dat.ilt d0 1) then some 2
 else (bif (Dat.zQg false true (Dat.igt d0 6)) then some 2
 else some 0))
noncomputable def xWc : PFn:={ args:=[(.int .i64)],res:=[(.int .i64)],fn:=yKh }
theorem xY5 : zWf Try.prog cfg 98 xWc:=fnD sp0 (l:=[]) zWt zQt .nil (fun d=>by kernel_rfl)
noncomputable def yXh (d0 : Int) : Option (Int×Int) :=
 Dat.bind (yKh d0) fun x1 =>
 (bif (Dat.ine x1 0) then some (0,x1)
 else if (Dat.Neg d0) then none
 else Dat.bnd (Dat.shl .i64 1 d0) fun x4 =>
 some (x4,0))
noncomputable def yJ8 : PFn:={ args:=[(.int .i64)],res:=[(.int .i64),(.int .i64)],fn:=yXh }
theorem xK8 : zWf Try.prog cfg 97 yJ8:=fnD sp0 (l:=[(98,xWc)]) zWt zQt (.cons xY5 .nil) (fun d=>by kernel_rfl)
noncomputable def yKs (d0 : Int) : Option Int :=
 Dat.loop (fun (s1 : Int) k2 =>
 Dat.bind (yXh s1) fun x3 =>
 (bif (Dat.ine x3.2 0) then some s1
 else (bif (Dat.zQg false true (Dat.ige x3.1 d0)) then some s1
 else Dat.bnd (Dat.wrap .i64 (Dat.add s1 1)) fun x4 =>
 k2 x4))) 1
noncomputable def xWd : PFn:={ args:=[(.int .i64)],res:=[(.int .i64)],fn:=yKs }
def vJ1 : List LSpec×List Nat:=([{ id:=9500,known:=true,toks:=[],items:=[.slot 3 (.val (.int .i64))],junk:=[9,10,8,11,12,4,5,13,14,15,16,17,18,19,20,2,6,7],tails:=[] }],[])
def spt95 : Tab (List LSpec×List Nat):=(.node (.node (.node (.node (.node (.node .leaf none (.node .leaf (some vJ1) .leaf)) none .leaf) none .leaf) none .leaf) none .leaf) none .leaf)
def spf95 (f : Nat) : List LSpec×List Nat:=(spt95.get f).getD ([],[])
theorem xY6 : zWf Try.prog cfg 95 xWd:=fnD spf95 (l:=[(97,yJ8)]) zWt zQt (.cons xK8 .nil) (fun d=>by kernel_rfl)
noncomputable def zY1 (d0 : TCf×(Int×Int)) : Option (Int×(Int×(Int×(Int×Unit)))) :=
 Dat.bnd (Dat.wrap .i64 (Dat.add 8 d0.2.2)) fun x1 =>
 Dat.bnd (Dat.wrap .i64 (Dat.mul d0.1.2.2.2.1 x1)) fun x2 =>
 Dat.bnd (Dat.wrap .i64 (Dat.add x2 64)) fun x3 =>
 Dat.bind (yKs d0.2.1) fun x4 =>
 some (d0.2.1,(d0.2.2,(x4,(x3,()))))
noncomputable def yYa : PFn:={ args:=[(.pair (.int .i64) (.pair (.int .i64) (.pair (.int .i64) (.pair (.int .i64) (.pair (.int .i64) (.pair (.int .i64) (.pair (.int .i64) (.pair (.int .i64) (.pair (.int .i64) .unit))))))))),(.int .i64),(.int .i64)],res:=[(.pair (.int .i64) (.pair (.int .i64) (.pair (.int .i64) (.pair (.int .i64) .unit))))],fn:=zY1 }
theorem xJa : zWf Try.prog cfg 90 yYa:=fnD sp0 (l:=[(95,xWd)]) zWt zQt (.cons xY6 .nil) (fun d=>by kernel_rfl)
noncomputable def yZe (d0 : TCf×(Int×(Int×(Int×(Int×Unit))))) : Option Bool :=
 some (Dat.ile d0.2.1 d0.1.2.2.2.2.2.2.2.2.1)
noncomputable def yZ7 : PFn:={ args:=[(.pair (.int .i64) (.pair (.int .i64) (.pair (.int .i64) (.pair (.int .i64) (.pair (.int .i64) (.pair (.int .i64) (.pair (.int .i64) (.pair (.int .i64) (.pair (.int .i64) .unit))))))))),(.pair (.int .i64) (.pair (.int .i64) (.pair (.int .i64) (.pair (.int .i64) .unit))))],res:=[.bool],fn:=yZe }
theorem xXw : zWf Try.prog cfg 91 yZ7:=fnD sp0 (l:=[]) zWt zQt .nil (fun d=>by kernel_rfl)
noncomputable def zY2 (d0 : TCf) : Option Int :=
 Dat.bind (yZf (d0.1,(d0.2.1,(d0.2.2.1,(d0.2.2.2.1,(d0.2.2.2.2.1,(d0.2.2.2.2.2.1,(d0.2.2.2.2.2.2.1,(d0.2.2.2.2.2.2.2.1,(d0.2.2.2.2.2.2.2.2.1,())))))))))) fun x1 =>
 Dat.loop (fun (s2 : Int) k3 =>
 (bif (Dat.ilt s2 9) then if (Dat.In s2 9) then Dat.bnd (Dat.get x1 (Dat.toN s2) (0,(0,(0,())))) fun x6 =>
 Dat.bind (zXl (x6.1,(x6.2.1,(x6.2.2.1,())))) fun x7 =>
 (bif (Dat.bnot x7) then some 8
 else Dat.bnd (Dat.wrap .i64 (Dat.add s2 1)) fun x8 =>
 k3 x8)
 else none
 else Dat.bind (zY1 ((d0.1,(d0.2.1,(d0.2.2.1,(d0.2.2.2.1,(d0.2.2.2.2.1,(d0.2.2.2.2.2.1,(d0.2.2.2.2.2.2.1,(d0.2.2.2.2.2.2.2.1,(d0.2.2.2.2.2.2.2.2.1,()))))))))),(d0.1,d0.2.1))) fun x9 =>
 Dat.loop (fun (s10 : (Int×(Int×(Int×Int)))×Int) k11 =>
 Dat.bnd (Dat.wrap .i64 (Dat.add s10.2 1)) fun x12 =>
 Dat.bind (yZe ((d0.1,(d0.2.1,(d0.2.2.1,(d0.2.2.2.1,(d0.2.2.2.2.1,(d0.2.2.2.2.2.1,(d0.2.2.2.2.2.2.1,(d0.2.2.2.2.2.2.2.1,(d0.2.2.2.2.2.2.2.2.1,()))))))))),(s10.1.1,(s10.1.2.1,(s10.1.2.2.1,(s10.1.2.2.2,())))))) fun x13 =>
 (bif (Dat.zQg true (Dat.bnot x13) false) then Dat.bnd (Dat.wrap .i64 (Dat.add s10.1.1 d0.2.2.1)) fun x14 =>
 Dat.bnd (Dat.wrap .i64 (Dat.sub x14 1)) fun x15 =>
 if (Dat.IsZ d0.2.2.1) then none
 else Dat.bnd (Dat.wrap .i64 (Dat.tdiv x15 d0.2.2.1)) fun x18 =>
 Dat.bnd (Dat.wrap .i64 (Dat.mul 4 d0.2.2.1)) fun x19 =>
 Dat.bind (zY1 ((d0.1,(d0.2.1,(d0.2.2.1,(d0.2.2.2.1,(d0.2.2.2.2.1,(d0.2.2.2.2.2.1,(d0.2.2.2.2.2.2.1,(d0.2.2.2.2.2.2.2.1,(d0.2.2.2.2.2.2.2.2.1,()))))))))),(x18,x19))) fun x20 =>
 k11 ((x20.1,(x20.2.1,(x20.2.2.1,x20.2.2.2.1))),x12)
 else (bif (Dat.igt x12 4) then some 8
 else some 0))) ((x9.1,(x9.2.1,(x9.2.2.1,x9.2.2.2.1))),0))) 0
noncomputable def yWe : PFn:={ args:=[(.pair (.int .i64) (.pair (.int .i64) (.pair (.int .i64) (.pair (.int .i64) (.pair (.int .i64) (.pair (.int .i64) (.pair (.int .i64) (.pair (.int .i64) (.pair (.int .i64) .unit)))))))))],res:=[(.int .i64)],fn:=zY2 }
def vYp : List LSpec×List Nat:=([{ id:=8900,known:=true,toks:=[],items:=[.cells 1000003 [.val (.int .i64), .val (.int .i64), .val (.int .i64), .val (.int .i64)], .cells 1 [.val (.int .i64)]],junk:=[10,11,12,13,14,15,16,17,18,19,20,21,22,23,24,25,26,27,28,29,30,31,32],tails:=[] }],[])
def vYq : List LSpec×List Nat:=([{ id:=4100,known:=true,toks:=[],items:=[.slot 8 (.val (.int .i64))],junk:=[9,10,4,11,12,13,2,14],tails:=[] }],[])
def spt41 : Tab (List LSpec×List Nat):=(.node (.node .leaf none (.node (.node .leaf none (.node (.node .leaf (some vYq) .leaf) none (.node (.node .leaf (some vYp) .leaf) none .leaf))) none .leaf)) none .leaf)
def spf41 (f : Nat) : List LSpec×List Nat:=(spt41.get f).getD ([],[])
theorem yZ1 : zWf Try.prog cfg 41 yWe:=fnD spf41 (l:=[(78,yZ8),(79,zKg),(90,yYa),(91,yZ7)]) zWt zQt (.cons xXx (.cons yQc (.cons xJa (.cons xXw .nil)))) (fun d=>by kernel_rfl)
noncomputable def zKs (d0 : ((List TFr)×(Int×Unit))×Int) : Option Bool :=
 (bif (Dat.ige d0.2 0) then some (Dat.zQg true (Dat.ilt d0.2 (Dat.ofN (Dat.len d0.1.1))) false)
 else some false)
noncomputable def yQr : PFn:={ args:=[(.pair (.list (.pair (.int .u8) (.pair (.int .i64) (.pair (.list (.int .u8)) (.pair (.list (.int .i64)) (.pair .bool (.pair .bool .unit))))))) (.pair (.int .i64) .unit)),(.int .i64)],res:=[.bool],fn:=zKs }
theorem yK8 : zWf Try.prog cfg 42 yQr:=fnD sp0 (l:=[]) zWt zQt .nil (fun d=>by kernel_rfl)
noncomputable def zKn (d0 : Int) : Option Bool :=
 some (Dat.igt d0 0)
noncomputable def zJt : PFn:={ args:=[(.int .i64)],res:=[.bool],fn:=zKn }
theorem yXp : zWf Try.prog cfg 82 zJt:=fnD sp0 (l:=[]) zWt zQt .nil (fun d=>by kernel_rfl)
noncomputable def zWl (d0 : TFr) : Option Bool :=
 Dat.loop (fun (s1 : Int) k2 =>
 (bif (Dat.ilt s1 (Dat.ofN (Dat.len d0.2.2.2.1))) then if (Dat.Ix s1 (Dat.len d0.2.2.2.1)) then Dat.bnd (Dat.get d0.2.2.2.1 (Dat.toN s1) 0) fun x5 =>
 Dat.bind (zKn x5) fun x6 =>
 (bif x6 then some (Dat.ige s1 0)
 else Dat.bnd (Dat.wrap .i64 (Dat.add s1 1)) fun x7 =>
 k2 x7)
 else none
 else some (Dat.ige (-1) 0))) 0
noncomputable def zKm : PFn:={ args:=[(.pair (.int .u8) (.pair (.int .i64) (.pair (.list (.int .u8)) (.pair (.list (.int .i64)) (.pair .bool (.pair .bool .unit))))))],res:=[.bool],fn:=zWl }
def vYo : List LSpec×List Nat:=([{ id:=9200,known:=true,toks:=[],items:=[.slot 8 (.val (.int .i64))],junk:=[9,10,5,11,12,13,14,15,16,17,4,18],tails:=[] }],[])
def spt44 : Tab (List LSpec×List Nat):=(.node .leaf none (.node (.node .leaf none (.node .leaf none (.node .leaf none (.node (.node .leaf (some vYo) .leaf) none .leaf)))) none .leaf))
def spf44 (f : Nat) : List LSpec×List Nat:=(spt44.get f).getD ([],[])
theorem zJ7 : zWf Try.prog cfg 44 zKm:=fnD spf44 (l:=[(82,zJt)]) zWt zQt (.cons yXp .nil) (fun d=>by kernel_rfl)
noncomputable def zYa (d0 : TCf×TFr) : Option Bool :=
 (bif (Dat.ine (Dat.ofN (Dat.len d0.2.2.2.2.1)) d0.1.2.2.2.2.2.2.1) then some false
 else Dat.loop (fun (s1 : Int) k2 =>
 (bif (Dat.ilt s1 (Dat.ofN (Dat.len d0.2.2.2.2.1))) then if (Dat.Ix s1 (Dat.len d0.2.2.2.2.1)) then Dat.bnd (Dat.get d0.2.2.2.2.1 (Dat.toN s1) 0) fun x5 =>
 (bif (Dat.ilt x5 0) then some false
 else (bif (Dat.zQg false true (Dat.igt x5 8)) then some false
 else Dat.bnd (Dat.wrap .i64 (Dat.add s1 1)) fun x6 =>
 k2 x6))
 else none
 else (bif (Dat.ige d0.2.2.1 0) then (bif (Dat.ieq d0.2.1 0) then (bif (Dat.ieq d0.2.2.1 0) then (bif (Dat.zQg true (Dat.ieq (Dat.ofN (Dat.len d0.2.2.2.1)) 0) false) then Dat.bind (zWl (d0.2.1,(d0.2.2.1,(d0.2.2.2.1,(d0.2.2.2.2.1,(d0.2.2.2.2.2.1,(d0.2.2.2.2.2.2.1,()))))))) fun x7 =>
 (bif (Dat.zQg true (Dat.bnot x7) false) then (bif (Dat.zQg true (Dat.bnot d0.2.2.2.2.2.1) false) then some (Dat.zQg true (Dat.bnot d0.2.2.2.2.2.2.1) false)
 else some false)
 else some false)
 else some false)
 else some false)
 else (bif (Dat.ieq d0.2.1 1) then (bif (Dat.zQg true (Dat.ilt d0.2.2.1 d0.1.1) false) then (bif (Dat.zQg true (Dat.ieq (Dat.ofN (Dat.len d0.2.2.2.1)) 0) false) then (bif (Dat.zQg true (Dat.bnot d0.2.2.2.2.2.2.1) false) then Dat.bind (zWl (d0.2.1,(d0.2.2.1,(d0.2.2.2.1,(d0.2.2.2.2.1,(d0.2.2.2.2.2.1,(d0.2.2.2.2.2.2.1,()))))))) fun x8 =>
 some (Dat.zQg true x8 false)
 else some false)
 else some false)
 else some false)
 else (bif (Dat.ieq d0.2.1 2) then (bif (Dat.zQg true (Dat.ilt d0.2.2.1 d0.1.1) false) then some (Dat.zQg true (Dat.ieq (Dat.ofN (Dat.len d0.2.2.2.1)) d0.1.2.1) false)
 else some false)
 else some false)))
 else (bif (Dat.ieq d0.2.1 0) then (bif (Dat.ieq d0.2.2.1 0) then (bif (Dat.zQg true (Dat.ieq (Dat.ofN (Dat.len d0.2.2.2.1)) 0) false) then Dat.bind (zWl (d0.2.1,(d0.2.2.1,(d0.2.2.2.1,(d0.2.2.2.2.1,(d0.2.2.2.2.2.1,(d0.2.2.2.2.2.2.1,()))))))) fun x9 =>
 (bif (Dat.zQg true (Dat.bnot x9) false) then (bif (Dat.zQg true (Dat.bnot d0.2.2.2.2.2.1) false) then some (Dat.zQg true (Dat.bnot d0.2.2.2.2.2.2.1) false)
 else some false)
 else some false)
 else some false)
 else some false)
 else (bif (Dat.ieq d0.2.1 1) then some false
 else (bif (Dat.ieq d0.2.1 2) then some false
 else some false)))))) 0)
noncomputable def yXv : PFn:={ args:=[(.pair (.int .i64) (.pair (.int .i64) (.pair (.int .i64) (.pair (.int .i64) (.pair (.int .i64) (.pair (.int .i64) (.pair (.int .i64) (.pair (.int .i64) (.pair (.int .i64) .unit))))))))),(.pair (.int .u8) (.pair (.int .i64) (.pair (.list (.int .u8)) (.pair (.list (.int .i64)) (.pair .bool (.pair .bool .unit))))))],res:=[.bool],fn:=zYa }
def vYd : List LSpec×List Nat:=([{ id:=6500,known:=true,toks:=[],items:=[.slot 17 (.val (.int .i64))],junk:=[18,19,20,6,21,22,23,24,25,26,4,27],tails:=[] }],[])
def spt65 : Tab (List LSpec×List Nat):=(.node (.node .leaf none (.node (.node (.node (.node (.node .leaf (some vYd) .leaf) none .leaf) none .leaf) none .leaf) none .leaf)) none .leaf)
def spf65 (f : Nat) : List LSpec×List Nat:=(spt65.get f).getD ([],[])
theorem xQ6 : zWf Try.prog cfg 65 yXv:=fnD spf65 (l:=[(44,zKm)]) zWt zQt (.cons zJ7 .nil) (fun d=>by kernel_rfl)
noncomputable def zXi (d0 : TCf×((List TFr)×(Int×Unit))) : Option Int :=
 Dat.bind (zY2 (pCf d0.1)) fun x1 =>
 (bif (Dat.ine x1 0) then some x1
 else (bif (Dat.ine (Dat.ofN (Dat.len d0.2.1)) d0.1.2.2.2.2.2.1) then some 8
 else Dat.bind (zKs ((d0.2.1,(d0.2.2.1,())),d0.2.2.1)) fun x2 =>
 (bif (Dat.zQg false true (Dat.bnot x2)) then some 8
 else Dat.loop (fun (s3 : Int×(List (Int×Int))) k4 =>
 (bif (Dat.ilt s3.1 (Dat.ofN (Dat.len d0.2.1))) then if (Dat.Ix s3.1 (Dat.len d0.2.1)) then Dat.bnd (Dat.get d0.2.1 (Dat.toN s3.1) zFr) fun x7 =>
 Dat.bind (zYa ((pCf d0.1),(x7.1,(x7.2.1,(x7.2.2.1,(x7.2.2.2.1,(x7.2.2.2.2.1,(x7.2.2.2.2.2.1,())))))))) fun x8 =>
 (bif (Dat.bnot x8) then some 8
 else (bif (Dat.ieq x7.1 0) then Dat.bnd (Dat.wrap .i64 (Dat.add s3.1 1)) fun x9 =>
 k4 (x9,s3.2)
 else Dat.bnd (Dat.mget s3.2 x7.2.1) fun x10 =>
 Dat.bnd (Dat.wrap .i64 (Dat.add x10 1)) fun x11 =>
 Dat.bnd (Dat.mput s3.2 x7.2.1 x11) fun x12 =>
 Dat.bnd (Dat.mget x12 x7.2.1) fun x13 =>
 (bif (Dat.igt x13 1) then some 8
 else Dat.bnd (Dat.wrap .i64 (Dat.add s3.1 1)) fun x14 =>
 k4 (x14,x12))))
 else none
 else some 0)) (0,([] : List (Int×Int))))))
noncomputable def zZn : PFn:={ args:=[(.pair (.int .i64) (.pair (.int .i64) (.pair (.int .i64) (.pair (.int .i64) (.pair (.int .i64) (.pair (.int .i64) (.pair (.int .i64) (.pair (.int .i64) (.pair (.int .i64) .unit))))))))),(.pair (.list (.pair (.int .u8) (.pair (.int .i64) (.pair (.list (.int .u8)) (.pair (.list (.int .i64)) (.pair .bool (.pair .bool .unit))))))) (.pair (.int .i64) .unit))],res:=[(.int .i64)],fn:=zXi }
def vYu : List LSpec×List Nat:=([{ id:=2900,known:=true,toks:=[],items:=[.slot 31 (.val (.int .i64)), .map 1000006 .i64 .i64],junk:=[32,33,34,8,35,36,37,38,4,39,40,41,42,43,44,45,46,47,48,49,50,51,52],tails:=[] }],[])
def spt29 : Tab (List LSpec×List Nat):=(.node (.node .leaf none (.node .leaf none (.node .leaf none (.node .leaf (some vYu) .leaf)))) none .leaf)
def spf29 (f : Nat) : List LSpec×List Nat:=(spt29.get f).getD ([],[])
theorem zZ6 : zWf Try.prog cfg 29 zZn:=fnD spf29 (l:=[(41,yWe),(42,yQr),(65,yXv)]) zWt zQt (.cons yZ1 (.cons yK8 (.cons xQ6 .nil))) (fun d=>by kernel_rfl)
noncomputable def zQz (d0 : List Int) : Option (List Int) :=
 if (Dat.Le (Dat.addN 0 0) (Dat.len ([] : List Int))) then if (Dat.EqN (Dat.len d0) 0) then if (Dat.Le (Dat.addN 0 0) (Dat.len ([] : List Int))) then some (Dat.seg ([] : List Int) 0 0)
 else none
 else if (Dat.Big (Dat.len (Dat.seg ([] : List Int) 0 0)) (Dat.len d0) 1) then none
 else Dat.bnd (Dat.app (Dat.seg ([] : List Int) 0 0) d0) fun x9 =>
 if (Dat.Le (Dat.addN 0 (Dat.len x9)) (Dat.len x9)) then some (Dat.seg x9 0 (Dat.len x9))
 else none
 else none
noncomputable def zXn : PFn:={ args:=[(.list (.int .u8))],res:=[(.list (.int .u8))],fn:=zQz }
noncomputable def cx48 : CloneX Try.prog cfg 48 5 (.int .u8) := clx xf48 5 (xf48.body.cOps.getD 0 ⟨none, .move (.tmp 0), 0, "", #[], none⟩) (xf48.body.cOps.getD 1 ⟨none, .move (.tmp 0), 0, "", #[], none⟩) (by kernel_rfl) (by kernel_rfl) (by kernel_rfl) (by kernel_rfl) (by kernel_rfl) (by kernel_rfl) (by kernel_rfl) (by kernel_rfl) (by kernel_rfl)
def vYn : List LSpec×List Nat:=([],[3])
def spt48 : Tab (List LSpec×List Nat):=(.node .leaf none (.node (.node (.node (.node .leaf none (.node .leaf (some vYn) .leaf)) none .leaf) none .leaf) none .leaf))
def spf48 (f : Nat) : List LSpec×List Nat:=(spt48.get f).getD ([],[])
theorem zZm : zWf Try.prog cfg 48 zXn:=vW9 spf48 zWt zQt cx48 (of_decide_eq_true (by kernel_rfl)) (by kernel_rfl) (by kernel_rfl) (by kernel_rfl) (fun d=>by kernel_rfl) (fun d=>by kernel_rfl) (by kernel_rfl) (fun d r h=>by
  unfold zQz at h
  split at h
  · split at h
    · rename_i e
      have h1:=Option.some.inj h
      rw [← h1]
      exact (List.length_eq_zero_iff.1 e).symm
    · split at h
      · cases h
      · simp only [Dat.bnd] at h
        split at h
        · have h1 : (d.drop 0).take d.length = r := Option.some.inj h
          rw [← h1]
          simp
        · cases h
  · cases h)
noncomputable def zXo : OFn:={ args:=[(.list (.int .u8))],ores:=[(.own (.int .u8))],fn:=zQz }
theorem zZo : OwnD Try.prog cfg 48 zXo∧True:=⟨vW8 spf48 zWt zQt cx48 (of_decide_eq_true (by kernel_rfl)) (by kernel_rfl) (by kernel_rfl) (by kernel_rfl) (fun d=>by kernel_rfl) (fun d=>by kernel_rfl) (by kernel_rfl) (fun d r h=>by
  unfold zQz at h
  split at h
  · split at h
    · rename_i e
      have h1:=Option.some.inj h
      rw [← h1]
      exact (List.length_eq_zero_iff.1 e).symm
    · split at h
      · cases h
      · simp only [Dat.bnd] at h
        split at h
        · have h1 : (d.drop 0).take d.length = r := Option.some.inj h
          rw [← h1]
          simp
        · cases h
  · cases h),trivial⟩
noncomputable def zQ0 (d0 : List Int) : Option (List Int) :=
 if (Dat.Le (Dat.addN 0 0) (Dat.len ([] : List Int))) then if (Dat.EqN (Dat.len d0) 0) then if (Dat.Le (Dat.addN 0 0) (Dat.len ([] : List Int))) then some (Dat.seg ([] : List Int) 0 0)
 else none
 else if (Dat.Big (Dat.len (Dat.seg ([] : List Int) 0 0)) (Dat.len d0) 8) then none
 else Dat.bnd (Dat.app (Dat.seg ([] : List Int) 0 0) d0) fun x9 =>
 if (Dat.Le (Dat.addN 0 (Dat.len x9)) (Dat.len x9)) then some (Dat.seg x9 0 (Dat.len x9))
 else none
 else none
noncomputable def zX6 : PFn:={ args:=[(.list (.int .i64))],res:=[(.list (.int .i64))],fn:=zQ0 }
noncomputable def cx64 : CloneX Try.prog cfg 64 3 (.int .i64) := clx xf64 3 (xf64.body.cOps.getD 0 ⟨none, .move (.tmp 0), 0, "", #[], none⟩) (xf64.body.cOps.getD 1 ⟨none, .move (.tmp 0), 0, "", #[], none⟩) (by kernel_rfl) (by kernel_rfl) (by kernel_rfl) (by kernel_rfl) (by kernel_rfl) (by kernel_rfl) (by kernel_rfl) (by kernel_rfl) (by kernel_rfl)
def vYe : List LSpec×List Nat:=([],[3])
def spt64 : Tab (List LSpec×List Nat):=(.node .leaf none (.node (.node (.node (.node (.node (.node .leaf (some vYe) .leaf) none .leaf) none .leaf) none .leaf) none .leaf) none .leaf))
def spf64 (f : Nat) : List LSpec×List Nat:=(spt64.get f).getD ([],[])
theorem zZ5 : zWf Try.prog cfg 64 zX6:=vW9 spf64 zWt zQt cx64 (of_decide_eq_true (by kernel_rfl)) (by kernel_rfl) (by kernel_rfl) (by kernel_rfl) (fun d=>by kernel_rfl) (fun d=>by kernel_rfl) (by kernel_rfl) (fun d r h=>by
  unfold zQ0 at h
  split at h
  · split at h
    · rename_i e
      have h1:=Option.some.inj h
      rw [← h1]
      exact (List.length_eq_zero_iff.1 e).symm
    · split at h
      · cases h
      · simp only [Dat.bnd] at h
        split at h
        · have h1 : (d.drop 0).take d.length = r := Option.some.inj h
          rw [← h1]
          simp
        · cases h
  · cases h)
noncomputable def zX7 : OFn:={ args:=[(.list (.int .i64))],ores:=[(.own (.int .i64))],fn:=zQ0 }
theorem zKa : OwnD Try.prog cfg 64 zX7∧True:=⟨vW8 spf64 zWt zQt cx64 (of_decide_eq_true (by kernel_rfl)) (by kernel_rfl) (by kernel_rfl) (by kernel_rfl) (fun d=>by kernel_rfl) (fun d=>by kernel_rfl) (by kernel_rfl) (fun d r h=>by
  unfold zQ0 at h
  split at h
  · split at h
    · rename_i e
      have h1:=Option.some.inj h
      rw [← h1]
      exact (List.length_eq_zero_iff.1 e).symm
    · split at h
      · cases h
      · simp only [Dat.bnd] at h
        split at h
        · have h1 : (d.drop 0).take d.length = r := Option.some.inj h
          rw [← h1]
          simp
        · cases h
  · cases h),trivial⟩
noncomputable abbrev TwT : Type:=List TMf×(List (List Int)×(List (List Int)×Int))
@[reducible] noncomputable def twB {β : Type} (NN : Nat) (fin : TwT→Option β) (s0 : TwT) (k0 : TwT→Option β) : Option β :=
 (bif (Dat.ilt s0.2.2.2 (Dat.ofN NN)) then if (Dat.In s0.2.2.2 NN) then if (Dat.Lt (Dat.addN 0 (Dat.toN s0.2.2.2)) (Dat.len s0.1)) then Dat.bnd (Dat.get s0.1 (Dat.addN 0 (Dat.toN s0.2.2.2)) zMf) fun x0 =>
 if (Dat.XOk s0.2.1 x0.2.2.1) then Dat.bnd (Dat.xget s0.2.1 x0.2.2.1) fun x1 =>
 Dat.bind (zQz x1) fun x2 =>
 Dat.bnd (Dat.app s0.2.1 (x2::([] : List (List Int)))) fun x3 =>
 if (Dat.XOk s0.2.2.1 x0.2.2.2.1) then Dat.bnd (Dat.xget s0.2.2.1 x0.2.2.2.1) fun x4 =>
 Dat.bind (zQ0 x4) fun x5 =>
 Dat.bnd (Dat.app s0.2.2.1 (x5::([] : List (List Int)))) fun x6 =>
 if (Dat.In s0.2.2.2 NN) then if (Dat.Lt (Dat.addN 0 (Dat.toN s0.2.2.2)) (Dat.len s0.1)) then Dat.bnd (Dat.get s0.1 (Dat.addN 0 (Dat.toN s0.2.2.2)) zMf) fun x7 =>
 Dat.bnd (Dat.set s0.1 (Dat.addN 0 (Dat.toN s0.2.2.2)) (x7.1,(x7.2.1,((Dat.xrow (Dat.len s0.2.1) x2),(x7.2.2.2.1,(x7.2.2.2.2.1,(x7.2.2.2.2.2.1,()))))))) fun x8 =>
 if (Dat.In s0.2.2.2 NN) then if (Dat.Lt (Dat.addN 0 (Dat.toN s0.2.2.2)) (Dat.len x8)) then Dat.bnd (Dat.get x8 (Dat.addN 0 (Dat.toN s0.2.2.2)) zMf) fun x9 =>
 Dat.bnd (Dat.set x8 (Dat.addN 0 (Dat.toN s0.2.2.2)) (x9.1,(x9.2.1,(x9.2.2.1,((Dat.xrow (Dat.len s0.2.2.1) x5),(x9.2.2.2.2.1,(x9.2.2.2.2.2.1,()))))))) fun x10 =>
 Dat.bnd (Dat.wrap .i64 (Dat.add s0.2.2.2 1)) fun x11 =>
 k0 (x10,(x3,(x6,x11)))
 else none
 else none
 else none
 else none
 else none
 else none
 else none
 else none
 else fin s0)
noncomputable def zZs (d0 : Int×(Int×Int)) : Option Bool :=
 (bif (Dat.ige d0.1 d0.2.1) then some (Dat.zQg true (Dat.ile d0.1 d0.2.2) false)
 else some false)
noncomputable def xZw : PFn:={ args:=[(.int .i64),(.int .i64),(.int .i64)],res:=[.bool],fn:=zZs }
theorem wWy : zWf Try.prog cfg 93 xZw:=fnD sp0 (l:=[]) zWt zQt .nil (fun d=>by kernel_rfl)
noncomputable def zJi (d0 : TCf) : Option Bool :=
 Dat.bind (zZs (d0.1,(1,64))) fun x1 =>
 (bif x1 then Dat.bind (zZs (d0.2.1,(1,32))) fun x2 =>
 (bif (Dat.zQg true x2 false) then Dat.bind (zZs (d0.2.2.1,(2,8))) fun x3 =>
 (bif (Dat.zQg true x3 false) then Dat.bind (zZs (d0.2.2.2.1,(1,4))) fun x4 =>
 (bif (Dat.zQg true x4 false) then Dat.bind (zZs (d0.2.2.2.2.1,(1,64))) fun x5 =>
 (bif (Dat.zQg true x5 false) then Dat.bind (zZs (d0.2.2.2.2.2.1,(1,8))) fun x6 =>
 (bif (Dat.zQg true x6 false) then Dat.bind (zZs (d0.2.2.2.2.2.2.1,(1,4))) fun x7 =>
 (bif (Dat.zQg true x7 false) then Dat.bind (zZs (d0.2.2.2.2.2.2.2.1,(1,16))) fun x8 =>
 (bif (Dat.zQg true x8 false) then Dat.bind (zZs (d0.2.2.2.2.2.2.2.2.1,(1,16))) fun x9 =>
 some (Dat.zQg true x9 false)
 else some false)
 else some false)
 else some false)
 else some false)
 else some false)
 else some false)
 else some false)
 else some false)
noncomputable def yWc : PFn:={ args:=[(.pair (.int .i64) (.pair (.int .i64) (.pair (.int .i64) (.pair (.int .i64) (.pair (.int .i64) (.pair (.int .i64) (.pair (.int .i64) (.pair (.int .i64) (.pair (.int .i64) .unit)))))))))],res:=[.bool],fn:=zJi }
theorem yYu : zWf Try.prog cfg 83 yWc:=fnD sp0 (l:=[(93,xZw)]) zWt zQt (.cons wWy .nil) (fun d=>by kernel_rfl)
noncomputable def yW8 (d0 : Int) : Option Int :=
 Dat.loop (fun (s1 : Int×Int) k2 =>
 (bif (Dat.ilt s1.2 d0) then Dat.bnd (Dat.wrap .i64 (Dat.mul 2 s1.1)) fun x3 =>
 Dat.bnd (Dat.wrap .i64 (Dat.add s1.2 1)) fun x4 =>
 k2 (x3,x4)
 else some s1.1)) (1,0)
noncomputable def yJ6 : PFn:={ args:=[(.int .i64)],res:=[(.int .i64)],fn:=yW8 }
def vJ0 : List LSpec×List Nat:=([{ id:=9600,known:=true,toks:=[],items:=[.slot 3 (.val (.int .i64)), .slot 4 (.val (.int .i64))],junk:=[5,6,7,10,11,8,9],tails:=[] }],[])
def spt96 : Tab (List LSpec×List Nat):=(.node .leaf none (.node (.node (.node (.node (.node .leaf none (.node .leaf (some vJ0) .leaf)) none .leaf) none .leaf) none .leaf) none .leaf))
def spf96 (f : Nat) : List LSpec×List Nat:=(spt96.get f).getD ([],[])
theorem xK6 : zWf Try.prog cfg 96 yJ6:=fnD spf96 (l:=[]) zWt zQt .nil (fun d=>by kernel_rfl)
noncomputable def yW7 (d0 : Int) : Option Int :=
 Dat.loop (fun (s1 : Int) k2 =>
 Dat.bind (yW8 s1) fun x3 =>
 (bif (Dat.ilt x3 d0) then Dat.bnd (Dat.wrap .i64 (Dat.add s1 1)) fun x4 =>
 k2 x4
 else some s1)) 1
noncomputable def yJ5 : PFn:={ args:=[(.int .i64)],res:=[(.int .i64)],fn:=yW7 }
def vJ2 : List LSpec×List Nat:=([{ id:=9400,known:=true,toks:=[],items:=[.slot 3 (.val (.int .i64))],junk:=[4,5,6,7,8,9],tails:=[] }],[])
def spt94 : Tab (List LSpec×List Nat):=(.node .leaf none (.node .leaf none (.node .leaf none (.node .leaf none (.node .leaf none (.node (.node .leaf (some vJ2) .leaf) none .leaf))))))
def spf94 (f : Nat) : List LSpec×List Nat:=(spt94.get f).getD ([],[])
theorem xK5 : zWf Try.prog cfg 94 yJ5:=fnD spf94 (l:=[(96,yJ6)]) zWt zQt (.cons xK6 .nil) (fun d=>by kernel_rfl)
noncomputable def yZw (d0 : TCf) : Option (List (Int×(Int×(Int×(Int×Unit))))) :=
 if (Dat.EqN 0 (Dat.len ([] : List (Int×(Int×(Int×(Int×Unit))))))) then Dat.loop (fun (s3 : (List (Int×(Int×(Int×(Int×Unit)))))×(Int×Int)) k4 =>
 Dat.bnd (Dat.wrap .i64 (Dat.add 8 s3.2.2)) fun x5 =>
 Dat.bnd (Dat.wrap .i64 (Dat.mul d0.2.2.2.1 x5)) fun x6 =>
 Dat.bnd (Dat.wrap .i64 (Dat.add x6 64)) fun x7 =>
 Dat.bind (yW7 s3.2.1) fun x8 =>
 if (Dat.Le (Dat.addN 0 1) (Dat.len ((s3.2.1,(s3.2.2,(x8,(x7,()))))::([] : List (Int×(Int×(Int×(Int×Unit)))))))) then if (Dat.Big (Dat.len s3.1) (Dat.len (Dat.seg ((s3.2.1,(s3.2.2,(x8,(x7,()))))::([] : List (Int×(Int×(Int×(Int×Unit)))))) 0 1)) 32) then none
 else if (Dat.EqN (Dat.len s3.1) (Dat.len s3.1)) then Dat.bnd (Dat.app s3.1 (Dat.seg ((s3.2.1,(s3.2.2,(x8,(x7,()))))::([] : List (Int×(Int×(Int×(Int×Unit)))))) 0 1)) fun x15 =>
 (bif (Dat.ile s3.2.1 d0.2.2.2.2.2.2.2.2.1) then some x15
 else Dat.bnd (Dat.wrap .i64 (Dat.add s3.2.1 d0.2.2.1)) fun x16 =>
 Dat.bnd (Dat.wrap .i64 (Dat.sub x16 1)) fun x17 =>
 if (Dat.IsZ d0.2.2.1) then none
 else Dat.bnd (Dat.wrap .i64 (Dat.tdiv x17 d0.2.2.1)) fun x20 =>
 Dat.bnd (Dat.wrap .i64 (Dat.mul 4 d0.2.2.1)) fun x21 =>
 if (Dat.EqN (Dat.len x15) (Dat.len x15)) then k4 (x15,(x20,x21))
 else none)
 else none
 else none) (([] : List (Int×(Int×(Int×(Int×Unit))))),(d0.1,d0.2.1))
 else none
noncomputable def xWb : PFn:={ args:=[(.pair (.int .i64) (.pair (.int .i64) (.pair (.int .i64) (.pair (.int .i64) (.pair (.int .i64) (.pair (.int .i64) (.pair (.int .i64) (.pair (.int .i64) (.pair (.int .i64) .unit)))))))))],res:=[(.list (.pair (.int .i64) (.pair (.int .i64) (.pair (.int .i64) (.pair (.int .i64) .unit)))))],fn:=yZw }
def vJ4 : List LSpec×List Nat:=([{ id:=8400,known:=true,toks:=[(3,(.pair (.int .i64) (.pair (.int .i64) (.pair (.int .i64) (.pair (.int .i64) .unit)))))],items:=[.slot 3 (.slt (.pair (.int .i64) (.pair (.int .i64) (.pair (.int .i64) (.pair (.int .i64) .unit)))) (some 1000003) false), .slot 4 (.val (.int .i64)), .slot 5 (.val (.int .i64))],junk:=[10,11,12,13,14,15,16,17,18,19,20,21,22,23,24,25,26,27,28,2,29,30,31,32,33,34,35,36,37,38,39],tails:=[(1000003,3)] }],[])
def spt84 : Tab (List LSpec×List Nat):=(.node .leaf none (.node (.node .leaf none (.node (.node .leaf none (.node (.node .leaf (some vJ4) .leaf) none .leaf)) none .leaf)) none .leaf))
def spf84 (f : Nat) : List LSpec×List Nat:=(spt84.get f).getD ([],[])
theorem xY4 : zWf Try.prog cfg 84 xWb:=fnD spf84 (l:=[(94,yJ5)]) zWt zQt (.cons xK5 .nil) (fun d=>by kernel_rfl)
noncomputable def yQ6 (d0 : TCf) : Option Bool :=
 Dat.bind (zJi (d0.1,(d0.2.1,(d0.2.2.1,(d0.2.2.2.1,(d0.2.2.2.2.1,(d0.2.2.2.2.2.1,(d0.2.2.2.2.2.2.1,(d0.2.2.2.2.2.2.2.1,(d0.2.2.2.2.2.2.2.2.1,())))))))))) fun x1 =>
 (bif x1 then Dat.bind (yZw (d0.1,(d0.2.1,(d0.2.2.1,(d0.2.2.2.1,(d0.2.2.2.2.1,(d0.2.2.2.2.2.1,(d0.2.2.2.2.2.2.1,(d0.2.2.2.2.2.2.2.1,(d0.2.2.2.2.2.2.2.2.1,())))))))))) fun x2 =>
 some (Dat.zQg true (Dat.ile (Dat.ofN (Dat.len x2)) 4) false)
 else some false)
noncomputable def yX6 : PFn:={ args:=[(.pair (.int .i64) (.pair (.int .i64) (.pair (.int .i64) (.pair (.int .i64) (.pair (.int .i64) (.pair (.int .i64) (.pair (.int .i64) (.pair (.int .i64) (.pair (.int .i64) .unit)))))))))],res:=[.bool],fn:=yQ6 }
theorem yJ0 : zWf Try.prog cfg 56 yX6:=fnD sp0 (l:=[(83,yWc),(84,xWb)]) zWt zQt (.cons yYu (.cons xY4 .nil)) (fun d=>by kernel_rfl)
noncomputable def zW4 (d0 : TFr) : Option Bool :=
 Dat.loop (fun (s1 : Int) k2 =>
 (bif (Dat.ilt s1 (Dat.ofN (Dat.len d0.2.2.2.1))) then if (Dat.Ix s1 (Dat.len d0.2.2.2.1)) then Dat.bnd (Dat.get d0.2.2.2.1 (Dat.toN s1) 0) fun x5 =>
 (bif (Dat.igt x5 0) then some true
 else Dat.bnd (Dat.wrap .i64 (Dat.add s1 1)) fun x6 =>
 k2 x6)
 else none
 else some false)) 0
noncomputable def zYg : PFn:={ args:=[(.pair (.int .u8) (.pair (.int .i64) (.pair (.list (.int .u8)) (.pair (.list (.int .i64)) (.pair .bool (.pair .bool .unit))))))],res:=[.bool],fn:=zW4 }
def vJ5 : List LSpec×List Nat:=([{ id:=7200,known:=true,toks:=[],items:=[.slot 3 (.val (.int .i64))],junk:=[4,5,6,7,8,11,12,13,14,15,16,2,9,10],tails:=[] }],[])
def spt72 : Tab (List LSpec×List Nat):=(.node .leaf none (.node (.node (.node .leaf none (.node (.node (.node .leaf (some vJ5) .leaf) none .leaf) none .leaf)) none .leaf) none .leaf))
def spf72 (f : Nat) : List LSpec×List Nat:=(spt72.get f).getD ([],[])
theorem yQ9 : zWf Try.prog cfg 72 zYg:=fnD spf72 (l:=[]) zWt zQt .nil (fun d=>by kernel_rfl)
noncomputable def yZq (d0 : TCf×TFr) : Option Bool :=
 (bif (Dat.ine (Dat.ofN (Dat.len d0.2.2.2.2.1)) d0.1.2.2.2.2.2.2.1) then some false
 else Dat.loop (fun (s1 : Int) k2 =>
 (bif (Dat.ilt s1 (Dat.ofN (Dat.len d0.2.2.2.2.1))) then if (Dat.Ix s1 (Dat.len d0.2.2.2.2.1)) then Dat.bnd (Dat.get d0.2.2.2.2.1 (Dat.toN s1) 0) fun x5 =>
 (bif (Dat.ilt x5 0) then some false
 else if (Dat.Ix s1 (Dat.len d0.2.2.2.2.1)) then Dat.bnd (Dat.get d0.2.2.2.2.1 (Dat.toN s1) 0) fun x8 =>
 (bif (Dat.zQg false true (Dat.igt x8 8)) then some false
 else Dat.bnd (Dat.wrap .i64 (Dat.add s1 1)) fun x9 =>
 k2 x9)
 else none)
 else none
 else (bif (Dat.ieq d0.2.1 0) then (bif (Dat.ieq d0.2.2.1 0) then (bif (Dat.zQg true (Dat.ieq (Dat.ofN (Dat.len d0.2.2.2.1)) 0) false) then Dat.bind (zW4 (d0.2.1,(d0.2.2.1,(d0.2.2.2.1,(d0.2.2.2.2.1,(d0.2.2.2.2.2.1,(d0.2.2.2.2.2.2.1,()))))))) fun x10 =>
 (bif (Dat.zQg true (Dat.bnot x10) false) then (bif (Dat.zQg true (Dat.bnot d0.2.2.2.2.2.1) false) then some (Dat.zQg true (Dat.bnot d0.2.2.2.2.2.2.1) false)
 else some false)
 else some false)
 else some false)
 else some false)
 else (bif (Dat.ieq d0.2.1 1) then (bif (Dat.ige d0.2.2.1 0) then (bif (Dat.zQg true (Dat.ilt d0.2.2.1 d0.1.1) false) then (bif (Dat.zQg true (Dat.ieq (Dat.ofN (Dat.len d0.2.2.2.1)) 0) false) then (bif (Dat.zQg true (Dat.bnot d0.2.2.2.2.2.2.1) false) then Dat.bind (zW4 (d0.2.1,(d0.2.2.1,(d0.2.2.2.1,(d0.2.2.2.2.1,(d0.2.2.2.2.2.1,(d0.2.2.2.2.2.2.1,()))))))) fun x11 =>
 some (Dat.zQg true x11 false)
 else some false)
 else some false)
 else some false)
 else some false)
 else (bif (Dat.ieq d0.2.1 2) then (bif (Dat.zQg true (Dat.ige d0.2.2.1 0) false) then (bif (Dat.zQg true (Dat.ilt d0.2.2.1 d0.1.1) false) then some (Dat.zQg true (Dat.ieq (Dat.ofN (Dat.len d0.2.2.2.1)) d0.1.2.1) false)
 else some false)
 else some false)
 else some false))))) 0)
noncomputable def xQ8 : PFn:={ args:=[(.pair (.int .i64) (.pair (.int .i64) (.pair (.int .i64) (.pair (.int .i64) (.pair (.int .i64) (.pair (.int .i64) (.pair (.int .i64) (.pair (.int .i64) (.pair (.int .i64) .unit))))))))),(.pair (.int .u8) (.pair (.int .i64) (.pair (.list (.int .u8)) (.pair (.list (.int .i64)) (.pair .bool (.pair .bool .unit))))))],res:=[.bool],fn:=yZq }
def vJ3 : List LSpec×List Nat:=([{ id:=8700,known:=true,toks:=[],items:=[.slot 5 (.val (.int .i64))],junk:=[12,13,14,15,16,19,20,21,22,23,24,25,26,27,28,29,30,31,32,4,17,18],tails:=[] }],[])
def spt87 : Tab (List LSpec×List Nat):=(.node (.node (.node (.node .leaf none (.node .leaf none (.node (.node .leaf (some vJ3) .leaf) none .leaf))) none .leaf) none .leaf) none .leaf)
def spf87 (f : Nat) : List LSpec×List Nat:=(spt87.get f).getD ([],[])
theorem xY1 : zWf Try.prog cfg 87 xQ8:=fnD spf87 (l:=[(72,zYg)]) zWt zQt (.cons yQ9 .nil) (fun d=>by kernel_rfl)
noncomputable def yQ5 (d0 : TCf×((List TFr)×(Int×Unit))) : Option Bool :=
 (bif (Dat.ine (Dat.ofN (Dat.len d0.2.1)) d0.1.2.2.2.2.2.1) then some false
 else (bif (Dat.zQg false true (Dat.ilt d0.2.2.1 0)) then some false
 else (bif (Dat.zQg false true (Dat.ige d0.2.2.1 (Dat.ofN (Dat.len d0.2.1)))) then some false
 else Dat.loop (fun (s1 : Int) k2 =>
 (bif (Dat.ilt s1 (Dat.ofN (Dat.len d0.2.1))) then if (Dat.Ix s1 (Dat.len d0.2.1)) then Dat.bnd (Dat.get d0.2.1 (Dat.toN s1) zFr) fun x5 =>
 Dat.bind (yZq ((pCf d0.1),(x5.1,(x5.2.1,(x5.2.2.1,(x5.2.2.2.1,(x5.2.2.2.2.1,(x5.2.2.2.2.2.1,())))))))) fun x6 =>
 (bif (Dat.bnot x6) then some false
 else Dat.loop (fun (s7 : Int) k8 =>
 (bif (Dat.ilt s7 s1) then if (Dat.Ix s1 (Dat.len d0.2.1)) then Dat.bnd (Dat.get d0.2.1 (Dat.toN s1) zFr) fun x11 =>
 (bif (Dat.ine x11.1 0) then if (Dat.Ix s7 (Dat.len d0.2.1)) then Dat.bnd (Dat.get d0.2.1 (Dat.toN s7) zFr) fun x14 =>
 (bif (Dat.zQg true (Dat.ine x14.1 0) false) then if (Dat.Ix s1 (Dat.len d0.2.1)) then Dat.bnd (Dat.get d0.2.1 (Dat.toN s1) zFr) fun x17 =>
 if (Dat.Ix s7 (Dat.len d0.2.1)) then Dat.bnd (Dat.get d0.2.1 (Dat.toN s7) zFr) fun x20 =>
 (bif (Dat.zQg true (Dat.ieq x17.2.1 x20.2.1) false) then some false
 else Dat.bnd (Dat.wrap .i64 (Dat.add s7 1)) fun x21 =>
 k8 x21)
 else none
 else none
 else Dat.bnd (Dat.wrap .i64 (Dat.add s7 1)) fun x22 =>
 k8 x22)
 else none
 else Dat.bnd (Dat.wrap .i64 (Dat.add s7 1)) fun x23 =>
 k8 x23)
 else none
 else Dat.bnd (Dat.wrap .i64 (Dat.add s1 1)) fun x24 =>
 k2 x24)) 0)
 else none
 else some true)) 0)))
noncomputable def xWa : PFn:={ args:=[(.pair (.int .i64) (.pair (.int .i64) (.pair (.int .i64) (.pair (.int .i64) (.pair (.int .i64) (.pair (.int .i64) (.pair (.int .i64) (.pair (.int .i64) (.pair (.int .i64) .unit))))))))),(.pair (.list (.pair (.int .u8) (.pair (.int .i64) (.pair (.list (.int .u8)) (.pair (.list (.int .i64)) (.pair .bool (.pair .bool .unit))))))) (.pair (.int .i64) .unit))],res:=[.bool],fn:=yQ5 }
def vYc : List LSpec×List Nat:=([{ id:=6600,known:=true,toks:=[],items:=[.slot 5 (.val (.int .i64))],junk:=[26,27,28,29,30,33,34,35,36,37,38,39,40,4,6,41,42,43,46,47,48,49,50,51,52,53,54,55,56,57,58,59,60,61,62,63,64,65,66,67,68,69,70,71,72,73,74,75,76,44,45,31,32],tails:=[] },{ id:=6601,known:=true,toks:=[],items:=[.slot 6 (.val (.int .i64))],junk:=[41,42,43,46,47,48,49,50,51,52,53,54,55,56,57,58,59,60,61,62,63,64,65,66,67,68,69,70,71,72,73,74,75,76,4,44,45],tails:=[] }],[])
def spt66 : Tab (List LSpec×List Nat):=(.node .leaf none (.node .leaf none (.node (.node (.node (.node (.node .leaf (some vYc) .leaf) none .leaf) none .leaf) none .leaf) none .leaf)))
def spf66 (f : Nat) : List LSpec×List Nat:=(spt66.get f).getD ([],[])
theorem xY3 : zWf Try.prog cfg 66 xWa:=fnD spf66 (l:=[(87,xQ8)]) zWt zQt (.cons xY1 .nil) (fun d=>by kernel_rfl)
noncomputable def zZu (d0 : TCf×((List TFr)×(Int×Unit))) : Option Int :=
 Dat.bind (yQ6 (pCf d0.1)) fun x1 =>
 (bif (Dat.bnot x1) then some 8
 else Dat.bind (yQ5 ((pCf d0.1),(d0.2.1,(d0.2.2.1,())))) fun x2 =>
 (bif (Dat.zQg false true (Dat.bnot x2)) then some 8
 else some 0))
noncomputable def zZ9 : PFn:={ args:=[(.pair (.int .i64) (.pair (.int .i64) (.pair (.int .i64) (.pair (.int .i64) (.pair (.int .i64) (.pair (.int .i64) (.pair (.int .i64) (.pair (.int .i64) (.pair (.int .i64) .unit))))))))),(.pair (.list (.pair (.int .u8) (.pair (.int .i64) (.pair (.list (.int .u8)) (.pair (.list (.int .i64)) (.pair .bool (.pair .bool .unit))))))) (.pair (.int .i64) .unit))],res:=[(.int .i64)],fn:=zZu }
theorem zKr : zWf Try.prog cfg 30 zZ9:=fnD sp0 (l:=[(56,yX6),(66,xWa)]) zWt zQt (.cons yJ0 (.cons xY3 .nil)) (fun d=>by kernel_rfl)
noncomputable def zZb (d0 : TFr) : Option TFr :=
 if (Dat.Le (Dat.addN 0 0) (Dat.len ([] : List Int))) then if (Dat.EqN (Dat.len d0.2.2.1) 0) then if (Dat.Le (Dat.addN 0 0) (Dat.len ([] : List Int))) then if (Dat.EqN (Dat.len d0.2.2.2.1) 0) then if (Dat.Le (Dat.addN 0 0) (Dat.len ([] : List Int))) then if (Dat.Le (Dat.addN 0 0) (Dat.len ([] : List Int))) then some (d0.1,(d0.2.1,((Dat.seg ([] : List Int) 0 0),((Dat.seg ([] : List Int) 0 0),(d0.2.2.2.2.1,(d0.2.2.2.2.2.1,()))))))
 else none
 else none
 else if (Dat.Big (Dat.len (Dat.seg ([] : List Int) 0 0)) (Dat.len d0.2.2.2.1) 8) then none
 else Dat.bnd (Dat.app (Dat.seg ([] : List Int) 0 0) d0.2.2.2.1) fun x15 =>
 if (Dat.Le (Dat.addN 0 0) (Dat.len ([] : List Int))) then if (Dat.Le (Dat.addN 0 (Dat.len x15)) (Dat.len x15)) then some (d0.1,(d0.2.1,((Dat.seg ([] : List Int) 0 0),((Dat.seg x15 0 (Dat.len x15)),(d0.2.2.2.2.1,(d0.2.2.2.2.2.1,()))))))
 else none
 else none
 else none
 else if (Dat.Big (Dat.len (Dat.seg ([] : List Int) 0 0)) (Dat.len d0.2.2.1) 1) then none
 else Dat.bnd (Dat.app (Dat.seg ([] : List Int) 0 0) d0.2.2.1) fun x22 =>
 if (Dat.Le (Dat.addN 0 0) (Dat.len ([] : List Int))) then if (Dat.EqN (Dat.len d0.2.2.2.1) 0) then if (Dat.Le (Dat.addN 0 (Dat.len x22)) (Dat.len x22)) then if (Dat.Le (Dat.addN 0 0) (Dat.len ([] : List Int))) then some (d0.1,(d0.2.1,((Dat.seg x22 0 (Dat.len x22)),((Dat.seg ([] : List Int) 0 0),(d0.2.2.2.2.1,(d0.2.2.2.2.2.1,()))))))
 else none
 else none
 else if (Dat.Big (Dat.len (Dat.seg ([] : List Int) 0 0)) (Dat.len d0.2.2.2.1) 8) then none
 else Dat.bnd (Dat.app (Dat.seg ([] : List Int) 0 0) d0.2.2.2.1) fun x33 =>
 if (Dat.Le (Dat.addN 0 (Dat.len x22)) (Dat.len x22)) then if (Dat.Le (Dat.addN 0 (Dat.len x33)) (Dat.len x33)) then some (d0.1,(d0.2.1,((Dat.seg x22 0 (Dat.len x22)),((Dat.seg x33 0 (Dat.len x33)),(d0.2.2.2.2.1,(d0.2.2.2.2.2.1,()))))))
 else none
 else none
 else none
 else none
noncomputable def zYt : PFn:={ args:=[(.pair (.int .u8) (.pair (.int .i64) (.pair (.list (.int .u8)) (.pair (.list (.int .i64)) (.pair .bool (.pair .bool .unit))))))],res:=[(.pair (.int .u8) (.pair (.int .i64) (.pair (.list (.int .u8)) (.pair (.list (.int .i64)) (.pair .bool (.pair .bool .unit))))))],fn:=zZb }
def vYm : List LSpec×List Nat:=([],[1,2])
def spt55 : Tab (List LSpec×List Nat):=(.node (.node (.node (.node .leaf none (.node .leaf none (.node .leaf (some vYm) .leaf))) none .leaf) none .leaf) none .leaf)
def spf55 (f : Nat) : List LSpec×List Nat:=(spt55.get f).getD ([],[])
noncomputable def zYu : OFn:={ args:=[(.pair (.int .u8) (.pair (.int .i64) (.pair (.list (.int .u8)) (.pair (.list (.int .i64)) (.pair .bool (.pair .bool .unit))))))],ores:=[(.pair (.plain (.int .u8)) (.pair (.plain (.int .i64)) (.pair (.own (.int .u8)) (.pair (.own (.int .i64)) (.pair (.plain .bool) (.pair (.plain .bool) (.plain .unit)))))))],fn:=zZb }
theorem yKb : OwnD Try.prog cfg 55 zYu∧zWf Try.prog cfg 55 zYu.pfn:=fnO spf55 [] (l:=[]) (lo:=[]) zWt zQt .nil .nil (fun d=>by kernel_rfl)
theorem yZz : zWf Try.prog cfg 55 zYt:=yKb.2
noncomputable def zJm (d0 : (List TFr)×(Int×Unit)) : Option ((List TFr)×(Int×Unit)) :=
 Dat.loop (fun (s1 : Int×((List (List TFr))×((MixE TFr)×Int))) k2 =>
 (bif (Dat.ilt s1.1 (Dat.ofN (Dat.len d0.1))) then if (Dat.Ix s1.1 (Dat.len d0.1)) then Dat.bnd (Dat.get d0.1 (Dat.toN s1.1) zFr) fun x5 =>
 Dat.bind (zZb (x5.1,(x5.2.1,(x5.2.2.1,(x5.2.2.2.1,(x5.2.2.2.2.1,(x5.2.2.2.2.2.1,()))))))) fun x6 =>
 if (Dat.Le (Dat.addN 0 1) (Dat.len ((x6.1,(x6.2.1,(x6.2.2.1,(x6.2.2.2.1,(x6.2.2.2.2.1,(x6.2.2.2.2.2.1,()))))))::([] : List TFr)))) then if (Dat.XGr s1.2.1 s1.2.2.1) then if (Dat.EqN (Dat.len (Dat.seg ((x6.1,(x6.2.1,(x6.2.2.1,(x6.2.2.2.1,(x6.2.2.2.2.1,(x6.2.2.2.2.2.1,()))))))::([] : List TFr)) 0 1)) 0) then Dat.bnd (Dat.wrap .i64 (Dat.add s1.1 1)) fun x13 =>
 k2 (x13,(s1.2.1,(s1.2.2.1,s1.2.2.2)))
 else if (Dat.Big (Dat.xlen s1.2.2.1) (Dat.len (Dat.seg ((x6.1,(x6.2.1,(x6.2.2.1,(x6.2.2.2.1,(x6.2.2.2.2.1,(x6.2.2.2.2.2.1,()))))))::([] : List TFr)) 0 1)) 72) then none
 else Dat.bnd (Dat.xapp s1.2.1 s1.2.2.1 (Dat.seg ((x6.1,(x6.2.1,(x6.2.2.1,(x6.2.2.2.1,(x6.2.2.2.2.1,(x6.2.2.2.2.2.1,()))))))::([] : List TFr)) 0 1)) fun x16 =>
 Dat.bnd (Dat.vX4 s1.2.2.1 (Dat.len (Dat.seg ((x6.1,(x6.2.1,(x6.2.2.1,(x6.2.2.2.1,(x6.2.2.2.2.1,(x6.2.2.2.2.2.1,()))))))::([] : List TFr)) 0 1))) fun x17 =>
 Dat.bnd (Dat.wrap .i64 (Dat.add s1.1 1)) fun x18 =>
 k2 (x18,(x16,(x17,s1.2.2.2)))
 else none
 else none
 else none
 else if (Dat.XW s1.2.1 s1.2.2.1) then Dat.bnd (Dat.xget s1.2.1 s1.2.2.1) fun x21 =>
 some (x21,(s1.2.2.2,()))
 else none)) (0,((([] : List TFr)::([] : List (List TFr))),((Dat.xnew (α:=TFr) 0 0),d0.2.1)))
noncomputable def yWb : PFn:={ args:=[(.pair (.list (.pair (.int .u8) (.pair (.int .i64) (.pair (.list (.int .u8)) (.pair (.list (.int .i64)) (.pair .bool (.pair .bool .unit))))))) (.pair (.int .i64) .unit))],res:=[(.pair (.list (.pair (.int .u8) (.pair (.int .i64) (.pair (.list (.int .u8)) (.pair (.list (.int .i64)) (.pair .bool (.pair .bool .unit))))))) (.pair (.int .i64) .unit))],fn:=zJm }
def vYz : List LSpec×List Nat:=([{ id:=2200,known:=true,toks:=[(7002000,(.pair (.int .u8) (.pair (.int .i64) (.pair (.list (.int .u8)) (.pair (.list (.int .i64)) (.pair .bool (.pair .bool .unit)))))))],items:=[.slot 4 (.val (.int .i64)), .rows 2002000 (.pair (.int .u8) (.pair (.int .i64) (.pair (.list (.int .u8)) (.pair (.list (.int .i64)) (.pair .bool (.pair .bool .unit)))))), .cells 1000003 [.val (.mix 2002000 (.pair (.int .u8) (.pair (.int .i64) (.pair (.list (.int .u8)) (.pair (.list (.int .i64)) (.pair .bool (.pair .bool .unit))))))), .val (.int .i64)]],junk:=[8,9,10,11,12,15,16,17,18,19,20,21,22,23,24,25,13,14],tails:=[] }],[])
def spt22 : Tab (List LSpec×List Nat):=(.node .leaf none (.node .leaf none (.node .leaf none (.node (.node .leaf (some vYz) .leaf) none .leaf))))
def spf22 (f : Nat) : List LSpec×List Nat:=(spt22.get f).getD ([],[])
noncomputable def yWj : OFn:={ args:=[(.pair (.list (.pair (.int .u8) (.pair (.int .i64) (.pair (.list (.int .u8)) (.pair (.list (.int .i64)) (.pair .bool (.pair .bool .unit))))))) (.pair (.int .i64) .unit))],ores:=[(.pair (.own (.pair (.int .u8) (.pair (.int .i64) (.pair (.list (.int .u8)) (.pair (.list (.int .i64)) (.pair .bool (.pair .bool .unit))))))) (.pair (.plain (.int .i64)) (.plain .unit)))],fn:=zJm }
theorem yKc : OwnD Try.prog cfg 22 yWj∧zWf Try.prog cfg 22 yWj.pfn:=fnO spf22 [] (l:=[(55,zYt)]) (lo:=[]) zWt zQt (.cons yZz .nil) .nil (fun d=>by kernel_rfl)
theorem yZ0 : zWf Try.prog cfg 22 yWb:=yKc.2
noncomputable def yW9 (d0 : List Int×(List Int)) : Option Bool :=
 Dat.bnd (Dat.str d0.1) fun x1 =>
 Dat.bnd (Dat.str d0.2) fun x2 =>
 some (Dat.seq x1 x2)
noncomputable def yJ7 : PFn:={ args:=[(.list (.int .u8)),(.list (.int .u8))],res:=[.bool],fn:=yW9 }
theorem xK7 : zWf Try.prog cfg 39 yJ7:=fnD sp0 (l:=[]) zWt zQt .nil (fun d=>by kernel_rfl)
noncomputable def zX4 (d0 : List Int×(List Int)) : Option Bool :=
 (bif (Dat.ine (Dat.ofN (Dat.len d0.1)) (Dat.ofN (Dat.len d0.2))) then some false
 else Dat.loop (fun (s1 : Int) k2 =>
 (bif (Dat.ilt s1 (Dat.ofN (Dat.len d0.1))) then if (Dat.Ix s1 (Dat.len d0.1)) then Dat.bnd (Dat.get d0.1 (Dat.toN s1) 0) fun x5 =>
 if (Dat.Ix s1 (Dat.len d0.2)) then Dat.bnd (Dat.get d0.2 (Dat.toN s1) 0) fun x8 =>
 (bif (Dat.ine x5 x8) then some false
 else Dat.bnd (Dat.wrap .i64 (Dat.add s1 1)) fun x9 =>
 k2 x9)
 else none
 else none
 else some true)) 0)
noncomputable def zKz : PFn:={ args:=[(.list (.int .i64)),(.list (.int .i64))],res:=[.bool],fn:=zX4 }
def vY3 : List LSpec×List Nat:=([{ id:=1900,known:=true,toks:=[],items:=[.slot 5 (.val (.int .i64))],junk:=[11,12,13,14,17,18,19,20,21,22,23,24,25,4,15,16],tails:=[] }],[])
def spt19 : Tab (List LSpec×List Nat):=(.node (.node (.node .leaf none (.node (.node .leaf (some vY3) .leaf) none .leaf)) none .leaf) none .leaf)
def spf19 (f : Nat) : List LSpec×List Nat:=(spt19.get f).getD ([],[])
theorem zYr : zWf Try.prog cfg 19 zKz:=fnD spf19 (l:=[]) zWt zQt .nil (fun d=>by kernel_rfl)
noncomputable def zXc (d0 : ((List TFr)×(Int×Unit))×((List TFr)×(Int×Unit))) : Option Bool :=
 (bif (Dat.ine (Dat.ofN (Dat.len d0.1.1)) (Dat.ofN (Dat.len d0.2.1))) then some false
 else (bif (Dat.zQg false true (Dat.ine d0.1.2.1 d0.2.2.1)) then some false
 else Dat.loop (fun (s1 : Int) k2 =>
 (bif (Dat.ilt s1 (Dat.ofN (Dat.len d0.1.1))) then if (Dat.Ix s1 (Dat.len d0.1.1)) then Dat.bnd (Dat.get d0.1.1 (Dat.toN s1) zFr) fun x5 =>
 if (Dat.Ix s1 (Dat.len d0.2.1)) then Dat.bnd (Dat.get d0.2.1 (Dat.toN s1) zFr) fun x8 =>
 (bif (Dat.ine x5.1 x8.1) then some false
 else (bif (Dat.zQg false true (Dat.ine x5.2.1 x8.2.1)) then some false
 else Dat.bind (yW9 (x5.2.2.1,x8.2.2.1)) fun x9 =>
 (bif (Dat.zQg false true (Dat.bnot x9)) then some false
 else Dat.bind (zX4 (x5.2.2.2.1,x8.2.2.2.1)) fun x10 =>
 (bif (Dat.zQg false true (Dat.bnot x10)) then some false
 else (bif (Dat.zQg false true (Dat.bnot (Dat.beq x5.2.2.2.2.1 x8.2.2.2.2.1))) then some false
 else (bif (Dat.zQg false true (Dat.bnot (Dat.beq x5.2.2.2.2.2.1 x8.2.2.2.2.2.1))) then some false
 else Dat.bnd (Dat.wrap .i64 (Dat.add s1 1)) fun x11 =>
 k2 x11))))))
 else none
 else none
 else some true)) 0))
noncomputable def yJ1 : PFn:={ args:=[(.pair (.list (.pair (.int .u8) (.pair (.int .i64) (.pair (.list (.int .u8)) (.pair (.list (.int .i64)) (.pair .bool (.pair .bool .unit))))))) (.pair (.int .i64) .unit)),(.pair (.list (.pair (.int .u8) (.pair (.int .i64) (.pair (.list (.int .u8)) (.pair (.list (.int .i64)) (.pair .bool (.pair .bool .unit))))))) (.pair (.int .i64) .unit))],res:=[.bool],fn:=zXc }
def vYv : List LSpec×List Nat:=([{ id:=2800,known:=true,toks:=[],items:=[.slot 5 (.val (.int .i64))],junk:=[22,23,24,25,26,29,30,31,32,33,34,35,36,37,38,6,7,39,40,41,42,43,44,45,46,47,48,49,50,51,52,53,54,55,56,57,58,59,60,61,62,63,64,65,66,67,68,69,70,71,72,73,74,75,76,77,78,79,80,4,27,28],tails:=[] }],[])
def spt28 : Tab (List LSpec×List Nat):=(.node .leaf none (.node (.node .leaf none (.node .leaf none (.node .leaf (some vYv) .leaf))) none .leaf))
def spf28 (f : Nat) : List LSpec×List Nat:=(spt28.get f).getD ([],[])
theorem xK1 : zWf Try.prog cfg 28 yJ1:=fnD spf28 (l:=[(39,yJ7),(19,zKz)]) zWt zQt (.cons xK7 (.cons zYr .nil)) (fun d=>by kernel_rfl)
abbrev SpT : Type:=Int×((List (List Int))×((List (List Int))×(List (List TMf))))
@[reducible] noncomputable def spB {β : Type} (MM : MixE TMf) (fin : SpT→Option β) (s0 : SpT) (k0 : SpT→Option β) : Option β :=
 (bif (Dat.ilt s0.1 (Dat.ofN (Dat.xlen MM))) then if (Dat.Ix s0.1 (Dat.xlen MM)) then if (Dat.XPt s0.2.2.2 MM (Dat.toN s0.1)) then if (Dat.XPt s0.2.2.2 MM (Dat.toN s0.1)) then if (Dat.XPt s0.2.2.2 MM (Dat.toN s0.1)) then Dat.bnd (Dat.xat s0.2.2.2 MM (Dat.toN s0.1) zMf) fun x1 =>
 Dat.bnd (Dat.xset s0.2.2.2 MM (Dat.toN s0.1) (x1.1,((-7),(x1.2.2.1,(x1.2.2.2.1,(x1.2.2.2.2.1,(x1.2.2.2.2.2.1,()))))))) fun x2 =>
 Dat.loop (fun (s3 : Int×(List (List Int))) k4 =>
 if (Dat.Ix s0.1 (Dat.xlen MM)) then if (Dat.XPt x2 MM (Dat.toN s0.1)) then if (Dat.XPt x2 MM (Dat.toN s0.1)) then if (Dat.XPt x2 MM (Dat.toN s0.1)) then Dat.bnd (Dat.xat x2 MM (Dat.toN s0.1) zMf) fun x5 =>
 (bif (Dat.ilt s3.1 (Dat.ofN (Dat.xlen x5.2.2.1))) then if (Dat.Ix s0.1 (Dat.xlen MM)) then if (Dat.XPt x2 MM (Dat.toN s0.1)) then if (Dat.XPt x2 MM (Dat.toN s0.1)) then if (Dat.XPt x2 MM (Dat.toN s0.1)) then Dat.bnd (Dat.xat x2 MM (Dat.toN s0.1) zMf) fun x6 =>
 if (Dat.Ix s0.1 (Dat.xlen MM)) then if (Dat.XPt x2 MM (Dat.toN s0.1)) then if (Dat.XPt x2 MM (Dat.toN s0.1)) then if (Dat.XPt x2 MM (Dat.toN s0.1)) then Dat.bnd (Dat.xat x2 MM (Dat.toN s0.1) zMf) fun x7 =>
 if (Dat.Ix s3.1 (Dat.xlen x7.2.2.1)) then if (Dat.XPt s3.2 x7.2.2.1 (Dat.toN s3.1)) then if (Dat.XPt s3.2 x7.2.2.1 (Dat.toN s3.1)) then Dat.bnd (Dat.xat s3.2 x7.2.2.1 (Dat.toN s3.1) 0) fun x8 =>
 Dat.bnd (Dat.wrap .u8 (Dat.add x8 1)) fun x9 =>
 if (Dat.Ix s3.1 (Dat.xlen x6.2.2.1)) then if (Dat.XPt s3.2 x6.2.2.1 (Dat.toN s3.1)) then if (Dat.XPt s3.2 x6.2.2.1 (Dat.toN s3.1)) then Dat.bnd (Dat.xset s3.2 x6.2.2.1 (Dat.toN s3.1) x9) fun x10 =>
 Dat.bnd (Dat.wrap .i64 (Dat.add s3.1 1)) fun x11 =>
 k4 (x11,x10)
 else none
 else none
 else none
 else none
 else none
 else none
 else none
 else none
 else none
 else none
 else none
 else none
 else none
 else none
 else Dat.loop (fun (s12 : Int×(List (List Int))) k13 =>
 if (Dat.Ix s0.1 (Dat.xlen MM)) then if (Dat.XPt x2 MM (Dat.toN s0.1)) then if (Dat.XPt x2 MM (Dat.toN s0.1)) then if (Dat.XPt x2 MM (Dat.toN s0.1)) then Dat.bnd (Dat.xat x2 MM (Dat.toN s0.1) zMf) fun x14 =>
 (bif (Dat.ilt s12.1 (Dat.ofN (Dat.xlen x14.2.2.2.1))) then if (Dat.Ix s0.1 (Dat.xlen MM)) then if (Dat.XPt x2 MM (Dat.toN s0.1)) then if (Dat.XPt x2 MM (Dat.toN s0.1)) then if (Dat.XPt x2 MM (Dat.toN s0.1)) then Dat.bnd (Dat.xat x2 MM (Dat.toN s0.1) zMf) fun x15 =>
 if (Dat.Ix s12.1 (Dat.xlen x15.2.2.2.1)) then if (Dat.XPt s12.2 x15.2.2.2.1 (Dat.toN s12.1)) then if (Dat.XPt s12.2 x15.2.2.2.1 (Dat.toN s12.1)) then Dat.bnd (Dat.xset s12.2 x15.2.2.2.1 (Dat.toN s12.1) (-7)) fun x16 =>
 Dat.bnd (Dat.wrap .i64 (Dat.add s12.1 1)) fun x17 =>
 k13 (x17,x16)
 else none
 else none
 else none
 else none
 else none
 else none
 else none
 else Dat.bnd (Dat.wrap .i64 (Dat.add s0.1 1)) fun x18 =>
 k0 (x18,(s12.2,(s3.2,x2))))
 else none
 else none
 else none
 else none) (0,s0.2.1))
 else none
 else none
 else none
 else none) (0,s0.2.2.1)
 else none
 else none
 else none
 else none
 else fin s0)
@[reducible] noncomputable def vwF (P Q : List (List Int)) (e : TMf) : Option TFr :=
 if (Dat.XOk P e.2.2.1) then Dat.bnd (Dat.xget P e.2.2.1) fun x=>if (Dat.XOk Q e.2.2.2.1) then Dat.bnd (Dat.xget Q e.2.2.2.1) fun y=>some (e.1,(e.2.1,(x,(y,(e.2.2.2.2.1,(e.2.2.2.2.2.1,e.2.2.2.2.2.2))))))
 else none
 else none
noncomputable def yQi (d0 : TCf×(((List TFr)×(Int×Unit))×Int)) : Option (Int×Bool) :=
 Dat.bind (zXi ((pCf d0.1),(d0.2.1.1,(d0.2.1.2.1,())))) fun x1 =>
 (bif (Dat.ine x1 0) then some (0,false)
 else Dat.loop (fun (s2 : Int) k3 =>
 (bif (Dat.ilt s2 (Dat.ofN (Dat.len d0.2.1.1))) then if (Dat.Ix s2 (Dat.len d0.2.1.1)) then Dat.bnd (Dat.get d0.2.1.1 (Dat.toN s2) zFr) fun x6 =>
 (bif (Dat.ine x6.1 0) then (bif (Dat.zQg true (Dat.ieq x6.2.1 d0.2.2) false) then some ((Dat.imax true s2 0),(Dat.ige s2 0))
 else Dat.bnd (Dat.wrap .i64 (Dat.add s2 1)) fun x7 =>
 k3 x7)
 else Dat.bnd (Dat.wrap .i64 (Dat.add s2 1)) fun x8 =>
 k3 x8)
 else none
 else some ((Dat.imax true (-1) 0),(Dat.ige (-1) 0)))) 0)
noncomputable def yZ6 : PFn:={ args:=[(.pair (.int .i64) (.pair (.int .i64) (.pair (.int .i64) (.pair (.int .i64) (.pair (.int .i64) (.pair (.int .i64) (.pair (.int .i64) (.pair (.int .i64) (.pair (.int .i64) .unit))))))))),(.pair (.list (.pair (.int .u8) (.pair (.int .i64) (.pair (.list (.int .u8)) (.pair (.list (.int .i64)) (.pair .bool (.pair .bool .unit))))))) (.pair (.int .i64) .unit)),(.int .i64)],res:=[(.int .i64), .bool],fn:=yQi }
def vY4 : List LSpec×List Nat:=([{ id:=4900,known:=true,toks:=[],items:=[.slot 8 (.val (.int .i64))],junk:=[9,10,5,11,12,13,14,15,16,17,4,18],tails:=[] }],[])
def spt12 : Tab (List LSpec×List Nat):=(.node (.node .leaf none (.node (.node (.node .leaf none (.node .leaf (some vY4) .leaf)) none .leaf) none .leaf)) none .leaf)
def spf12 (f : Nat) : List LSpec×List Nat:=(spt12.get f).getD ([],[])
theorem xXv : zWf Try.prog cfg 12 yZ6:=fnD spf12 (l:=[(29,zZn)]) zWt zQt (.cons zZ6 .nil) (fun d=>by kernel_rfl)
noncomputable def yZu (d0 : ((List TFr)×(Int×Unit))×Int) : Option Int :=
 Dat.loop (fun (s1 : Int) k2 =>
 (bif (Dat.ilt s1 (Dat.ofN (Dat.len d0.1.1))) then if (Dat.Ix s1 (Dat.len d0.1.1)) then Dat.bnd (Dat.get d0.1.1 (Dat.toN s1) zFr) fun x5 =>
 (bif (Dat.ine x5.1 0) then if (Dat.Ix s1 (Dat.len d0.1.1)) then Dat.bnd (Dat.get d0.1.1 (Dat.toN s1) zFr) fun x8 =>
 (bif (Dat.zQg true (Dat.ieq x8.2.1 d0.2) false) then some s1
 else Dat.bnd (Dat.wrap .i64 (Dat.add s1 1)) fun x9 =>
 k2 x9)
 else none
 else Dat.bnd (Dat.wrap .i64 (Dat.add s1 1)) fun x10 =>
 k2 x10)
 else none
 else some (-1))) 0
noncomputable def xZv : PFn:={ args:=[(.pair (.list (.pair (.int .u8) (.pair (.int .i64) (.pair (.list (.int .u8)) (.pair (.list (.int .i64)) (.pair .bool (.pair .bool .unit))))))) (.pair (.int .i64) .unit)),(.int .i64)],res:=[(.int .i64)],fn:=yZu }
def vYj : List LSpec×List Nat:=([{ id:=5800,known:=true,toks:=[],items:=[.slot 5 (.val (.int .i64))],junk:=[6,7,8,9,10,13,14,15,16,17,18,19,20,21,22,23,24,25,26,27,28,29,30,4,11,12],tails:=[] }],[])
def spt58 : Tab (List LSpec×List Nat):=(.node .leaf none (.node .leaf none (.node (.node .leaf none (.node .leaf none (.node .leaf (some vYj) .leaf))) none .leaf)))
def spf58 (f : Nat) : List LSpec×List Nat:=(spt58.get f).getD ([],[])
theorem wWx : zWf Try.prog cfg 58 xZv:=fnD spf58 (l:=[]) zWt zQt .nil (fun d=>by kernel_rfl)
noncomputable def zYp (d0 : TCf) : Option TFr :=
 if (Dat.MkOk d0.2.2.2.2.2.2.1 d0.2.2.2.2.2.2.1 8) then if (Dat.Le (Dat.addN 0 (Dat.toN d0.2.2.2.2.2.2.1)) (Dat.len (Dat.rep (α:=Int) (Dat.toN d0.2.2.2.2.2.2.1) 0))) then some (0,(0,(([] : List Int),((Dat.seg (Dat.rep (α:=Int) (Dat.toN d0.2.2.2.2.2.2.1) 0) 0 (Dat.toN d0.2.2.2.2.2.2.1)),(false,(false,()))))))
 else none
 else none
noncomputable def yJ2 : PFn:={ args:=[(.pair (.int .i64) (.pair (.int .i64) (.pair (.int .i64) (.pair (.int .i64) (.pair (.int .i64) (.pair (.int .i64) (.pair (.int .i64) (.pair (.int .i64) (.pair (.int .i64) .unit)))))))))],res:=[(.pair (.int .u8) (.pair (.int .i64) (.pair (.list (.int .u8)) (.pair (.list (.int .i64)) (.pair .bool (.pair .bool .unit))))))],fn:=zYp }
noncomputable def yYd : OFn:={ args:=[(.pair (.int .i64) (.pair (.int .i64) (.pair (.int .i64) (.pair (.int .i64) (.pair (.int .i64) (.pair (.int .i64) (.pair (.int .i64) (.pair (.int .i64) (.pair (.int .i64) .unit)))))))))],ores:=[(.pair (.plain (.int .u8)) (.pair (.plain (.int .i64)) (.pair (.own (.int .u8)) (.pair (.own (.int .i64)) (.pair (.plain .bool) (.pair (.plain .bool) (.plain .unit)))))))],fn:=zYp }
theorem xJe : OwnD Try.prog cfg 85 yYd∧zWf Try.prog cfg 85 yYd.pfn:=fnO sp0 [] (l:=[]) (lo:=[]) zWt zQt .nil .nil (fun d=>by kernel_rfl)
theorem xK2 : zWf Try.prog cfg 85 yJ2:=xJe.2
noncomputable def zJq (d0 : (List TFr)×(Int×Unit)) : Option Bool :=
 Dat.loop (fun (s1 : Int) k2 =>
 (bif (Dat.ilt s1 (Dat.ofN (Dat.len d0.1))) then (bif (Dat.zQg true (Dat.ilt s1 20) false) then if (Dat.Ix s1 (Dat.len d0.1)) then Dat.bnd (Dat.get d0.1 (Dat.toN s1) zFr) fun x5 =>
 (bif (Dat.igt (Dat.ofN (Dat.len x5.2.2.1)) 100) then some true
 else if (Dat.Ix s1 (Dat.len d0.1)) then Dat.bnd (Dat.get d0.1 (Dat.toN s1) zFr) fun x8 =>
 (bif (Dat.zQg false true (Dat.igt (Dat.ofN (Dat.len x8.2.2.2.1)) 20)) then some true
 else Dat.bnd (Dat.wrap .i64 (Dat.add s1 1)) fun x9 =>
 k2 x9)
 else none)
 else none
 else some (Dat.igt (Dat.ofN (Dat.len d0.1)) 20))
 else some (Dat.igt (Dat.ofN (Dat.len d0.1)) 20))) 0
noncomputable def yZ2 : PFn:={ args:=[(.pair (.list (.pair (.int .u8) (.pair (.int .i64) (.pair (.list (.int .u8)) (.pair (.list (.int .i64)) (.pair .bool (.pair .bool .unit))))))) (.pair (.int .i64) .unit))],res:=[.bool],fn:=zJq }
def vY0 : List LSpec×List Nat:=([{ id:=2100,known:=true,toks:=[],items:=[.slot 3 (.val (.int .i64))],junk:=[4,5,6,7,8,9,10,11,12,15,16,17,18,19,20,21,22,23,24,25,26,27,28,29,30,31,32,2,13,14],tails:=[] }],[])
def spt21 : Tab (List LSpec×List Nat):=(.node (.node .leaf none (.node .leaf none (.node (.node .leaf (some vY0) .leaf) none .leaf))) none .leaf)
def spf21 (f : Nat) : List LSpec×List Nat:=(spt21.get f).getD ([],[])
theorem xXr : zWf Try.prog cfg 21 yZ2:=fnD spf21 (l:=[]) zWt zQt .nil (fun d=>by kernel_rfl)
noncomputable def zKc (d0 : TCf×((List TFr)×(Int×Unit))) : Option (((List (List Int))×((List (List Int))×(List (List TMf))))×(((MixE TMf)×(Int×Unit))×(Int×Int))) :=
 Dat.bind (zXi ((pCf d0.1),(d0.2.1,(d0.2.2.1,())))) fun x1 =>
 (bif (Dat.ine x1 0) then some ((([] : List (List Int)),(([] : List (List Int)),([] : List (List TMf)))),(((Dat.xnil (α:=TMf) ),(0,())),(0,x1)))
 else if (Dat.EqN (Dat.len d0.2.1) 0) then none
 else if (Dat.Le (Dat.addN 0 0) (Dat.len ([] : List TFr))) then if (Dat.EqN (Dat.len d0.2.1) 0) then Dat.bind (Dat.mapO (fun e8 =>
 some (e8.1,(e8.2.1,((Dat.zJb e8.2.2.1),((Dat.zJb e8.2.2.2.1),(e8.2.2.2.2.1,(e8.2.2.2.2.2.1,e8.2.2.2.2.2.2))))))) ([] : List TFr)) fun x9 =>
 Dat.loop (twB 0 (fun s10 =>
 Dat.bnd (Dat.wrap .i64 (Dat.mul 2 (Dat.ofN (Dat.len d0.2.1)))) fun x40 =>
 if (Dat.Le (Dat.addN 0 0) (Dat.len s10.1)) then Dat.loop (fun (s43 : Int×((List (List TMf))×((MixE TMf)×Int))) k44 =>
 (bif (Dat.ilt s43.1 x40) then Dat.bnd (Dat.wrap .i64 (Dat.add d0.2.2.1 s43.1)) fun x45 =>
 if (Dat.IsZ (Dat.ofN (Dat.len d0.2.1))) then none
 else Dat.bnd (Dat.tmod x45 (Dat.ofN (Dat.len d0.2.1))) fun x48 =>
 if (Dat.Ix x48 (Dat.xlen s43.2.2.1)) then if (Dat.XPt s43.2.1 s43.2.2.1 (Dat.toN x48)) then if (Dat.XPt s43.2.1 s43.2.2.1 (Dat.toN x48)) then Dat.bnd (Dat.xat s43.2.1 s43.2.2.1 (Dat.toN x48) zMf) fun x55 =>
 (bif (Dat.ieq x55.1 1) then Dat.bnd (Dat.wrap .i64 (Dat.add s43.1 1)) fun x56 =>
 k44 (x56,(s43.2.1,(s43.2.2.1,s43.2.2.2)))
 else if (Dat.XOk s10.2.1 x55.2.2.1) then Dat.bnd (Dat.xget s10.2.1 x55.2.2.1) fun x59 =>
 if (Dat.XOk s10.2.2.1 x55.2.2.2.1) then Dat.bnd (Dat.xget s10.2.2.1 x55.2.2.2.1) fun x62 =>
 Dat.bind (zWl (x55.1,(x55.2.1,(x59,(x62,(x55.2.2.2.2.1,(x55.2.2.2.2.2.1,()))))))) fun x63 =>
 (bif (Dat.zQg false true x63) then Dat.bnd (Dat.wrap .i64 (Dat.add s43.1 1)) fun x64 =>
 k44 (x64,(s43.2.1,(s43.2.2.1,s43.2.2.2)))
 else (bif x55.2.2.2.2.1 then if (Dat.XPt s43.2.1 s43.2.2.1 0) then if (Dat.XOk s43.2.1 s43.2.2.1) then Dat.bnd (Dat.xget s43.2.1 s43.2.2.1) fun x69 =>
 if (Dat.Le (Dat.addN 0 0) (Dat.len ([] : List TFr))) then if (Dat.EqN (Dat.len x69) 0) then if (Dat.In x48 0) then if (Dat.Lt (Dat.addN 0 (Dat.toN x48)) (Dat.len ([] : List TFr))) then Dat.bnd (Dat.get ([] : List TFr) (Dat.addN 0 (Dat.toN x48)) zFr) fun x78 =>
 if (Dat.In x48 0) then if (Dat.Lt (Dat.addN 0 (Dat.toN x48)) (Dat.len ([] : List TFr))) then Dat.bnd (Dat.set ([] : List TFr) (Dat.addN 0 (Dat.toN x48)) (x78.1,(x78.2.1,(x78.2.2.1,(x78.2.2.2.1,(false,(x78.2.2.2.2.2.1,()))))))) fun x83 =>
 if (Dat.EqN 0 0) then if (Dat.EqN 0 (Dat.len x83)) then Dat.bnd (Dat.wrap .i64 (Dat.add s43.1 1)) fun x88 =>
 none
 else none
 else none
 else none
 else none
 else none
 else none
 else if (Dat.Big (Dat.len ([] : List TMf)) (Dat.len x69) 72) then none
 else Dat.bnd (Dat.app ([] : List TMf) x69) fun x91 =>
 if (Dat.In x48 (Dat.len x91)) then if (Dat.Lt (Dat.addN 0 (Dat.toN x48)) (Dat.len x91)) then Dat.bnd (Dat.get x91 (Dat.addN 0 (Dat.toN x48)) zMf) fun x96 =>
 if (Dat.In x48 (Dat.len x91)) then if (Dat.Lt (Dat.addN 0 (Dat.toN x48)) (Dat.len x91)) then Dat.bnd (Dat.set x91 (Dat.addN 0 (Dat.toN x48)) (x96.1,(x96.2.1,(x96.2.2.1,(x96.2.2.2.1,(false,(x96.2.2.2.2.2.1,()))))))) fun x101 =>
 if (Dat.EqN 0 0) then if (Dat.EqN (Dat.len x91) (Dat.len x101)) then Dat.bnd (Dat.app s43.2.1 (x101::([] : List (List TMf)))) fun x106 =>
 Dat.bnd (Dat.wrap .i64 (Dat.add s43.1 1)) fun x107 =>
 k44 (x107,(x106,((Dat.xnew (α:=TMf) (Dat.len s43.2.1) (Dat.len x91)),s43.2.2.2)))
 else none
 else none
 else none
 else none
 else none
 else none
 else none
 else none
 else none
 else Dat.bnd (Dat.wrap .i64 (Dat.add x48 1)) fun x108 =>
 if (Dat.IsZ (Dat.ofN (Dat.xlen s43.2.2.1))) then none
 else Dat.bnd (Dat.tmod x108 (Dat.ofN (Dat.xlen s43.2.2.1))) fun x111 =>
 some ((s10.2.1,(s10.2.2.1,s43.2.1)),((s43.2.2.1,(x111,())),(x48,0)))))
 else none
 else none)
 else none
 else none
 else none
 else some ((([] : List (List Int)),(([] : List (List Int)),([] : List (List TMf)))),(((Dat.xnil (α:=TMf) ),(0,())),(0,250))))) (0,(((Dat.seg s10.1 0 0)::([] : List (List TMf))),((Dat.xnew (α:=TMf) 0 0),d0.2.2.1)))
 else none)) (x9,(([] : List (List Int)),(([] : List (List Int)),0)))
 else if (Dat.Big (Dat.len (Dat.seg ([] : List TFr) 0 0)) (Dat.len d0.2.1) 72) then none
 else Dat.bnd (Dat.app (Dat.seg ([] : List TFr) 0 0) d0.2.1) fun x114 =>
 Dat.bind (Dat.mapO (fun e115 =>
 some (e115.1,(e115.2.1,((Dat.zJb e115.2.2.1),((Dat.zJb e115.2.2.2.1),(e115.2.2.2.2.1,(e115.2.2.2.2.2.1,e115.2.2.2.2.2.2))))))) x114) fun x116 =>
 Dat.loop (twB (Dat.len x114) (fun s117 =>
 Dat.bnd (Dat.wrap .i64 (Dat.mul 2 (Dat.ofN (Dat.len d0.2.1)))) fun x147 =>
 if (Dat.Le (Dat.addN 0 (Dat.len x114)) (Dat.len s117.1)) then Dat.loop (fun (s150 : Int×((List (List TMf))×((MixE TMf)×Int))) k151 =>
 (bif (Dat.ilt s150.1 x147) then Dat.bnd (Dat.wrap .i64 (Dat.add d0.2.2.1 s150.1)) fun x152 =>
 if (Dat.IsZ (Dat.ofN (Dat.len d0.2.1))) then none
 else Dat.bnd (Dat.tmod x152 (Dat.ofN (Dat.len d0.2.1))) fun x155 =>
 if (Dat.Ix x155 (Dat.xlen s150.2.2.1)) then if (Dat.XPt s150.2.1 s150.2.2.1 (Dat.toN x155)) then if (Dat.XPt s150.2.1 s150.2.2.1 (Dat.toN x155)) then Dat.bnd (Dat.xat s150.2.1 s150.2.2.1 (Dat.toN x155) zMf) fun x162 =>
 (bif (Dat.ieq x162.1 1) then Dat.bnd (Dat.wrap .i64 (Dat.add s150.1 1)) fun x163 =>
 k151 (x163,(s150.2.1,(s150.2.2.1,s150.2.2.2)))
 else if (Dat.XOk s117.2.1 x162.2.2.1) then Dat.bnd (Dat.xget s117.2.1 x162.2.2.1) fun x166 =>
 if (Dat.XOk s117.2.2.1 x162.2.2.2.1) then Dat.bnd (Dat.xget s117.2.2.1 x162.2.2.2.1) fun x169 =>
 Dat.bind (zWl (x162.1,(x162.2.1,(x166,(x169,(x162.2.2.2.2.1,(x162.2.2.2.2.2.1,()))))))) fun x170 =>
 (bif (Dat.zQg false true x170) then Dat.bnd (Dat.wrap .i64 (Dat.add s150.1 1)) fun x171 =>
 k151 (x171,(s150.2.1,(s150.2.2.1,s150.2.2.2)))
 else (bif x162.2.2.2.2.1 then if (Dat.XPt s150.2.1 s150.2.2.1 0) then if (Dat.XOk s150.2.1 s150.2.2.1) then Dat.bnd (Dat.xget s150.2.1 s150.2.2.1) fun x176 =>
 if (Dat.Le (Dat.addN 0 0) (Dat.len ([] : List TFr))) then if (Dat.EqN (Dat.len x176) 0) then if (Dat.In x155 0) then if (Dat.Lt (Dat.addN 0 (Dat.toN x155)) (Dat.len ([] : List TFr))) then Dat.bnd (Dat.get ([] : List TFr) (Dat.addN 0 (Dat.toN x155)) zFr) fun x185 =>
 if (Dat.In x155 0) then if (Dat.Lt (Dat.addN 0 (Dat.toN x155)) (Dat.len ([] : List TFr))) then Dat.bnd (Dat.set ([] : List TFr) (Dat.addN 0 (Dat.toN x155)) (x185.1,(x185.2.1,(x185.2.2.1,(x185.2.2.2.1,(false,(x185.2.2.2.2.2.1,()))))))) fun x190 =>
 if (Dat.EqN 0 0) then if (Dat.EqN 0 (Dat.len x190)) then Dat.bnd (Dat.wrap .i64 (Dat.add s150.1 1)) fun x195 =>
 none
 else none
 else none
 else none
 else none
 else none
 else none
 else if (Dat.Big (Dat.len ([] : List TMf)) (Dat.len x176) 72) then none
 else Dat.bnd (Dat.app ([] : List TMf) x176) fun x198 =>
 if (Dat.In x155 (Dat.len x198)) then if (Dat.Lt (Dat.addN 0 (Dat.toN x155)) (Dat.len x198)) then Dat.bnd (Dat.get x198 (Dat.addN 0 (Dat.toN x155)) zMf) fun x203 =>
 if (Dat.In x155 (Dat.len x198)) then if (Dat.Lt (Dat.addN 0 (Dat.toN x155)) (Dat.len x198)) then Dat.bnd (Dat.set x198 (Dat.addN 0 (Dat.toN x155)) (x203.1,(x203.2.1,(x203.2.2.1,(x203.2.2.2.1,(false,(x203.2.2.2.2.2.1,()))))))) fun x208 =>
 if (Dat.EqN 0 0) then if (Dat.EqN (Dat.len x198) (Dat.len x208)) then Dat.bnd (Dat.app s150.2.1 (x208::([] : List (List TMf)))) fun x213 =>
 Dat.bnd (Dat.wrap .i64 (Dat.add s150.1 1)) fun x214 =>
 k151 (x214,(x213,((Dat.xnew (α:=TMf) (Dat.len s150.2.1) (Dat.len x198)),s150.2.2.2)))
 else none
 else none
 else none
 else none
 else none
 else none
 else none
 else none
 else none
 else Dat.bnd (Dat.wrap .i64 (Dat.add x155 1)) fun x215 =>
 if (Dat.IsZ (Dat.ofN (Dat.xlen s150.2.2.1))) then none
 else Dat.bnd (Dat.tmod x215 (Dat.ofN (Dat.xlen s150.2.2.1))) fun x218 =>
 some ((s117.2.1,(s117.2.2.1,s150.2.1)),((s150.2.2.1,(x218,())),(x155,0)))))
 else none
 else none)
 else none
 else none
 else none
 else some ((([] : List (List Int)),(([] : List (List Int)),([] : List (List TMf)))),(((Dat.xnil (α:=TMf) ),(0,())),(0,250))))) (0,(((Dat.seg s117.1 0 (Dat.len x114))::([] : List (List TMf))),((Dat.xnew (α:=TMf) 0 (Dat.len x114)),d0.2.2.1)))
 else none)) (x116,(([] : List (List Int)),(([] : List (List Int)),0)))
 else none)
def wWo : List LSpec×List Nat:=([],[3])
def wWq : List LSpec×List Nat:=([{ id:=2700,known:=true,toks:=[(9000000,(.int .u8)),(9000000,(.int .i64)),(5500013,(.pair (.int .u8) (.pair (.int .i64) (.pair (.mix 900000002 (.int .u8)) (.pair (.mix 900000001 (.int .i64)) (.pair .bool (.pair .bool .unit)))))))],items:=[.vec 1000013 (.pair (.int .u8) (.pair (.int .i64) (.pair (.mix 900000002 (.int .u8)) (.pair (.mix 900000001 (.int .i64)) (.pair .bool (.pair .bool .unit)))))), .rows 900000002 (.int .u8), .rows 900000001 (.int .i64), .slot 15 (.val (.int .i64))],junk:=[16,17,18,19,5,4,20,21,22,23,24,25,26,27,28,29,30,31,32,33,34,35,36],tails:=[] }],[])
def wWn : List LSpec×List Nat:=([{ id:=8600,known:=true,toks:=[(7002000,(.pair (.int .u8) (.pair (.int .i64) (.pair (.mix 900000005 (.int .u8)) (.pair (.mix 900000004 (.int .i64)) (.pair .bool (.pair .bool .unit)))))))],items:=[.slot 7 (.val (.int .i64)), .rows 2002000 (.pair (.int .u8) (.pair (.int .i64) (.pair (.mix 52002000 (.int .u8)) (.pair (.mix 42002000 (.int .i64)) (.pair .bool (.pair .bool .unit)))))), .cells 2 [.val (.mix 2002000 (.pair (.int .u8) (.pair (.int .i64) (.pair (.mix 52002000 (.int .u8)) (.pair (.mix 42002000 (.int .i64)) (.pair .bool (.pair .bool .unit))))))), .val (.int .i64)]],junk:=[8,9,4,10,11,12,13,14,15,16,17,18,19],tails:=[] }],[])
def wWp : List LSpec×List Nat:=([],[888888])
def wWr : List LSpec×List Nat:=([],[888888])
def wY0 : Tab (List LSpec×List Nat):=(.node (.node (.node (.node (.node (.node (.node .leaf (some wWo) .leaf) none .leaf) none .leaf) none .leaf) none (.node .leaf none (.node .leaf (some wWq) .leaf))) none (.node (.node .leaf none (.node .leaf (some wWr) .leaf)) none .leaf)) none (.node (.node .leaf none (.node .leaf none (.node .leaf none (.node .leaf (some wWp) .leaf)))) none (.node .leaf none (.node (.node .leaf none (.node (.node .leaf (some wWn) .leaf) none .leaf)) none .leaf))))
def wY3 (f : Nat) : List LSpec×List Nat:=(wY0.get f).getD ([],[])
noncomputable def zYq : RFn:={ args:=[(.pair (.int .i64) (.pair (.int .i64) (.pair (.int .i64) (.pair (.int .i64) (.pair (.int .i64) (.pair (.int .i64) (.pair (.int .i64) (.pair (.int .i64) (.pair (.int .i64) .unit))))))))),(.pair (.list (.pair (.int .u8) (.pair (.int .i64) (.pair (.list (.int .u8)) (.pair (.list (.int .i64)) (.pair .bool (.pair .bool .unit))))))) (.pair (.int .i64) .unit))],objs:=[(.int .u8),(.int .i64),(.pair (.int .u8) (.pair (.int .i64) (.pair (.mix 0 (.int .u8)) (.pair (.mix 1 (.int .i64)) (.pair .bool (.pair .bool .unit))))))],res:=[(.pair (.mix 2 (.pair (.int .u8) (.pair (.int .i64) (.pair (.mix 0 (.int .u8)) (.pair (.mix 1 (.int .i64)) (.pair .bool (.pair .bool .unit))))))) (.pair (.int .i64) .unit)),(.int .i64),(.int .i64)],fn:=zKc }
theorem yZx : OwnR Try.prog cfg 25 zYq:=fnR wY3 [] (l:=[(29,zZn),(48,zXn),(64,zX6),(44,zKm)]) (lo:=[(48,zXo),(64,zX7)]) (lr:=[]) zWt zQt (.cons zZ6 (.cons zZm (.cons zZ5 (.cons zJ7 .nil)))) (.cons zZo.1 (.cons zKa.1 .nil)) .nil (fun d=>by kernel_rfl)
noncomputable def zQq (d0 : List TFr) : Option (List TFr) :=
 if (Dat.Le (Dat.addN 0 0) (Dat.len ([] : List TFr))) then if (Dat.EqN (Dat.len d0) 0) then if (Dat.Le (Dat.addN 0 0) (Dat.len ([] : List TFr))) then some (Dat.seg ([] : List TFr) 0 0)
 else none
 else if (Dat.Big (Dat.len (Dat.seg ([] : List TFr) 0 0)) (Dat.len d0) 72) then none
 else Dat.bnd (Dat.app (Dat.seg ([] : List TFr) 0 0) d0) fun x9 =>
 if (Dat.Le (Dat.addN 0 (Dat.len x9)) (Dat.len x9)) then some (Dat.seg x9 0 (Dat.len x9))
 else none
 else none
noncomputable def zW9 : PFn:={ args:=[(.list (.pair (.int .u8) (.pair (.int .i64) (.pair (.list (.int .u8)) (.pair (.list (.int .i64)) (.pair .bool (.pair .bool .unit)))))))],res:=[(.list (.pair (.int .u8) (.pair (.int .i64) (.pair (.list (.int .u8)) (.pair (.list (.int .i64)) (.pair .bool (.pair .bool .unit)))))))],fn:=zQq }
noncomputable def cx63 : CloneX Try.prog cfg 63 39 (.pair (.int .u8) (.pair (.int .i64) (.pair (.list (.int .u8)) (.pair (.list (.int .i64)) (.pair .bool (.pair .bool .unit)))))) := clx xf63 39 (xf63.body.cOps.getD 0 ⟨none, .move (.tmp 0), 0, "", #[], none⟩) (xf63.body.cOps.getD 1 ⟨none, .move (.tmp 0), 0, "", #[], none⟩) (by kernel_rfl) (by kernel_rfl) (by kernel_rfl) (by kernel_rfl) (by kernel_rfl) (by kernel_rfl) (by kernel_rfl) (by kernel_rfl) (by kernel_rfl)
def vYf : List LSpec×List Nat:=([],[3])
def vYg : List LSpec×List Nat:=([uk 2700],[777777])
def spt63 : Tab (List LSpec×List Nat):=(.node (.node (.node (.node (.node (.node (.node .leaf (some vYf) .leaf) none .leaf) none .leaf) none .leaf) none (.node .leaf none (.node .leaf (some vYg) .leaf))) none .leaf) none .leaf)
def spf63 (f : Nat) : List LSpec×List Nat:=(spt63.get f).getD ([],[])
theorem zZv : zWf Try.prog cfg 63 zW9:=vW9 spf63 zWt zQt cx63 (of_decide_eq_true (by kernel_rfl)) (by kernel_rfl) (by kernel_rfl) (by kernel_rfl) (fun d=>by kernel_rfl) (fun d=>by kernel_rfl) (by kernel_rfl) (fun d r h=>by
  unfold zQq at h
  split at h
  · split at h
    · rename_i e
      have h1:=Option.some.inj h
      rw [← h1]
      exact (List.length_eq_zero_iff.1 e).symm
    · split at h
      · cases h
      · simp only [Dat.bnd] at h
        split at h
        · have h1 : (d.drop 0).take d.length = r := Option.some.inj h
          rw [← h1]
          simp
        · cases h
  · cases h)
noncomputable def zXa : OFn:={ args:=[(.list (.pair (.int .u8) (.pair (.int .i64) (.pair (.list (.int .u8)) (.pair (.list (.int .i64)) (.pair .bool (.pair .bool .unit)))))))],ores:=[(.own (.pair (.int .u8) (.pair (.int .i64) (.pair (.list (.int .u8)) (.pair (.list (.int .i64)) (.pair .bool (.pair .bool .unit)))))))],fn:=zQq }
theorem zZx : OwnD Try.prog cfg 63 zXa∧True:=⟨vW8 spf63 zWt zQt cx63 (of_decide_eq_true (by kernel_rfl)) (by kernel_rfl) (by kernel_rfl) (by kernel_rfl) (fun d=>by kernel_rfl) (fun d=>by kernel_rfl) (by kernel_rfl) (fun d r h=>by
  unfold zQq at h
  split at h
  · split at h
    · rename_i e
      have h1:=Option.some.inj h
      rw [← h1]
      exact (List.length_eq_zero_iff.1 e).symm
    · split at h
      · cases h
      · simp only [Dat.bnd] at h
        split at h
        · have h1 : (d.drop 0).take d.length = r := Option.some.inj h
          rw [← h1]
          simp
        · cases h
  · cases h),trivial⟩
noncomputable def zXz (d0 : (List TFr)×(Int×Unit)) : Option (((List (List Int))×((List (List Int))×(List (List TMf))))×((MixE TMf)×(Int×Unit))) :=
 Dat.bind (zQq d0.1) fun x1 =>
 if (Dat.EqN (Dat.len x1) 0) then Dat.loop (fun (s4 : (List (List Int))×((List (List Int))×Int)) k5 =>
 (bif (Dat.ilt s4.2.2 (Dat.ofN (Dat.len x1))) then if (Dat.Ix s4.2.2 (Dat.len x1)) then Dat.bnd (Dat.get x1 (Dat.toN s4.2.2) zFr) fun x8 =>
 Dat.bind (zQz x8.2.2.1) fun x9 =>
 if (Dat.EqN (Dat.len x9) 0) then Dat.bind (zQ0 x8.2.2.2.1) fun x12 =>
 if (Dat.EqN (Dat.len x12) 0) then if (Dat.Ix s4.2.2 (Dat.len x1)) then Dat.bnd (Dat.get x1 (Dat.toN s4.2.2) zFr) fun x17 =>
 none
 else none
 else if (Dat.Ix s4.2.2 (Dat.len x1)) then Dat.bnd (Dat.get x1 (Dat.toN s4.2.2) zFr) fun x20 =>
 none
 else none
 else Dat.bind (zQ0 x8.2.2.2.1) fun x21 =>
 if (Dat.EqN (Dat.len x21) 0) then if (Dat.Ix s4.2.2 (Dat.len x1)) then Dat.bnd (Dat.get x1 (Dat.toN s4.2.2) zFr) fun x26 =>
 none
 else none
 else if (Dat.Ix s4.2.2 (Dat.len x1)) then Dat.bnd (Dat.get x1 (Dat.toN s4.2.2) zFr) fun x29 =>
 none
 else none
 else none
 else if (Dat.EqN (Dat.len x1) 0) then some ((([] : List (List Int)),(([] : List (List Int)),([] : List (List TMf)))),((Dat.zJb ([] : List TMf)),(d0.2.1,())))
 else none)) (([] : List (List Int)),(([] : List (List Int)),0))
 else Dat.bind (Dat.mapO (fun e32 =>
 some (e32.1,(e32.2.1,((Dat.zJb e32.2.2.1),((Dat.zJb e32.2.2.2.1),(e32.2.2.2.2.1,(e32.2.2.2.2.2.1,e32.2.2.2.2.2.2))))))) x1) fun x33 =>
 Dat.loop (twB (Dat.len x1) (fun s34 =>
 if (Dat.EqN 0 0) then if (Dat.EqN (Dat.len x1) (Dat.len s34.1)) then some ((s34.2.1,(s34.2.2.1,(s34.1::([] : List (List TMf))))),((Dat.xnew (α:=TMf) 0 (Dat.len x1)),(d0.2.1,())))
 else none
 else none)) (x33,(([] : List (List Int)),(([] : List (List Int)),0)))
def wWm : List LSpec×List Nat:=([{ id:=2700,known:=true,toks:=[(9000000,(.int .u8)),(9000000,(.int .i64)),(5500013,(.pair (.int .u8) (.pair (.int .i64) (.pair (.mix 900000002 (.int .u8)) (.pair (.mix 900000001 (.int .i64)) (.pair .bool (.pair .bool .unit)))))))],items:=[.vec 1000013 (.pair (.int .u8) (.pair (.int .i64) (.pair (.mix 900000002 (.int .u8)) (.pair (.mix 900000001 (.int .i64)) (.pair .bool (.pair .bool .unit)))))), .rows 900000002 (.int .u8), .rows 900000001 (.int .i64), .slot 15 (.val (.int .i64))],junk:=[16,17,18,19,5,4,20,21,22,23,24,25,26,27,28,29,30,31,32,33,34,35,36],tails:=[] }],[888888,777777])
def wYz : Tab (List LSpec×List Nat):=(.node (.node (.node .leaf none (.node .leaf none (.node .leaf (some wWm) .leaf))) none .leaf) none .leaf)
def wY2 (f : Nat) : List LSpec×List Nat:=(wYz.get f).getD ([],[])
noncomputable def yQ8 : RFn:={ args:=[(.pair (.list (.pair (.int .u8) (.pair (.int .i64) (.pair (.list (.int .u8)) (.pair (.list (.int .i64)) (.pair .bool (.pair .bool .unit))))))) (.pair (.int .i64) .unit))],objs:=[(.int .u8),(.int .i64),(.pair (.int .u8) (.pair (.int .i64) (.pair (.mix 0 (.int .u8)) (.pair (.mix 1 (.int .i64)) (.pair .bool (.pair .bool .unit))))))],res:=[(.pair (.mix 2 (.pair (.int .u8) (.pair (.int .i64) (.pair (.mix 0 (.int .u8)) (.pair (.mix 1 (.int .i64)) (.pair .bool (.pair .bool .unit))))))) (.pair (.int .i64) .unit))],fn:=zXz }
theorem yYs : OwnR Try.prog cfg 27 yQ8:=fnR wY2 [] (l:=[(63,zW9),(48,zXn),(64,zX6)]) (lo:=[(63,zXa),(48,zXo),(64,zX7)]) (lr:=[]) zWt zQt (.cons zZv (.cons zZm (.cons zZ5 .nil))) (.cons zZx.1 (.cons zZo.1 (.cons zKa.1 .nil))) .nil (fun d=>by kernel_rfl)
noncomputable def yQm (d0 : List Int×(List Int)) : Option Bool :=
 Dat.bnd (Dat.str d0.1) fun x1 =>
 Dat.bnd (Dat.str d0.2) fun x2 =>
 some (Dat.seq x1 x2)
noncomputable def yZ9 : PFn:={ args:=[(.list (.int .u8)),(.list (.int .u8))],res:=[.bool],fn:=yQm }
def vYa : List LSpec×List Nat:=([],[1,2])
def spt69 : Tab (List LSpec×List Nat):=(.node (.node (.node (.node .leaf none (.node .leaf none (.node .leaf (some vYa) .leaf))) none .leaf) none .leaf) none .leaf)
def spf69 (f : Nat) : List LSpec×List Nat:=(spt69.get f).getD ([],[])
theorem xXy : zWf Try.prog cfg 69 yZ9:=fnD spf69 (l:=[]) zWt zQt .nil (fun d=>by kernel_rfl)
noncomputable def zZl (d0 : List Int×(List Int)) : Option Bool :=
 (bif (Dat.ine (Dat.ofN (Dat.len d0.1)) (Dat.ofN (Dat.len d0.2))) then some false
 else Dat.loop (fun (s1 : Int) k2 =>
 (bif (Dat.ilt s1 (Dat.ofN (Dat.len d0.1))) then if (Dat.Ix s1 (Dat.len d0.1)) then Dat.bnd (Dat.get d0.1 (Dat.toN s1) 0) fun x5 =>
 if (Dat.Ix s1 (Dat.len d0.2)) then Dat.bnd (Dat.get d0.2 (Dat.toN s1) 0) fun x8 =>
 (bif (Dat.ine x5 x8) then some false
 else Dat.bnd (Dat.wrap .i64 (Dat.add s1 1)) fun x9 =>
 k2 x9)
 else none
 else none
 else some true)) 0)
noncomputable def zKf : PFn:={ args:=[(.list (.int .i64)),(.list (.int .i64))],res:=[.bool],fn:=zZl }
def vJ8 : List LSpec×List Nat:=([{ id:=7000,known:=true,toks:=[],items:=[.slot 13 (.val (.int .i64))],junk:=[14,15,5,16,17,18,19,20,21,22,23,24,4,25],tails:=[] }],[])
def vJ9 : List LSpec×List Nat:=([],[1,2])
def spt70 : Tab (List LSpec×List Nat):=(.node (.node (.node (.node .leaf none (.node .leaf none (.node .leaf (some vJ9) .leaf))) none .leaf) none .leaf) none (.node .leaf none (.node .leaf none (.node (.node (.node (.node .leaf (some vJ8) .leaf) none .leaf) none .leaf) none .leaf))))
def spf70 (f : Nat) : List LSpec×List Nat:=(spt70.get f).getD ([],[])
theorem yQb : zWf Try.prog cfg 70 zKf:=fnD spf70 (l:=[]) zWt zQt .nil (fun d=>by kernel_rfl)
noncomputable def zJk (d0 : TFr×TFr) : Option Bool :=
 (bif (Dat.ieq d0.1.1 d0.2.1) then (bif (Dat.zQg true (Dat.ieq d0.1.2.1 d0.2.2.1) false) then Dat.bind (yQm (d0.1.2.2.1,d0.2.2.2.1)) fun x1 =>
 (bif (Dat.zQg true x1 false) then Dat.bind (zZl (d0.1.2.2.2.1,d0.2.2.2.2.1)) fun x2 =>
 (bif (Dat.zQg true x2 false) then (bif (Dat.zQg true (Dat.beq d0.1.2.2.2.2.1 d0.2.2.2.2.2.1) false) then some (Dat.zQg true (Dat.beq d0.1.2.2.2.2.2.1 d0.2.2.2.2.2.2.1) false)
 else some false)
 else some false)
 else some false)
 else some false)
 else some false)
noncomputable def yWd : PFn:={ args:=[(.pair (.int .u8) (.pair (.int .i64) (.pair (.list (.int .u8)) (.pair (.list (.int .i64)) (.pair .bool (.pair .bool .unit)))))),(.pair (.int .u8) (.pair (.int .i64) (.pair (.list (.int .u8)) (.pair (.list (.int .i64)) (.pair .bool (.pair .bool .unit))))))],res:=[.bool],fn:=zJk }
def vYb : List LSpec×List Nat:=([],[1,2])
def spt68 : Tab (List LSpec×List Nat):=(.node (.node (.node (.node .leaf none (.node .leaf none (.node .leaf (some vYb) .leaf))) none .leaf) none .leaf) none .leaf)
def spf68 (f : Nat) : List LSpec×List Nat:=(spt68.get f).getD ([],[])
theorem yYv : zWf Try.prog cfg 68 yWd:=fnD spf68 (l:=[(69,yZ9),(70,zKf)]) zWt zQt (.cons xXy (.cons yQb .nil)) (fun d=>by kernel_rfl)
noncomputable def zJy (d0 : ((List TFr)×(Int×Unit))×((List TFr)×(Int×Unit))) : Option Bool :=
 (bif (Dat.ieq d0.1.2.1 d0.2.2.1) then (bif (Dat.ine (Dat.ofN (Dat.len d0.1.1)) (Dat.ofN (Dat.len d0.2.1))) then some (Dat.zQg true false false)
 else Dat.loop (fun (s1 : Int) k2 =>
 (bif (Dat.ilt s1 (Dat.ofN (Dat.len d0.1.1))) then if (Dat.Ix s1 (Dat.len d0.1.1)) then Dat.bnd (Dat.get d0.1.1 (Dat.toN s1) zFr) fun x5 =>
 if (Dat.Ix s1 (Dat.len d0.2.1)) then Dat.bnd (Dat.get d0.2.1 (Dat.toN s1) zFr) fun x8 =>
 Dat.bind (zJk ((x5.1,(x5.2.1,(x5.2.2.1,(x5.2.2.2.1,(x5.2.2.2.2.1,(x5.2.2.2.2.2.1,())))))),(x8.1,(x8.2.1,(x8.2.2.1,(x8.2.2.2.1,(x8.2.2.2.2.1,(x8.2.2.2.2.2.1,())))))))) fun x9 =>
 (bif (Dat.bnot x9) then some (Dat.zQg true false false)
 else Dat.bnd (Dat.wrap .i64 (Dat.add s1 1)) fun x10 =>
 k2 x10)
 else none
 else none
 else some (Dat.zQg true true false))) 0)
 else some false)
noncomputable def yZ5 : PFn:={ args:=[(.pair (.list (.pair (.int .u8) (.pair (.int .i64) (.pair (.list (.int .u8)) (.pair (.list (.int .i64)) (.pair .bool (.pair .bool .unit))))))) (.pair (.int .i64) .unit)),(.pair (.list (.pair (.int .u8) (.pair (.int .i64) (.pair (.list (.int .u8)) (.pair (.list (.int .i64)) (.pair .bool (.pair .bool .unit))))))) (.pair (.int .i64) .unit))],res:=[.bool],fn:=zJy }
def vYs : List LSpec×List Nat:=([{ id:=6700,known:=true,toks:=[],items:=[.slot 17 (.val (.int .i64))],junk:=[18,19,20,21,8,7,22,23,24,25,9,26,27,28,29,30,6,31],tails:=[] }],[])
def vYt : List LSpec×List Nat:=([],[1,2])
def spt31 : Tab (List LSpec×List Nat):=(.node (.node (.node (.node .leaf none (.node .leaf none (.node .leaf (some vYt) .leaf))) none (.node (.node (.node (.node .leaf (some vYs) .leaf) none .leaf) none .leaf) none .leaf)) none .leaf) none .leaf)
def spf31 (f : Nat) : List LSpec×List Nat:=(spt31.get f).getD ([],[])
theorem xXu : zWf Try.prog cfg 31 yZ5:=fnD spf31 (l:=[(68,yWd)]) zWt zQt (.cons yYv .nil) (fun d=>by kernel_rfl)
noncomputable def zYb (d0 : TCf×((List TFr)×(Int×Unit))) : Option (List Int) :=
 Dat.bind (zXi ((pCf d0.1),(d0.2.1,(d0.2.2.1,())))) fun x1 =>
 (bif (Dat.ine x1 0) then some ([] : List Int)
 else if (Dat.EqN 0 (Dat.len ([] : List Int))) then Dat.loop (fun (s4 : List Int×Int) k5 =>
 (bif (Dat.ilt s4.2 (Dat.ofN (Dat.len d0.2.1))) then if (Dat.Ix s4.2 (Dat.len d0.2.1)) then Dat.bnd (Dat.get d0.2.1 (Dat.toN s4.2) zFr) fun x8 =>
 (bif x8.2.2.2.2.2.1 then if (Dat.Le (Dat.addN 0 1) (Dat.len (s4.2::([] : List Int)))) then if (Dat.Big (Dat.len s4.1) (Dat.len (Dat.seg (s4.2::([] : List Int)) 0 1)) 8) then none
 else if (Dat.EqN (Dat.len s4.1) (Dat.len s4.1)) then Dat.bnd (Dat.app s4.1 (Dat.seg (s4.2::([] : List Int)) 0 1)) fun x15 =>
 Dat.bnd (Dat.wrap .i64 (Dat.add s4.2 1)) fun x16 =>
 if (Dat.EqN (Dat.len x15) (Dat.len x15)) then k5 (x15,x16)
 else none
 else none
 else none
 else Dat.bnd (Dat.wrap .i64 (Dat.add s4.2 1)) fun x19 =>
 if (Dat.EqN (Dat.len s4.1) (Dat.len s4.1)) then k5 (s4.1,x19)
 else none)
 else none
 else some s4.1)) (([] : List Int),0)
 else none)
noncomputable def yXw : PFn:={ args:=[(.pair (.int .i64) (.pair (.int .i64) (.pair (.int .i64) (.pair (.int .i64) (.pair (.int .i64) (.pair (.int .i64) (.pair (.int .i64) (.pair (.int .i64) (.pair (.int .i64) .unit))))))))),(.pair (.list (.pair (.int .u8) (.pair (.int .i64) (.pair (.list (.int .u8)) (.pair (.list (.int .i64)) (.pair .bool (.pair .bool .unit))))))) (.pair (.int .i64) .unit))],res:=[(.list (.int .i64))],fn:=zYb }
def vY2 : List LSpec×List Nat:=([{ id:=2000,known:=true,toks:=[(5,(.int .i64))],items:=[.slot 5 (.slt (.int .i64) (some 1000005) false), .slot 15 (.val (.int .i64))],junk:=[16,17,18,19,7,6,20,21,22,23,24,25,26],tails:=[(1000005,5)] }],[])
def vY1 : List LSpec×List Nat:=([],[1,2])
def spt20 : Tab (List LSpec×List Nat):=(.node (.node (.node (.node .leaf none (.node .leaf none (.node .leaf (some vY1) .leaf))) none .leaf) none .leaf) none (.node (.node .leaf none (.node (.node .leaf (some vY2) .leaf) none .leaf)) none .leaf))
def spf20 (f : Nat) : List LSpec×List Nat:=(spt20.get f).getD ([],[])
theorem xQ7 : zWf Try.prog cfg 20 yXw:=fnD spf20 (l:=[(29,zZn)]) zWt zQt (.cons zZ6 .nil) (fun d=>by kernel_rfl)
noncomputable def yW5 (d0 : TCf) : Option ((List TFr)×(Int×Unit)) :=
 if (Dat.EqN 0 (Dat.len ([] : List TFr))) then Dat.loop (fun (s3 : Int×((List TFr)×Int)) k4 =>
 (bif (Dat.ilt s3.1 d0.2.2.2.2.2.1) then Dat.bind (zYp (d0.1,(d0.2.1,(d0.2.2.1,(d0.2.2.2.1,(d0.2.2.2.2.1,(d0.2.2.2.2.2.1,(d0.2.2.2.2.2.2.1,(d0.2.2.2.2.2.2.2.1,(d0.2.2.2.2.2.2.2.2.1,())))))))))) fun x5 =>
 if (Dat.Le (Dat.addN 0 1) (Dat.len ((x5.1,(x5.2.1,(x5.2.2.1,(x5.2.2.2.1,(x5.2.2.2.2.1,(x5.2.2.2.2.2.1,()))))))::([] : List TFr)))) then if (Dat.Big (Dat.len s3.2.1) (Dat.len (Dat.seg ((x5.1,(x5.2.1,(x5.2.2.1,(x5.2.2.2.1,(x5.2.2.2.2.1,(x5.2.2.2.2.2.1,()))))))::([] : List TFr)) 0 1)) 72) then none
 else if (Dat.EqN (Dat.len s3.2.1) (Dat.len s3.2.1)) then Dat.bnd (Dat.app s3.2.1 (Dat.seg ((x5.1,(x5.2.1,(x5.2.2.1,(x5.2.2.2.1,(x5.2.2.2.2.1,(x5.2.2.2.2.2.1,()))))))::([] : List TFr)) 0 1)) fun x12 =>
 Dat.bnd (Dat.wrap .i64 (Dat.add s3.1 1)) fun x13 =>
 if (Dat.EqN (Dat.len x12) (Dat.len x12)) then k4 (x13,(x12,s3.2.2))
 else none
 else none
 else none
 else some (s3.2.1,(s3.2.2,())))) (0,(([] : List TFr),0))
 else none
noncomputable def yJ3 : PFn:={ args:=[(.pair (.int .i64) (.pair (.int .i64) (.pair (.int .i64) (.pair (.int .i64) (.pair (.int .i64) (.pair (.int .i64) (.pair (.int .i64) (.pair (.int .i64) (.pair (.int .i64) .unit)))))))))],res:=[(.pair (.list (.pair (.int .u8) (.pair (.int .i64) (.pair (.list (.int .u8)) (.pair (.list (.int .i64)) (.pair .bool (.pair .bool .unit))))))) (.pair (.int .i64) .unit))],fn:=yW5 }
def vYk : List LSpec×List Nat:=([{ id:=5700,known:=true,toks:=[(2002000,(.pair (.int .u8) (.pair (.int .i64) (.pair (.list (.int .u8)) (.pair (.list (.int .i64)) (.pair .bool (.pair .bool .unit)))))))],items:=[.slot 4 (.val (.int .i64)), .cells 1000003 [.slt (.pair (.int .u8) (.pair (.int .i64) (.pair (.list (.int .u8)) (.pair (.list (.int .i64)) (.pair .bool (.pair .bool .unit)))))) (some 2002000) false, .val (.int .i64)]],junk:=[5,6,7,8,11,12,13,14,15,16,17,9,10],tails:=[(2002000,2002000)] }],[])
def vYl : List LSpec×List Nat:=([],[1,2])
def spt57 : Tab (List LSpec×List Nat):=(.node (.node (.node (.node .leaf none (.node .leaf none (.node .leaf (some vYl) .leaf))) none .leaf) none (.node (.node .leaf none (.node .leaf none (.node .leaf (some vYk) .leaf))) none .leaf)) none .leaf)
def spf57 (f : Nat) : List LSpec×List Nat:=(spt57.get f).getD ([],[])
theorem xK3 : zWf Try.prog cfg 57 yJ3:=fnD spf57 (l:=[(85,yJ2)]) zWt zQt (.cons xK2 .nil) (fun d=>by kernel_rfl)
noncomputable def yZs (d0 : TCf) : Option (((List TFr)×(Int×Unit))×Int) :=
 Dat.bind (yQ6 (d0.1,(d0.2.1,(d0.2.2.1,(d0.2.2.2.1,(d0.2.2.2.2.1,(d0.2.2.2.2.2.1,(d0.2.2.2.2.2.2.1,(d0.2.2.2.2.2.2.2.1,(d0.2.2.2.2.2.2.2.2.1,())))))))))) fun x1 =>
 (bif (Dat.bnot x1) then some ((([] : List TFr),(0,())),8)
 else Dat.bind (yW5 (d0.1,(d0.2.1,(d0.2.2.1,(d0.2.2.2.1,(d0.2.2.2.2.1,(d0.2.2.2.2.2.1,(d0.2.2.2.2.2.2.1,(d0.2.2.2.2.2.2.2.1,(d0.2.2.2.2.2.2.2.2.1,())))))))))) fun x2 =>
 some ((x2.1,(x2.2.1,())),0))
noncomputable def xQ9 : PFn:={ args:=[(.pair (.int .i64) (.pair (.int .i64) (.pair (.int .i64) (.pair (.int .i64) (.pair (.int .i64) (.pair (.int .i64) (.pair (.int .i64) (.pair (.int .i64) (.pair (.int .i64) .unit)))))))))],res:=[(.pair (.list (.pair (.int .u8) (.pair (.int .i64) (.pair (.list (.int .u8)) (.pair (.list (.int .i64)) (.pair .bool (.pair .bool .unit))))))) (.pair (.int .i64) .unit)),(.int .i64)],fn:=yZs }
def vYy : List LSpec×List Nat:=([],[1,2])
def spt23 : Tab (List LSpec×List Nat):=(.node (.node (.node (.node .leaf none (.node .leaf none (.node .leaf (some vYy) .leaf))) none .leaf) none .leaf) none .leaf)
def spf23 (f : Nat) : List LSpec×List Nat:=(spt23.get f).getD ([],[])
theorem xY2 : zWf Try.prog cfg 23 xQ9:=fnD spf23 (l:=[(56,yX6),(57,yJ3)]) zWt zQt (.cons yJ0 (.cons xK3 .nil)) (fun d=>by kernel_rfl)
noncomputable def yW6 (d0 : TCf×(((List TFr)×(Int×Unit))×Int)) : Option (Int×Bool) :=
 Dat.bind (zZu ((pCf d0.1),(d0.2.1.1,(d0.2.1.2.1,())))) fun x1 =>
 (bif (Dat.ine x1 0) then some (0,false)
 else Dat.bind (yZu ((d0.2.1.1,(d0.2.1.2.1,())),d0.2.2)) fun x2 =>
 (bif (Dat.zQg false true (Dat.ilt x2 0)) then some (0,false)
 else Dat.bind (yZu ((d0.2.1.1,(d0.2.1.2.1,())),d0.2.2)) fun x3 =>
 some (x3,true)))
noncomputable def yJ4 : PFn:={ args:=[(.pair (.int .i64) (.pair (.int .i64) (.pair (.int .i64) (.pair (.int .i64) (.pair (.int .i64) (.pair (.int .i64) (.pair (.int .i64) (.pair (.int .i64) (.pair (.int .i64) .unit))))))))),(.pair (.list (.pair (.int .u8) (.pair (.int .i64) (.pair (.list (.int .u8)) (.pair (.list (.int .i64)) (.pair .bool (.pair .bool .unit))))))) (.pair (.int .i64) .unit)),(.int .i64)],res:=[(.int .i64), .bool],fn:=yW6 }
def vYx : List LSpec×List Nat:=([],[1,2])
def spt24 : Tab (List LSpec×List Nat):=(.node (.node (.node (.node .leaf none (.node .leaf none (.node .leaf (some vYx) .leaf))) none .leaf) none .leaf) none .leaf)
def spf24 (f : Nat) : List LSpec×List Nat:=(spt24.get f).getD ([],[])
theorem xK4 : zWf Try.prog cfg 24 yJ4:=fnD spf24 (l:=[(30,zZ9),(58,xZv)]) zWt zQt (.cons zKr (.cons wWx .nil)) (fun d=>by kernel_rfl)
noncomputable def zY9 (d0 : (List TFr)×(Int×Unit)) : Option (((List TFr)×(Int×Unit))×Int) :=
 Dat.bind (zJm (d0.1,(d0.2.1,()))) fun x1 =>
 if (Dat.EqN (Dat.len x1.1) 0) then Dat.loop (fun (s4 : Int) k5 =>
 Dat.bnd (Dat.wrap .i64 (Dat.mul 2 (Dat.ofN (Dat.len d0.1)))) fun x6 =>
 (bif (Dat.ilt s4 x6) then Dat.bnd (Dat.wrap .i64 (Dat.add d0.2.1 s4)) fun x7 =>
 if (Dat.IsZ (Dat.ofN (Dat.len d0.1))) then none
 else Dat.bnd (Dat.tmod x7 (Dat.ofN (Dat.len d0.1))) fun x10 =>
 if (Dat.Ix x10 (Dat.len x1.1)) then Dat.bnd (Dat.get x1.1 (Dat.toN x10) zFr) fun x13 =>
 (bif (Dat.ieq x13.1 1) then Dat.bnd (Dat.wrap .i64 (Dat.add s4 1)) fun x14 =>
 k5 x14
 else Dat.bind (zW4 (x13.1,(x13.2.1,(x13.2.2.1,(x13.2.2.2.1,(x13.2.2.2.2.1,(x13.2.2.2.2.2.1,()))))))) fun x15 =>
 (bif (Dat.zQg false true x15) then Dat.bnd (Dat.wrap .i64 (Dat.add s4 1)) fun x16 =>
 k5 x16
 else (bif (Dat.ieq x13.1 2) then (bif (Dat.zQg true x13.2.2.2.2.1 false) then if (Dat.Ix x10 (Dat.len x1.1)) then Dat.bnd (Dat.get x1.1 (Dat.toN x10) zFr) fun x19 =>
 none
 else none
 else Dat.bnd (Dat.wrap .i64 (Dat.add x10 1)) fun x20 =>
 if (Dat.IsZ (Dat.ofN (Dat.len d0.1))) then none
 else Dat.bnd (Dat.tmod x20 (Dat.ofN (Dat.len d0.1))) fun x23 =>
 some ((x1.1,(x23,())),x10))
 else Dat.bnd (Dat.wrap .i64 (Dat.add x10 1)) fun x24 =>
 if (Dat.IsZ (Dat.ofN (Dat.len d0.1))) then none
 else Dat.bnd (Dat.tmod x24 (Dat.ofN (Dat.len d0.1))) fun x27 =>
 some ((x1.1,(x27,())),x10))))
 else none
 else some ((x1.1,(x1.2.1,())),(-1)))) 0
 else Dat.loop (fun (s28 : Int×(List TFr)) k29 =>
 Dat.bnd (Dat.wrap .i64 (Dat.mul 2 (Dat.ofN (Dat.len d0.1)))) fun x30 =>
 (bif (Dat.ilt s28.1 x30) then Dat.bnd (Dat.wrap .i64 (Dat.add d0.2.1 s28.1)) fun x31 =>
 if (Dat.IsZ (Dat.ofN (Dat.len d0.1))) then none
 else Dat.bnd (Dat.tmod x31 (Dat.ofN (Dat.len d0.1))) fun x34 =>
 if (Dat.In x34 (Dat.len x1.1)) then if (Dat.Lt (Dat.addN 0 (Dat.toN x34)) (Dat.len s28.2)) then Dat.bnd (Dat.get s28.2 (Dat.addN 0 (Dat.toN x34)) zFr) fun x39 =>
 (bif (Dat.ieq x39.1 1) then Dat.bnd (Dat.wrap .i64 (Dat.add s28.1 1)) fun x40 =>
 k29 (x40,s28.2)
 else Dat.bind (zW4 (x39.1,(x39.2.1,(x39.2.2.1,(x39.2.2.2.1,(x39.2.2.2.2.1,(x39.2.2.2.2.2.1,()))))))) fun x41 =>
 (bif (Dat.zQg false true x41) then Dat.bnd (Dat.wrap .i64 (Dat.add s28.1 1)) fun x42 =>
 k29 (x42,s28.2)
 else (bif (Dat.ieq x39.1 2) then (bif (Dat.zQg true x39.2.2.2.2.1 false) then if (Dat.In x34 (Dat.len x1.1)) then if (Dat.Lt (Dat.addN 0 (Dat.toN x34)) (Dat.len s28.2)) then Dat.bnd (Dat.get s28.2 (Dat.addN 0 (Dat.toN x34)) zFr) fun x47 =>
 Dat.bnd (Dat.set s28.2 (Dat.addN 0 (Dat.toN x34)) (x47.1,(x47.2.1,(x47.2.2.1,(x47.2.2.2.1,(false,(x47.2.2.2.2.2.1,()))))))) fun x48 =>
 Dat.bnd (Dat.wrap .i64 (Dat.add s28.1 1)) fun x49 =>
 k29 (x49,x48)
 else none
 else none
 else Dat.bnd (Dat.wrap .i64 (Dat.add x34 1)) fun x50 =>
 if (Dat.IsZ (Dat.ofN (Dat.len d0.1))) then none
 else Dat.bnd (Dat.tmod x50 (Dat.ofN (Dat.len d0.1))) fun x53 =>
 if (Dat.Le (Dat.addN 0 (Dat.len x1.1)) (Dat.len s28.2)) then some (((Dat.seg s28.2 0 (Dat.len x1.1)),(x53,())),x34)
 else none)
 else Dat.bnd (Dat.wrap .i64 (Dat.add x34 1)) fun x56 =>
 if (Dat.IsZ (Dat.ofN (Dat.len d0.1))) then none
 else Dat.bnd (Dat.tmod x56 (Dat.ofN (Dat.len d0.1))) fun x59 =>
 if (Dat.Le (Dat.addN 0 (Dat.len x1.1)) (Dat.len s28.2)) then some (((Dat.seg s28.2 0 (Dat.len x1.1)),(x59,())),x34)
 else none)))
 else none
 else none
 else if (Dat.Le (Dat.addN 0 (Dat.len x1.1)) (Dat.len s28.2)) then some (((Dat.seg s28.2 0 (Dat.len x1.1)),(x1.2.1,())),(-1))
 else none)) (0,x1.1)
noncomputable def yZ4 : PFn:={ args:=[(.pair (.list (.pair (.int .u8) (.pair (.int .i64) (.pair (.list (.int .u8)) (.pair (.list (.int .i64)) (.pair .bool (.pair .bool .unit))))))) (.pair (.int .i64) .unit))],res:=[(.pair (.list (.pair (.int .u8) (.pair (.int .i64) (.pair (.list (.int .u8)) (.pair (.list (.int .i64)) (.pair .bool (.pair .bool .unit))))))) (.pair (.int .i64) .unit)),(.int .i64)],fn:=zY9 }
def vYi : List LSpec×List Nat:=([],[1,2])
def vYh : List LSpec×List Nat:=([{ id:=6200,known:=true,toks:=[],items:=[.slot 6 (.val (.int .i64)), .vec 2003000 (.pair (.int .u8) (.pair (.int .i64) (.pair (.list (.int .u8)) (.pair (.list (.int .i64)) (.pair .bool (.pair .bool .unit))))))],junk:=[14,15,16,17,20,21,22,23,24,25,7,26,27,28,29,30,8,31,32,33,34,35,36,37,38,39,40,41,42,43,44,45,46,47,48,49,50,51,52,53,54,55,56,3,18,19],tails:=[] }],[])
def spt62 : Tab (List LSpec×List Nat):=(.node (.node (.node (.node .leaf none (.node .leaf none (.node .leaf (some vYi) .leaf))) none .leaf) none .leaf) none (.node .leaf none (.node .leaf none (.node .leaf none (.node .leaf none (.node .leaf (some vYh) .leaf))))))
def spf62 (f : Nat) : List LSpec×List Nat:=(spt62.get f).getD ([],[])
theorem xXt : zWf Try.prog cfg 62 yZ4:=fnDa spf62 [] (l:=[(22,yWb),(72,zYg)]) (lo:=[(22,yWj)]) zWt zQt (.cons yZ0 (.cons yQ9 .nil)) (.cons yKc.1 .nil) (fun d=>by kernel_rfl)
noncomputable def zJ6 (d0 : TCf×((List TFr)×(Int×Unit))) : Option (((List TFr)×(Int×Unit))×(Int×Int)) :=
 Dat.bind (zZu ((pCf d0.1),(d0.2.1,(d0.2.2.1,())))) fun x1 =>
 (bif (Dat.ine x1 0) then some ((([] : List TFr),(0,())),(0,8))
 else Dat.bind (zY9 (d0.2.1,(d0.2.2.1,()))) fun x2 =>
 (bif (Dat.ilt x2.2 0) then some ((([] : List TFr),(0,())),(0,250))
 else some ((x2.1.1,(x2.1.2.1,())),(x2.2,0))))
noncomputable def yXu : PFn:={ args:=[(.pair (.int .i64) (.pair (.int .i64) (.pair (.int .i64) (.pair (.int .i64) (.pair (.int .i64) (.pair (.int .i64) (.pair (.int .i64) (.pair (.int .i64) (.pair (.int .i64) .unit))))))))),(.pair (.list (.pair (.int .u8) (.pair (.int .i64) (.pair (.list (.int .u8)) (.pair (.list (.int .i64)) (.pair .bool (.pair .bool .unit))))))) (.pair (.int .i64) .unit))],res:=[(.pair (.list (.pair (.int .u8) (.pair (.int .i64) (.pair (.list (.int .u8)) (.pair (.list (.int .i64)) (.pair .bool (.pair .bool .unit))))))) (.pair (.int .i64) .unit)),(.int .i64),(.int .i64)],fn:=zJ6 }
def vYw : List LSpec×List Nat:=([],[1,2])
def spt26 : Tab (List LSpec×List Nat):=(.node (.node (.node (.node .leaf none (.node .leaf none (.node .leaf (some vYw) .leaf))) none .leaf) none .leaf) none .leaf)
def spf26 (f : Nat) : List LSpec×List Nat:=(spt26.get f).getD ([],[])
theorem xQ5 : zWf Try.prog cfg 26 yXu:=fnD spf26 (l:=[(30,zZ9),(62,yZ4)]) zWt zQt (.cons zKr (.cons xXt .nil)) (fun d=>by kernel_rfl)
noncomputable def zJh (d0 : (List TFr)×(Int×Unit)) : Option (List Int) :=
 if (Dat.EqN 0 (Dat.len ([] : List Int))) then Dat.loop (fun (s3 : List Int×Int) k4 =>
 (bif (Dat.ilt s3.2 (Dat.ofN (Dat.len d0.1))) then if (Dat.Ix s3.2 (Dat.len d0.1)) then Dat.bnd (Dat.get d0.1 (Dat.toN s3.2) zFr) fun x7 =>
 (bif x7.2.2.2.2.2.1 then if (Dat.Le (Dat.addN 0 1) (Dat.len (s3.2::([] : List Int)))) then if (Dat.Big (Dat.len s3.1) (Dat.len (Dat.seg (s3.2::([] : List Int)) 0 1)) 8) then none
 else if (Dat.EqN (Dat.len s3.1) (Dat.len s3.1)) then Dat.bnd (Dat.app s3.1 (Dat.seg (s3.2::([] : List Int)) 0 1)) fun x14 =>
 Dat.bnd (Dat.wrap .i64 (Dat.add s3.2 1)) fun x15 =>
 if (Dat.EqN (Dat.len x14) (Dat.len x14)) then k4 (x14,x15)
 else none
 else none
 else none
 else Dat.bnd (Dat.wrap .i64 (Dat.add s3.2 1)) fun x18 =>
 if (Dat.EqN (Dat.len s3.1) (Dat.len s3.1)) then k4 (s3.1,x18)
 else none)
 else none
 else some s3.1)) (([] : List Int),0)
 else none
noncomputable def yWa : PFn:={ args:=[(.pair (.list (.pair (.int .u8) (.pair (.int .i64) (.pair (.list (.int .u8)) (.pair (.list (.int .i64)) (.pair .bool (.pair .bool .unit))))))) (.pair (.int .i64) .unit))],res:=[(.list (.int .i64))],fn:=zJh }
def vJ7 : List LSpec×List Nat:=([],[1,2])
def vJ6 : List LSpec×List Nat:=([{ id:=7100,known:=true,toks:=[(3,(.int .i64))],items:=[.slot 3 (.slt (.int .i64) (some 1000003) false), .slot 4 (.val (.int .i64))],junk:=[5,6,7,8,9,12,13,14,15,16,17,18,19,20,21,10,11],tails:=[(1000003,3)] }],[])
def spt71 : Tab (List LSpec×List Nat):=(.node (.node (.node (.node .leaf none (.node (.node (.node .leaf (some vJ6) .leaf) none .leaf) none (.node .leaf (some vJ7) .leaf))) none .leaf) none .leaf) none .leaf)
def spf71 (f : Nat) : List LSpec×List Nat:=(spt71.get f).getD ([],[])
theorem yYt : zWf Try.prog cfg 71 yWa:=fnD spf71 (l:=[]) zWt zQt .nil (fun d=>by kernel_rfl)
noncomputable def zY8 (d0 : TCf×((List TFr)×(Int×Unit))) : Option (List Int) :=
 Dat.bind (zZu ((pCf d0.1),(d0.2.1,(d0.2.2.1,())))) fun x1 =>
 (bif (Dat.ine x1 0) then some ([] : List Int)
 else Dat.bind (zJh (d0.2.1,(d0.2.2.1,()))) fun x2 =>
 some x2)
noncomputable def yZ3 : PFn:={ args:=[(.pair (.int .i64) (.pair (.int .i64) (.pair (.int .i64) (.pair (.int .i64) (.pair (.int .i64) (.pair (.int .i64) (.pair (.int .i64) (.pair (.int .i64) (.pair (.int .i64) .unit))))))))),(.pair (.list (.pair (.int .u8) (.pair (.int .i64) (.pair (.list (.int .u8)) (.pair (.list (.int .i64)) (.pair .bool (.pair .bool .unit))))))) (.pair (.int .i64) .unit))],res:=[(.list (.int .i64))],fn:=zY8 }
def vYr : List LSpec×List Nat:=([],[1,2])
def spt32 : Tab (List LSpec×List Nat):=(.node (.node (.node (.node .leaf none (.node .leaf none (.node .leaf (some vYr) .leaf))) none .leaf) none .leaf) none .leaf)
def spf32 (f : Nat) : List LSpec×List Nat:=(spt32.get f).getD ([],[])
theorem xXs : zWf Try.prog cfg 32 yZ3:=fnD spf32 (l:=[(30,zZ9),(71,yWa)]) zWt zQt (.cons zKr (.cons yYt .nil)) (fun d=>by kernel_rfl)
noncomputable def yXi (d0 : TCf) : Option (((List TFr)×(Int×Unit))×Int) :=
 Dat.bind (zY2 (d0.1,(d0.2.1,(d0.2.2.1,(d0.2.2.2.1,(d0.2.2.2.2.1,(d0.2.2.2.2.2.1,(d0.2.2.2.2.2.2.1,(d0.2.2.2.2.2.2.2.1,(d0.2.2.2.2.2.2.2.2.1,())))))))))) fun x1 =>
 (bif (Dat.ine x1 0) then some ((([] : List TFr),(0,())),x1)
 else if (Dat.EqN 0 (Dat.len ([] : List TFr))) then Dat.loop (fun (s4 : Int×((List TFr)×Int)) k5 =>
 (bif (Dat.ilt s4.1 d0.2.2.2.2.2.1) then if (Dat.MkOk d0.2.2.2.2.2.2.1 d0.2.2.2.2.2.2.1 8) then if (Dat.Le (Dat.addN 0 (Dat.toN d0.2.2.2.2.2.2.1)) (Dat.len (Dat.rep (α:=Int) (Dat.toN d0.2.2.2.2.2.2.1) 0))) then if (Dat.Big (Dat.len s4.2.1) (Dat.len ((0,(0,(([] : List Int),((Dat.seg (Dat.rep (α:=Int) (Dat.toN d0.2.2.2.2.2.2.1) 0) 0 (Dat.toN d0.2.2.2.2.2.2.1)),(false,(false,()))))))::([] : List TFr))) 72) then none
 else if (Dat.EqN (Dat.len s4.2.1) (Dat.len s4.2.1)) then Dat.bnd (Dat.app s4.2.1 ((0,(0,(([] : List Int),((Dat.seg (Dat.rep (α:=Int) (Dat.toN d0.2.2.2.2.2.2.1) 0) 0 (Dat.toN d0.2.2.2.2.2.2.1)),(false,(false,()))))))::([] : List TFr))) fun x14 =>
 Dat.bnd (Dat.wrap .i64 (Dat.add s4.1 1)) fun x15 =>
 if (Dat.EqN (Dat.len x14) (Dat.len x14)) then k5 (x15,(x14,s4.2.2))
 else none
 else none
 else none
 else none
 else some ((s4.2.1,(s4.2.2,())),0))) (0,(([] : List TFr),0))
 else none)
noncomputable def yJ9 : PFn:={ args:=[(.pair (.int .i64) (.pair (.int .i64) (.pair (.int .i64) (.pair (.int .i64) (.pair (.int .i64) (.pair (.int .i64) (.pair (.int .i64) (.pair (.int .i64) (.pair (.int .i64) .unit)))))))))],res:=[(.pair (.list (.pair (.int .u8) (.pair (.int .i64) (.pair (.list (.int .u8)) (.pair (.list (.int .i64)) (.pair .bool (.pair .bool .unit))))))) (.pair (.int .i64) .unit)),(.int .i64)],fn:=yXi }
def sp8_8 : List LSpec×List Nat:=([{ id:=800,known:=true,toks:=[(2002000,(.pair (.int .u8) (.pair (.int .i64) (.pair (.list (.int .u8)) (.pair (.list (.int .i64)) (.pair .bool (.pair .bool .unit)))))))],items:=[.slot 14 (.val (.int .i64)), .cells 1000005 [.slt (.pair (.int .u8) (.pair (.int .i64) (.pair (.list (.int .u8)) (.pair (.list (.int .i64)) (.pair .bool (.pair .bool .unit)))))) (some 2002000) false, .val (.int .i64)]],junk:=[15,16,17,18,19,20,21,22,23,24,25],tails:=[(2002000,2002000)] }],[])
def spt8 : Tab (List LSpec×List Nat):=(.node .leaf none (.node (.node (.node .leaf (some sp8_8) .leaf) none .leaf) none .leaf))
def spf8 (f : Nat) : List LSpec×List Nat:=(spt8.get f).getD ([],[])
theorem xK9 : zWf Try.prog cfg 8 yJ9:=fnD spf8 (l:=[(41,yWe)]) zWt zQt (.cons yZ1 .nil) (fun d=>by kernel_rfl)
noncomputable def zZt (d0 : TCf×(((List TFr)×(Int×Unit))×(((List TFr)×(Int×Unit))×Int))) : Option Bool :=
 Dat.join (σ:=Bool) (fun k1 =>
 Dat.bind (zJq (d0.2.1.1,(d0.2.1.2.1,()))) fun x2 =>
 (bif x2 then k1 true
 else Dat.bind (zJq (d0.2.2.1.1,(d0.2.2.1.2.1,()))) fun x3 =>
 k1 (Dat.zQg false true x3))) fun j4 =>
 (bif j4 then some true
 else Dat.bind (zJm (d0.2.1.1,(d0.2.1.2.1,()))) fun x5 =>
 Dat.bind (yXi (pCf d0.1)) fun x6 =>
 Dat.bind (yZs (pCf d0.1)) fun x7 =>
 Dat.bind (yQi ((pCf d0.1),((x5.1,(x5.2.1,())),d0.2.2.2))) fun x8 =>
 Dat.bind (yW6 ((pCf d0.1),((d0.2.1.1,(d0.2.1.2.1,())),d0.2.2.2))) fun x9 =>
 Dat.bind (zKc ((pCf d0.1),(x5.1,(x5.2.1,())))) fun x10 =>
 Dat.bind (zJ6 ((pCf d0.1),(d0.2.1.1,(d0.2.1.2.1,())))) fun x11 =>
 Dat.bind (zXz (x5.1,(x5.2.1,()))) fun x12 =>
 Dat.join (σ:=Bool) (fun k13 =>
 Dat.bind (zXc ((x6.1.1,(x6.1.2.1,())),(x7.1.1,(x7.1.2.1,())))) fun x14 =>
 (bif x14 then (bif (Dat.zQg true (Dat.ieq x6.2 x7.2) false) then (bif (Dat.zQg true (Dat.ieq x8.1 x9.1) false) then (bif (Dat.zQg true (Dat.beq x8.2 x9.2) false) then if (Dat.XOk x10.1.2.2 x10.2.1.1) then Dat.bind (Dat.mapO (vwF x10.1.1 x10.1.2.1) (Dat.xget x10.1.2.2 x10.2.1.1)) fun x24 =>
 Dat.bind (zXc ((x24,(x10.2.1.2.1,())),(x11.1.1,(x11.1.2.1,())))) fun x25 =>
 (bif (Dat.zQg true x25 false) then (bif (Dat.zQg true (Dat.ieq x10.2.2.1 x11.2.1) false) then (bif (Dat.zQg true (Dat.ieq x10.2.2.2 x11.2.2) false) then if (Dat.XOk x12.1.2.2 x12.2.1) then Dat.bind (Dat.mapO (vwF x12.1.1 x12.1.2.1) (Dat.xget x12.1.2.2 x12.2.1)) fun x35 =>
 Dat.bind (zXc ((x35,(x12.2.2.1,())),(d0.2.1.1,(d0.2.1.2.1,())))) fun x36 =>
 k13 (Dat.zQg true x36 false)
 else none
 else k13 false)
 else k13 false)
 else k13 false)
 else none
 else k13 false)
 else k13 false)
 else k13 false)
 else k13 false)) fun j37 =>
 Dat.join (σ:=Bool) (fun k38 =>
 Dat.bind (zXi ((pCf d0.1),(x5.1,(x5.2.1,())))) fun x39 =>
 Dat.bind (zZu ((pCf d0.1),(d0.2.1.1,(d0.2.1.2.1,())))) fun x40 =>
 (bif (Dat.ieq x39 x40) then Dat.bind (zJy ((x5.1,(x5.2.1,())),(d0.2.2.1.1,(d0.2.2.1.2.1,())))) fun x41 =>
 Dat.bind (zXc ((d0.2.1.1,(d0.2.1.2.1,())),(d0.2.2.1.1,(d0.2.2.1.2.1,())))) fun x42 =>
 (bif (Dat.zQg true (Dat.beq x41 x42) false) then Dat.bind (zJy ((x5.1,(x5.2.1,())),(d0.2.1.1,(d0.2.1.2.1,())))) fun x43 =>
 (bif (Dat.zQg true x43 false) then Dat.bind (zYb ((pCf d0.1),(x5.1,(x5.2.1,())))) fun x44 =>
 Dat.bind (zY8 ((pCf d0.1),(d0.2.1.1,(d0.2.1.2.1,())))) fun x45 =>
 Dat.bind (zX4 (x44,x45)) fun x46 =>
 k38 (Dat.zQg true x46 false)
 else k38 false)
 else k38 false)
 else k38 false)) fun j47 =>
 Dat.loop (spB x10.2.1.1 (fun s48 =>
 Dat.loop (spB x12.2.1 (fun s134 =>
 Dat.join (σ:=Bool) (fun k220 =>
 (bif j37 then (bif (Dat.zQg true j47 false) then Dat.bind (zXc ((x5.1,(x5.2.1,())),(d0.2.1.1,(d0.2.1.2.1,())))) fun x221 =>
 k220 (Dat.zQg true x221 false)
 else k220 false)
 else k220 false)) fun j222 =>
 some j222)) (0,(x12.1.2.1,(x12.1.1,x12.1.2.2))))) (0,(x10.1.2.1,(x10.1.1,x10.1.2.2))))
noncomputable def zZa : PFn:={ args:=[(.pair (.int .i64) (.pair (.int .i64) (.pair (.int .i64) (.pair (.int .i64) (.pair (.int .i64) (.pair (.int .i64) (.pair (.int .i64) (.pair (.int .i64) (.pair (.int .i64) .unit))))))))),(.pair (.list (.pair (.int .u8) (.pair (.int .i64) (.pair (.list (.int .u8)) (.pair (.list (.int .i64)) (.pair .bool (.pair .bool .unit))))))) (.pair (.int .i64) .unit)),(.pair (.list (.pair (.int .u8) (.pair (.int .i64) (.pair (.list (.int .u8)) (.pair (.list (.int .i64)) (.pair .bool (.pair .bool .unit))))))) (.pair (.int .i64) .unit)),(.int .i64)],res:=[.bool],fn:=zZt }
def sp4_21 : List LSpec×List Nat:=([uk 5021000,uk 5021001,uk 2100,{ id:=5021002,known:=true,toks:=[],items:=[.slot 12 (.val .bool)],junk:=[4,5,6,7,8,9,10,11],tails:=[] },uk 5021003,{ id:=5021004,known:=true,toks:=[],items:=[.slot 32 (.val .bool)],junk:=[15,16,17,18,19,20,21,22,23,24,25,26,27,28,29,30,31],tails:=[] },uk 5021005,uk 5021006,uk 5021007,uk 5021008],[])
def sp4_79 : List LSpec×List Nat:=([uk 5079000,{ id:=5079001,known:=true,toks:=[],items:=[.slot 2 (.val .bool)],junk:=[3,4,5,6,7,8,9,10,11,12,13,14],tails:=[] }],[])
def sp4_98 : List LSpec×List Nat:=([uk 5098000,{ id:=5098001,known:=true,toks:=[],items:=[.slot 8 (.val .bool)],junk:=[3,4,5,6,7],tails:=[] },uk 5098002,uk 5098003,uk 5098004],[])
def sp4_95 : List LSpec×List Nat:=([uk 5095000,uk 5095001,uk 9500,uk 5095002,{ id:=5095003,known:=true,toks:=[],items:=[.slot 19 (.val .bool)],junk:=[13,14,15,16,17,18],tails:=[] },uk 5095004,uk 5095005,uk 5095006],[])
def sp4_89 : List LSpec×List Nat:=([uk 5089000,uk 8900,{ id:=5089001,known:=true,toks:=[],items:=[.slot 18 (.val .bool)],junk:=[10,11,12,13,14,15,16,17],tails:=[] },uk 5089002,uk 5089003],[])
def sp4_93 : List LSpec×List Nat:=([uk 5093000,{ id:=5093001,known:=true,toks:=[],items:=[.slot 6 (.val .bool)],junk:=[7,8,9,10,11,12,13,14],tails:=[] }],[])
def sp4_83 : List LSpec×List Nat:=([uk 5083000,{ id:=5083001,known:=true,toks:=[],items:=[.slot 2 (.val .bool)],junk:=[3,4,5,6,7,8,9,10,11,12,13,14,15,16,17,18,19,20,21,22,23,24,25,26,27,28,29,30,31,32,33,34,35,36,37,38,39,40,41,42,43,44,45],tails:=[] }],[])
def sp4_56 : List LSpec×List Nat:=([uk 5056000,{ id:=5056001,known:=true,toks:=[],items:=[.slot 2 (.val .bool)],junk:=[3,4,5,6,7,8,9,10],tails:=[] }],[])
def sp4_42 : List LSpec×List Nat:=([uk 5042000,{ id:=5042001,known:=true,toks:=[],items:=[.slot 4 (.val .bool)],junk:=[5,6,7,8,9,10,11,12,13],tails:=[] }],[])
def sp4_65 : List LSpec×List Nat:=([uk 5065000,uk 5065001,uk 5065002,uk 5065003,uk 5065004,uk 6500,uk 5065005,uk 5065006,uk 5065007,{ id:=5065008,known:=true,toks:=[],items:=[.slot 26 (.val .bool)],junk:=[21,22,23,24,25],tails:=[] },uk 5065009,uk 5065010,uk 5065011,{ id:=5065012,known:=true,toks:=[],items:=[.slot 7 (.val .bool)],junk:=[28,29,30,31,32,33,34,35,36,37],tails:=[] },uk 5065013,uk 5065014,uk 5065015,{ id:=5065016,known:=true,toks:=[],items:=[.slot 4 (.val .bool)],junk:=[42,43,44,45,46,47,48,49,50,51,52,53,54,55,56,57,58,59,60,61,62,63,64,65],tails:=[] },uk 5065017,uk 5065018,{ id:=5065019,known:=true,toks:=[],items:=[.slot 4 (.val .bool)],junk:=[68,69,70,71,72,73,74,75,76,77,78,79,80,81,82,83],tails:=[] },uk 5065020,uk 5065021,{ id:=5065022,known:=true,toks:=[],items:=[.slot 4 (.val .bool)],junk:=[86,87,88,89,90,91,92,93,94],tails:=[] },uk 5065023],[])
def sp4_29 : List LSpec×List Nat:=([uk 5029000,uk 5029001,uk 5029002,uk 5029003,uk 5029004,{ id:=5029005,known:=true,toks:=[],items:=[.slot 26 (.val .bool)],junk:=[14,15,16,17,18,19,20,21,22,23,24,25],tails:=[] },uk 5029006,uk 5029007,uk 5029008,uk 5029009,uk 2900,uk 5029010,uk 5029011,uk 5029012,uk 5029013,uk 5029014,uk 5029015,uk 5029016,uk 5029017,uk 5029018,uk 5029019,uk 5029020,uk 5029021,uk 5029022,uk 5029023],[])
def sp4_50 : List LSpec×List Nat:=([uk 5050000,{ id:=5050001,known:=true,toks:=[],items:=[.slot 3 (.val .bool)],junk:=[4,5,6,7,8,9,10,11,12],tails:=[] }],[])
def sp4_87 : List LSpec×List Nat:=([uk 5087000,uk 5087001,uk 5087002,uk 5087003,uk 5087004,uk 8700,uk 5087005,uk 5087006,{ id:=5087007,known:=true,toks:=[],items:=[.slot 32 (.val .bool)],junk:=[19,20,21,22,23,24,25,26,27,28,29,30,31],tails:=[] },uk 5087008,uk 5087009,uk 5087010,uk 5087011,uk 5087012,uk 5087013,{ id:=5087014,known:=true,toks:=[],items:=[.slot 4 (.val .bool)],junk:=[37,38,39,40,41,42,43,44,45,46,47,48,49,50,51,52,53,54,55,56,57,58,59,60],tails:=[] },uk 5087015,uk 5087016,{ id:=5087017,known:=true,toks:=[],items:=[.slot 4 (.val .bool)],junk:=[63,64,65,66,67,68,69,70,71,72,73,74,75,76,77,78,79,80,81,82,83,84,85,86,87],tails:=[] },{ id:=5087018,known:=true,toks:=[],items:=[.slot 4 (.val .bool)],junk:=[88,89,90,91,92,93,94,95,96,97,98,99,100,101,102,103,104,105,106,107,108,109,110],tails:=[] }],[])
def sp4_66 : List LSpec×List Nat:=([uk 5066000,{ id:=5066001,known:=true,toks:=[],items:=[.slot 25 (.val .bool)],junk:=[7,8,9,10,11,12,13,14,15,16,17,18,19,20,21,22,23,24],tails:=[] },uk 5066002,uk 5066003,uk 5066004,uk 6600,uk 5066005,uk 5066006,uk 5066007,uk 5066008,uk 5066009,uk 5066010,uk 6601,uk 5066011,uk 5066012,{ id:=5066013,known:=true,toks:=[],items:=[.slot 76 (.val .bool)],junk:=[46,47,48,49,50,51,52,53,54,55,56,57,58,59,60,61,62,63,64,65,66,67,68,69,70,71,72,73,74,75],tails:=[] },uk 5066014,uk 5066015,uk 5066016,uk 5066017,uk 5066018],[])
def sp4_30 : List LSpec×List Nat:=([uk 5030000,{ id:=5030001,known:=true,toks:=[],items:=[.slot 13 (.val .bool)],junk:=[5,6,7,8,9,10,11,12],tails:=[] },uk 5030002,uk 5030003,uk 5030004],[])
def sp4_58 : List LSpec×List Nat:=([uk 5058000,uk 5058001,uk 5800,uk 5058002,uk 5058003,{ id:=5058004,known:=true,toks:=[],items:=[.slot 29 (.val .bool)],junk:=[13,14,15,16,17,18,19,20,21,22,23,24,25,26,27,28],tails:=[] },uk 5058005,uk 5058006,uk 5058007,uk 5058008],[])
def sp4_24 : List LSpec×List Nat:=([uk 5024000,{ id:=5024001,known:=true,toks:=[],items:=[.slot 17 (.val .bool)],junk:=[8,9,10,11,12,13,14,15,16],tails:=[] },uk 5024002,uk 5024003,uk 5024004],[])
def sp4_63 : List LSpec×List Nat:=([],[3])
def sp4_25 : List LSpec×List Nat:=([uk 5025000,uk 5025001,uk 5025002,uk 5025003,uk 5025004,uk 5025005,uk 5025006,uk 5025007,uk 5025008,{ id:=5025009,known:=true,toks:=[],items:=[.slot 27 (.val .bool)],junk:=[28,29,30,31,32,33,34],tails:=[] },uk 5025010,uk 5025011,uk 5025012,uk 5025013,uk 5025014,uk 5025015,uk 5025016],[])
def sp4_62 : List LSpec×List Nat:=([uk 5062000,uk 5062001,uk 5062002,uk 5062003,uk 6200,uk 5062004,uk 5062005,uk 5062006,uk 5062007,{ id:=5062008,known:=true,toks:=[],items:=[.slot 37 (.val .bool)],junk:=[31,32,33,34,35,36],tails:=[] },uk 5062009,{ id:=5062010,known:=true,toks:=[],items:=[.slot 44 (.val .bool)],junk:=[38,39,40,41,42,43],tails:=[] },uk 5062011,uk 5062012,uk 5062013,uk 5062014,uk 5062015,uk 5062016],[])
def sp4_28 : List LSpec×List Nat:=([uk 5028000,{ id:=5028001,known:=true,toks:=[],items:=[.slot 21 (.val .bool)],junk:=[8,9,10,11,12,13,14,15,16,17,18,19,20],tails:=[] },uk 5028002,uk 5028003,uk 5028004,uk 2800,uk 5028005,uk 5028006,uk 5028007,{ id:=5028008,known:=true,toks:=[],items:=[.slot 80 (.val .bool)],junk:=[39,40,41,42,43,44,45,46,47,48,49,50,51,52,53,54,55,56,57,58,59,60,61,62,63,64,65,66,67,68,69,70,71,72,73,74,75,76,77,78,79],tails:=[] },uk 5028009,uk 5028010,uk 5028011,uk 5028012],[])
def sp4_68 : List LSpec×List Nat:=([uk 5068000,{ id:=5068001,known:=true,toks:=[],items:=[.slot 4 (.val .bool)],junk:=[5,6,7,8,9,10,11,12,13,14,15,16,17,18,19,20,21,22,23,24,25,26,27,28,29,30,31,32,33,34,35,36,37,38,39,40,41,42,43,44],tails:=[] }],[])
def sp4_31 : List LSpec×List Nat:=([uk 5031000,{ id:=5031001,known:=true,toks:=[],items:=[.slot 4 (.val .bool)],junk:=[5,6,7,8,9,10,11,12,13,14,15,16],tails:=[] }],[])
def sp4_33 : List LSpec×List Nat:=([{ id:=3300,known:=true,toks:=[],items:=[.slot 2 (.val (.int .i64)), .rows 13001000 (.int .i64), .rows 23001000 (.int .u8), .rows 3001000 (.pair (.int .u8) (.pair (.int .i64) (.pair (.mix 23001000 (.int .u8)) (.pair (.mix 13001000 (.int .i64)) (.pair .bool (.pair .bool .unit))))))],junk:=[5,6,7,8,9,12,13,14,15,16,3,17,18,19,20,21,22,23,24,25,28,29,30,31,32,33,34,35,36,37,38,39,40,41,42,43,44,45,26,27,4,46,47,48,49,50,51,52,53,54,57,58,59,60,61,62,63,64,55,56,10,11],tails:=[] },{ id:=3301,known:=true,toks:=[],items:=[.slot 3 (.val (.int .i64)), .rows 21000007 (.int .u8)],junk:=[17,18,19,20,21,22,23,24,25,28,29,30,31,32,33,34,35,36,37,38,39,40,41,42,43,44,45,26,27],tails:=[] },{ id:=3302,known:=true,toks:=[],items:=[.slot 4 (.val (.int .i64)), .rows 11000007 (.int .i64)],junk:=[46,47,48,49,50,51,52,53,54,57,58,59,60,61,62,63,64,55,56],tails:=[] }],[])
def sp4_4 : List LSpec×List Nat:=([uk 5004000,{ id:=5004001,known:=true,toks:=[],items:=[.slot 32 (.val .bool)],junk:=[27,28,29,30,31],tails:=[] },uk 5004002,uk 5004003,uk 5004004,uk 5004005,uk 5004006,uk 5004007,uk 5004008,uk 5004009,uk 5004010,uk 5004011,{ id:=5004012,known:=true,toks:=[],items:=[.slot 25 (.val .bool)],junk:=[75,76,77,78,79,80,81,82,83,84,85,86,87,88,89,90,91,92,93,94,95,96,97,98,99,100,101,102,103,104,105,106,107,108,109,110,111,112],tails:=[] },{ id:=5004013,known:=true,toks:=[],items:=[.slot 26 (.val .bool)],junk:=[113,114,115,116,117,118,119,120,121,122,123,124,125,126,127,128,129,130,131,132,133,134,135,136,137,138,139,140,141,142],tails:=[] },uk 5004014,uk 5004015,{ id:=5004016,known:=true,toks:=[],items:=[.slot 8 (.val .bool)],junk:=[147,148,149,150,151,152,153,154,155],tails:=[] }],[])
def spt4 : Tab (List LSpec×List Nat):=(.node (.node (.node (.node (.node (.node (.node .leaf (some sp4_63) .leaf) (some sp4_31) (.node .leaf (some sp4_95) .leaf)) none (.node (.node .leaf (some sp4_79) .leaf) none .leaf)) none (.node .leaf none (.node (.node .leaf (some sp4_87) .leaf) none .leaf))) none (.node (.node .leaf none (.node (.node .leaf (some sp4_83) .leaf) none .leaf)) none .leaf)) none (.node (.node (.node (.node (.node .leaf (some sp4_65) .leaf) (some sp4_33) .leaf) none .leaf) none (.node .leaf (some sp4_25) (.node (.node .leaf (some sp4_89) .leaf) none .leaf))) none (.node (.node .leaf (some sp4_21) .leaf) none (.node .leaf (some sp4_29) (.node (.node .leaf (some sp4_93) .leaf) none .leaf))))) none (.node (.node (.node .leaf none (.node .leaf (some sp4_24) (.node .leaf (some sp4_56) .leaf))) (some sp4_4) (.node (.node (.node (.node .leaf (some sp4_68) .leaf) none .leaf) none .leaf) none (.node .leaf (some sp4_28) .leaf))) none (.node (.node (.node (.node (.node .leaf (some sp4_66) .leaf) none (.node .leaf (some sp4_98) .leaf)) none (.node .leaf (some sp4_50) .leaf)) none (.node (.node .leaf (some sp4_42) .leaf) none (.node .leaf (some sp4_58) .leaf))) none (.node .leaf none (.node .leaf (some sp4_30) (.node .leaf (some sp4_62) .leaf))))))
def spf4 (f : Nat) : List LSpec×List Nat:=(spt4.get f).getD ([],[])
theorem yX5 : zWf Try.prog cfg 4 zZa:=fnDr spf4 [] (l:=[(21,yZ2),(22,yWb),(8,yJ9),(23,xQ9),(12,yZ6),(24,yJ4),(26,yXu),(28,yJ1),(29,zZn),(30,zZ9),(31,yZ5),(20,yXw),(32,yZ3),(19,zKz)]) (lo:=[]) (lr:=[(27,yQ8),(25,zYq)]) zWt zQt (.cons xXr (.cons yZ0 (.cons xK9 (.cons xY2 (.cons xXv (.cons xK4 (.cons xQ5 (.cons xK1 (.cons zZ6 (.cons zKr (.cons xXu (.cons xQ7 (.cons xXs (.cons zYr .nil)))))))))))))) .nil (.cons yYs (.cons yZx .nil)) (fun d=>by kernel_rfl)
end Go.Proofs.Ytablhcjjfiepaaa
