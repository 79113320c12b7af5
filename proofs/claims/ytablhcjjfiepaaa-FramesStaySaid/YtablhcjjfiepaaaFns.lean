/- The functions of the program, as functions on plain data. -/
import Derived.Test.YtablhcjjfiepaaaCfg
import Derived.Test.YtablhcjjfiepaaaM6
import Derived.ProofKit
import Derived.Test.YtablhcjjfiepaaaConfS
namespace Go.Proofs.Ytablhcjjfiepaaa
open Go.Eng
set_option linter.unusedVariables false
set_option maxRecDepth 100000
abbrev TFr : Type:=Int×(Int×(List Int×(List Int×(Bool×(Bool×Unit)))))
abbrev TMf : Type:=Int×(Int×(MixE Int×(MixE Int×(Bool×(Bool×Unit)))))
abbrev TCf : Type:=Int×(Int×(Int×(Int×(Int×(Int×(Int×(Int×(Int×Unit))))))))
@[reducible] def zFr : TFr:=(0,(0,([],([],(false,(false,()))))))
@[reducible] def zMf : TMf:=(0,(0,(.nil,(.nil,(false,(false,()))))))
@[reducible] def pCf (c : TCf) : TCf:=(c.1,(c.2.1,(c.2.2.1,(c.2.2.2.1,(c.2.2.2.2.1,(c.2.2.2.2.2.1,(c.2.2.2.2.2.2.1,(c.2.2.2.2.2.2.2.1,(c.2.2.2.2.2.2.2.2.1,())))))))))
def sp0 (f : Nat) : List LSpec×List Nat:=([],[])
noncomputable def law25_ready (d0 : Int × Int) : Option TFr :=
 if (Dat.Le (Dat.addN 0 1) (Dat.len (7::([] : List Int)))) then if (Dat.Le (Dat.addN 0 2) (Dat.len (d0.2::(0::([] : List Int))))) then some (2,(d0.1,((Dat.seg (7::([] : List Int)) 0 1),((Dat.seg (d0.2::(0::([] : List Int))) 0 2),(true,(false,()))))))
 else none
 else none
noncomputable def p_law25_ready : PFn:={ args:=[(.int .i64),(.int .i64)],res:=[(.pair (.int .u8) (.pair (.int .i64) (.pair (.list (.int .u8)) (.pair (.list (.int .i64)) (.pair .bool (.pair .bool .unit))))))],fn:=law25_ready }
theorem pd_law25_ready : PureD Try.prog cfg 15 p_law25_ready:=fnD sp0 (l:=[]) cfgOk cfgGlob .nil (fun d=>by kernel_rfl)
noncomputable def law25_two (d0 : Unit) : Option TCf :=
 some (4,(1,(2,(1,(4,(2,(2,(2,(4,())))))))))
noncomputable def p_law25_two : PFn:={ args:=[],res:=[(.pair (.int .i64) (.pair (.int .i64) (.pair (.int .i64) (.pair (.int .i64) (.pair (.int .i64) (.pair (.int .i64) (.pair (.int .i64) (.pair (.int .i64) (.pair (.int .i64) .unit)))))))))],fn:=law25_two }
theorem pd_law25_two : PureD Try.prog cfg 9 p_law25_two:=fnD sp0 (l:=[]) cfgOk cfgGlob .nil (fun d=>by kernel_rfl)
noncomputable def conf_bound_int_holds (d0 : Int × (Int × (Int × Unit))) : Option Bool :=
 (bif (Dat.ile d0.2.1 d0.1) then some (Dat.pickB true (Dat.ile d0.1 d0.2.2.1) false)
 else some false)
noncomputable def p_conf_bound_int_holds : PFn:={ args:=[(.pair (.int .i64) (.pair (.int .i64) (.pair (.int .i64) .unit)))],res:=[.bool],fn:=conf_bound_int_holds }
theorem pd_conf_bound_int_holds : PureD Try.prog cfg 79 p_conf_bound_int_holds:=fnD sp0 (l:=[]) cfgOk cfgGlob .nil (fun d=>by kernel_rfl)
noncomputable def geo_Check (d0 : Int) : Option Int :=
 (bif (Dat.ilt d0 1) then some 2
 else (bif (Dat.pickB false true (Dat.igt d0 6)) then some 2
 else some 0))
noncomputable def p_geo_Check : PFn:={ args:=[(.int .i64)],res:=[(.int .i64)],fn:=geo_Check }
theorem pd_geo_Check : PureD Try.prog cfg 98 p_geo_Check:=fnD sp0 (l:=[]) cfgOk cfgGlob .nil (fun d=>by kernel_rfl)
noncomputable def geo_Leaves (d0 : Int) : Option (Int × Int) :=
 Dat.bind (geo_Check d0) fun x1 =>
 (bif (Dat.ine x1 0) then some (0,x1)
 else if (Dat.Neg d0) then none
 else Dat.bnd (Dat.shl .i64 1 d0) fun x4 =>
 some (x4,0))
noncomputable def p_geo_Leaves : PFn:={ args:=[(.int .i64)],res:=[(.int .i64),(.int .i64)],fn:=geo_Leaves }
theorem pd_geo_Leaves : PureD Try.prog cfg 97 p_geo_Leaves:=fnD sp0 (l:=[(98,p_geo_Check)]) cfgOk cfgGlob (.cons pd_geo_Check .nil) (fun d=>by kernel_rfl)
noncomputable def conf_high (d0 : Int) : Option Int :=
 Dat.loop (fun (s1 : Int) k2 =>
 Dat.bind (geo_Leaves s1) fun x3 =>
 (bif (Dat.ine x3.2 0) then some s1
 else (bif (Dat.pickB false true (Dat.ige x3.1 d0)) then some s1
 else Dat.bnd (Dat.wrap .i64 (Dat.add s1 1)) fun x4 =>
 k2 x4))) 1
noncomputable def p_conf_high : PFn:={ args:=[(.int .i64)],res:=[(.int .i64)],fn:=conf_high }
def sp95_95 : List LSpec×List Nat:=([{ id:=9500,known:=true,toks:=[],items:=[.slot 3 (.val (.int .i64))],junk:=[9,10,8,11,12,4,5,13,14,15,16,17,18,19,20,2,6,7],tails:=[] }],[])
def spt95 : Tab (List LSpec×List Nat):=(.node (.node (.node (.node (.node (.node .leaf none (.node .leaf (some sp95_95) .leaf)) none .leaf) none .leaf) none .leaf) none .leaf) none .leaf)
def spf95 (f : Nat) : List LSpec×List Nat:=(spt95.get f).getD ([],[])
theorem pd_conf_high : PureD Try.prog cfg 95 p_conf_high:=fnD spf95 (l:=[(97,p_geo_Leaves)]) cfgOk cfgGlob (.cons pd_geo_Leaves .nil) (fun d=>by kernel_rfl)
noncomputable def conf_level (d0 : TCf × (Int × Int)) : Option (Int × (Int × (Int × (Int × Unit)))) :=
 Dat.bnd (Dat.wrap .i64 (Dat.add 8 d0.2.2)) fun x1 =>
 Dat.bnd (Dat.wrap .i64 (Dat.mul d0.1.2.2.2.1 x1)) fun x2 =>
 Dat.bnd (Dat.wrap .i64 (Dat.add x2 64)) fun x3 =>
 Dat.bind (conf_high d0.2.1) fun x4 =>
 some (d0.2.1,(d0.2.2,(x4,(x3,()))))
noncomputable def p_conf_level : PFn:={ args:=[(.pair (.int .i64) (.pair (.int .i64) (.pair (.int .i64) (.pair (.int .i64) (.pair (.int .i64) (.pair (.int .i64) (.pair (.int .i64) (.pair (.int .i64) (.pair (.int .i64) .unit))))))))),(.int .i64),(.int .i64)],res:=[(.pair (.int .i64) (.pair (.int .i64) (.pair (.int .i64) (.pair (.int .i64) .unit))))],fn:=conf_level }
theorem pd_conf_level : PureD Try.prog cfg 90 p_conf_level:=fnD sp0 (l:=[(95,p_conf_high)]) cfgOk cfgGlob (.cons pd_conf_high .nil) (fun d=>by kernel_rfl)
noncomputable def conf_isLast (d0 : TCf × (Int × (Int × (Int × (Int × Unit))))) : Option Bool :=
 some (Dat.ile d0.2.1 d0.1.2.2.2.2.2.2.2.2.1)
noncomputable def p_conf_isLast : PFn:={ args:=[(.pair (.int .i64) (.pair (.int .i64) (.pair (.int .i64) (.pair (.int .i64) (.pair (.int .i64) (.pair (.int .i64) (.pair (.int .i64) (.pair (.int .i64) (.pair (.int .i64) .unit))))))))),(.pair (.int .i64) (.pair (.int .i64) (.pair (.int .i64) (.pair (.int .i64) .unit))))],res:=[.bool],fn:=conf_isLast }
theorem pd_conf_isLast : PureD Try.prog cfg 91 p_conf_isLast:=fnD sp0 (l:=[]) cfgOk cfgGlob .nil (fun d=>by kernel_rfl)
noncomputable def conf_Check (d0 : TCf) : Option Int :=
 Dat.bind (conf_bounds (d0.1,(d0.2.1,(d0.2.2.1,(d0.2.2.2.1,(d0.2.2.2.2.1,(d0.2.2.2.2.2.1,(d0.2.2.2.2.2.2.1,(d0.2.2.2.2.2.2.2.1,(d0.2.2.2.2.2.2.2.2.1,())))))))))) fun x1 =>
 Dat.loop (fun (s2 : Int) k3 =>
 (bif (Dat.ilt s2 9) then if (Dat.In s2 9) then Dat.bnd (Dat.get x1 (Dat.toN s2) (0,(0,(0,())))) fun x6 =>
 Dat.bind (conf_bound_int_holds (x6.1,(x6.2.1,(x6.2.2.1,())))) fun x7 =>
 (bif (Dat.bnot x7) then some 8
 else Dat.bnd (Dat.wrap .i64 (Dat.add s2 1)) fun x8 =>
 k3 x8)
 else none
 else Dat.bind (conf_level ((d0.1,(d0.2.1,(d0.2.2.1,(d0.2.2.2.1,(d0.2.2.2.2.1,(d0.2.2.2.2.2.1,(d0.2.2.2.2.2.2.1,(d0.2.2.2.2.2.2.2.1,(d0.2.2.2.2.2.2.2.2.1,()))))))))),(d0.1,d0.2.1))) fun x9 =>
 Dat.loop (fun (s10 : (Int×(Int×(Int×Int)))×Int) k11 =>
 Dat.bnd (Dat.wrap .i64 (Dat.add s10.2 1)) fun x12 =>
 Dat.bind (conf_isLast ((d0.1,(d0.2.1,(d0.2.2.1,(d0.2.2.2.1,(d0.2.2.2.2.1,(d0.2.2.2.2.2.1,(d0.2.2.2.2.2.2.1,(d0.2.2.2.2.2.2.2.1,(d0.2.2.2.2.2.2.2.2.1,()))))))))),(s10.1.1,(s10.1.2.1,(s10.1.2.2.1,(s10.1.2.2.2,())))))) fun x13 =>
 (bif (Dat.pickB true (Dat.bnot x13) false) then Dat.bnd (Dat.wrap .i64 (Dat.add s10.1.1 d0.2.2.1)) fun x14 =>
 Dat.bnd (Dat.wrap .i64 (Dat.sub x14 1)) fun x15 =>
 if (Dat.IsZ d0.2.2.1) then none
 else Dat.bnd (Dat.wrap .i64 (Dat.tdiv x15 d0.2.2.1)) fun x18 =>
 Dat.bnd (Dat.wrap .i64 (Dat.mul 4 d0.2.2.1)) fun x19 =>
 Dat.bind (conf_level ((d0.1,(d0.2.1,(d0.2.2.1,(d0.2.2.2.1,(d0.2.2.2.2.1,(d0.2.2.2.2.2.1,(d0.2.2.2.2.2.2.1,(d0.2.2.2.2.2.2.2.1,(d0.2.2.2.2.2.2.2.2.1,()))))))))),(x18,x19))) fun x20 =>
 k11 ((x20.1,(x20.2.1,(x20.2.2.1,x20.2.2.2.1))),x12)
 else (bif (Dat.igt x12 4) then some 8
 else some 0))) ((x9.1,(x9.2.1,(x9.2.2.1,x9.2.2.2.1))),0))) 0
noncomputable def p_conf_Check : PFn:={ args:=[(.pair (.int .i64) (.pair (.int .i64) (.pair (.int .i64) (.pair (.int .i64) (.pair (.int .i64) (.pair (.int .i64) (.pair (.int .i64) (.pair (.int .i64) (.pair (.int .i64) .unit)))))))))],res:=[(.int .i64)],fn:=conf_Check }
def sp41_89 : List LSpec×List Nat:=([{ id:=8900,known:=true,toks:=[],items:=[.cells 1000003 [.val (.int .i64), .val (.int .i64), .val (.int .i64), .val (.int .i64)], .cells 1 [.val (.int .i64)]],junk:=[10,11,12,13,14,15,16,17,18,19,20,21,22,23,24,25,26,27,28,29,30,31,32],tails:=[] }],[])
def sp41_41 : List LSpec×List Nat:=([{ id:=4100,known:=true,toks:=[],items:=[.slot 8 (.val (.int .i64))],junk:=[9,10,4,11,12,13,2,14],tails:=[] }],[])
def spt41 : Tab (List LSpec×List Nat):=(.node (.node .leaf none (.node (.node .leaf none (.node (.node .leaf (some sp41_41) .leaf) none (.node (.node .leaf (some sp41_89) .leaf) none .leaf))) none .leaf)) none .leaf)
def spf41 (f : Nat) : List LSpec×List Nat:=(spt41.get f).getD ([],[])
theorem pd_conf_Check : PureD Try.prog cfg 41 p_conf_Check:=fnD spf41 (l:=[(78,p_conf_bounds),(79,p_conf_bound_int_holds),(90,p_conf_level),(91,p_conf_isLast)]) cfgOk cfgGlob (.cons pd_conf_bounds (.cons pd_conf_bound_int_holds (.cons pd_conf_level (.cons pd_conf_isLast .nil)))) (fun d=>by kernel_rfl)
noncomputable def frames_isPlace (d0 : ((List TFr) × (Int × Unit)) × Int) : Option Bool :=
 (bif (Dat.ige d0.2 0) then some (Dat.pickB true (Dat.ilt d0.2 (Dat.ofN (Dat.len d0.1.1))) false)
 else some false)
noncomputable def p_frames_isPlace : PFn:={ args:=[(.pair (.list (.pair (.int .u8) (.pair (.int .i64) (.pair (.list (.int .u8)) (.pair (.list (.int .i64)) (.pair .bool (.pair .bool .unit))))))) (.pair (.int .i64) .unit)),(.int .i64)],res:=[.bool],fn:=frames_isPlace }
theorem pd_frames_isPlace : PureD Try.prog cfg 42 p_frames_isPlace:=fnD sp0 (l:=[]) cfgOk cfgGlob .nil (fun d=>by kernel_rfl)
noncomputable def frames_isPinned_1 (d0 : Int) : Option Bool :=
 some (Dat.igt d0 0)
noncomputable def p_frames_isPinned_1 : PFn:={ args:=[(.int .i64)],res:=[.bool],fn:=frames_isPinned_1 }
theorem pd_frames_isPinned_1 : PureD Try.prog cfg 82 p_frames_isPinned_1:=fnD sp0 (l:=[]) cfgOk cfgGlob .nil (fun d=>by kernel_rfl)
noncomputable def frames_isPinned (d0 : TFr) : Option Bool :=
 Dat.loop (fun (s1 : Int) k2 =>
 (bif (Dat.ilt s1 (Dat.ofN (Dat.len d0.2.2.2.1))) then if (Dat.Ix s1 (Dat.len d0.2.2.2.1)) then Dat.bnd (Dat.get d0.2.2.2.1 (Dat.toN s1) 0) fun x5 =>
 Dat.bind (frames_isPinned_1 x5) fun x6 =>
 (bif x6 then some (Dat.ige s1 0)
 else Dat.bnd (Dat.wrap .i64 (Dat.add s1 1)) fun x7 =>
 k2 x7)
 else none
 else some (Dat.ige (-1) 0))) 0
noncomputable def p_frames_isPinned : PFn:={ args:=[(.pair (.int .u8) (.pair (.int .i64) (.pair (.list (.int .u8)) (.pair (.list (.int .i64)) (.pair .bool (.pair .bool .unit))))))],res:=[.bool],fn:=frames_isPinned }
def sp44_92 : List LSpec×List Nat:=([{ id:=9200,known:=true,toks:=[],items:=[.slot 8 (.val (.int .i64))],junk:=[9,10,5,11,12,13,14,15,16,17,4,18],tails:=[] }],[])
def spt44 : Tab (List LSpec×List Nat):=(.node .leaf none (.node (.node .leaf none (.node .leaf none (.node .leaf none (.node (.node .leaf (some sp44_92) .leaf) none .leaf)))) none .leaf))
def spf44 (f : Nat) : List LSpec×List Nat:=(spt44.get f).getD ([],[])
theorem pd_frames_isPinned : PureD Try.prog cfg 44 p_frames_isPinned:=fnD spf44 (l:=[(82,p_frames_isPinned_1)]) cfgOk cfgGlob (.cons pd_frames_isPinned_1 .nil) (fun d=>by kernel_rfl)
noncomputable def frames_mayBe (d0 : TCf × TFr) : Option Bool :=
 (bif (Dat.ine (Dat.ofN (Dat.len d0.2.2.2.2.1)) d0.1.2.2.2.2.2.2.1) then some false
 else Dat.loop (fun (s1 : Int) k2 =>
 (bif (Dat.ilt s1 (Dat.ofN (Dat.len d0.2.2.2.2.1))) then if (Dat.Ix s1 (Dat.len d0.2.2.2.2.1)) then Dat.bnd (Dat.get d0.2.2.2.2.1 (Dat.toN s1) 0) fun x5 =>
 (bif (Dat.ilt x5 0) then some false
 else (bif (Dat.pickB false true (Dat.igt x5 8)) then some false
 else Dat.bnd (Dat.wrap .i64 (Dat.add s1 1)) fun x6 =>
 k2 x6))
 else none
 else (bif (Dat.ige d0.2.2.1 0) then (bif (Dat.ieq d0.2.1 0) then (bif (Dat.ieq d0.2.2.1 0) then (bif (Dat.pickB true (Dat.ieq (Dat.ofN (Dat.len d0.2.2.2.1)) 0) false) then Dat.bind (frames_isPinned (d0.2.1,(d0.2.2.1,(d0.2.2.2.1,(d0.2.2.2.2.1,(d0.2.2.2.2.2.1,(d0.2.2.2.2.2.2.1,()))))))) fun x7 =>
 (bif (Dat.pickB true (Dat.bnot x7) false) then (bif (Dat.pickB true (Dat.bnot d0.2.2.2.2.2.1) false) then some (Dat.pickB true (Dat.bnot d0.2.2.2.2.2.2.1) false)
 else some false)
 else some false)
 else some false)
 else some false)
 else (bif (Dat.ieq d0.2.1 1) then (bif (Dat.pickB true (Dat.ilt d0.2.2.1 d0.1.1) false) then (bif (Dat.pickB true (Dat.ieq (Dat.ofN (Dat.len d0.2.2.2.1)) 0) false) then (bif (Dat.pickB true (Dat.bnot d0.2.2.2.2.2.2.1) false) then Dat.bind (frames_isPinned (d0.2.1,(d0.2.2.1,(d0.2.2.2.1,(d0.2.2.2.2.1,(d0.2.2.2.2.2.1,(d0.2.2.2.2.2.2.1,()))))))) fun x8 =>
 some (Dat.pickB true x8 false)
 else some false)
 else some false)
 else some false)
 else (bif (Dat.ieq d0.2.1 2) then (bif (Dat.pickB true (Dat.ilt d0.2.2.1 d0.1.1) false) then some (Dat.pickB true (Dat.ieq (Dat.ofN (Dat.len d0.2.2.2.1)) d0.1.2.1) false)
 else some false)
 else some false)))
 else (bif (Dat.ieq d0.2.1 0) then (bif (Dat.ieq d0.2.2.1 0) then (bif (Dat.pickB true (Dat.ieq (Dat.ofN (Dat.len d0.2.2.2.1)) 0) false) then Dat.bind (frames_isPinned (d0.2.1,(d0.2.2.1,(d0.2.2.2.1,(d0.2.2.2.2.1,(d0.2.2.2.2.2.1,(d0.2.2.2.2.2.2.1,()))))))) fun x9 =>
 (bif (Dat.pickB true (Dat.bnot x9) false) then (bif (Dat.pickB true (Dat.bnot d0.2.2.2.2.2.1) false) then some (Dat.pickB true (Dat.bnot d0.2.2.2.2.2.2.1) false)
 else some false)
 else some false)
 else some false)
 else some false)
 else (bif (Dat.ieq d0.2.1 1) then some false
 else (bif (Dat.ieq d0.2.1 2) then some false
 else some false)))))) 0)
noncomputable def p_frames_mayBe : PFn:={ args:=[(.pair (.int .i64) (.pair (.int .i64) (.pair (.int .i64) (.pair (.int .i64) (.pair (.int .i64) (.pair (.int .i64) (.pair (.int .i64) (.pair (.int .i64) (.pair (.int .i64) .unit))))))))),(.pair (.int .u8) (.pair (.int .i64) (.pair (.list (.int .u8)) (.pair (.list (.int .i64)) (.pair .bool (.pair .bool .unit))))))],res:=[.bool],fn:=frames_mayBe }
def sp65_65 : List LSpec×List Nat:=([{ id:=6500,known:=true,toks:=[],items:=[.slot 17 (.val (.int .i64))],junk:=[18,19,20,6,21,22,23,24,25,26,4,27],tails:=[] }],[])
def spt65 : Tab (List LSpec×List Nat):=(.node (.node .leaf none (.node (.node (.node (.node (.node .leaf (some sp65_65) .leaf) none .leaf) none .leaf) none .leaf) none .leaf)) none .leaf)
def spf65 (f : Nat) : List LSpec×List Nat:=(spt65.get f).getD ([],[])
theorem pd_frames_mayBe : PureD Try.prog cfg 65 p_frames_mayBe:=fnD spf65 (l:=[(44,p_frames_isPinned)]) cfgOk cfgGlob (.cons pd_frames_isPinned .nil) (fun d=>by kernel_rfl)
noncomputable def frames_Check (d0 : TCf × ((List TFr) × (Int × Unit))) : Option Int :=
 Dat.bind (conf_Check (pCf d0.1)) fun x1 =>
 (bif (Dat.ine x1 0) then some x1
 else (bif (Dat.ine (Dat.ofN (Dat.len d0.2.1)) d0.1.2.2.2.2.2.1) then some 8
 else Dat.bind (frames_isPlace ((d0.2.1,(d0.2.2.1,())),d0.2.2.1)) fun x2 =>
 (bif (Dat.pickB false true (Dat.bnot x2)) then some 8
 else Dat.loop (fun (s3 : Int×(List (Int×Int))) k4 =>
 (bif (Dat.ilt s3.1 (Dat.ofN (Dat.len d0.2.1))) then if (Dat.Ix s3.1 (Dat.len d0.2.1)) then Dat.bnd (Dat.get d0.2.1 (Dat.toN s3.1) zFr) fun x7 =>
 Dat.bind (frames_mayBe ((pCf d0.1),(x7.1,(x7.2.1,(x7.2.2.1,(x7.2.2.2.1,(x7.2.2.2.2.1,(x7.2.2.2.2.2.1,())))))))) fun x8 =>
 (bif (Dat.bnot x8) then some 8
 else (bif (Dat.ieq x7.1 0) then Dat.bnd (Dat.wrap .i64 (Dat.add s3.1 1)) fun x9 =>
 k4 (x9,s3.2)
 else Dat.bnd (Dat.mget s3.2 x7.2.1) fun x10 =>
 Dat.bnd (Dat.wrap .i64 (Dat.add x10 1)) fun x11 =>
 Dat.bnd (Dat.mput s3.2 x7.2.1 x11) fun x12 =>
 Dat.bnd (Dat.mget x12 x7.2.1) fun x13 =>
 (bif (Dat.igt x13 1) then some 8
 else Dat.bnd (Dat.wrap .i64 (Dat.add s3.1 1)) fun x14 =>
 k4 (x14,x12))))
 else none
 else some 0)) (0,([] : List (Int×Int))))))
noncomputable def p_frames_Check : PFn:={ args:=[(.pair (.int .i64) (.pair (.int .i64) (.pair (.int .i64) (.pair (.int .i64) (.pair (.int .i64) (.pair (.int .i64) (.pair (.int .i64) (.pair (.int .i64) (.pair (.int .i64) .unit))))))))),(.pair (.list (.pair (.int .u8) (.pair (.int .i64) (.pair (.list (.int .u8)) (.pair (.list (.int .i64)) (.pair .bool (.pair .bool .unit))))))) (.pair (.int .i64) .unit))],res:=[(.int .i64)],fn:=frames_Check }
def sp29_29 : List LSpec×List Nat:=([{ id:=2900,known:=true,toks:=[],items:=[.slot 31 (.val (.int .i64)), .map 1000006 .i64 .i64],junk:=[32,33,34,8,35,36,37,38,4,39,40,41,42,43,44,45,46,47,48,49,50,51,52],tails:=[] }],[])
def spt29 : Tab (List LSpec×List Nat):=(.node (.node .leaf none (.node .leaf none (.node .leaf none (.node .leaf (some sp29_29) .leaf)))) none .leaf)
def spf29 (f : Nat) : List LSpec×List Nat:=(spt29.get f).getD ([],[])
theorem pd_frames_Check : PureD Try.prog cfg 29 p_frames_Check:=fnD spf29 (l:=[(41,p_conf_Check),(42,p_frames_isPlace),(65,p_frames_mayBe)]) cfgOk cfgGlob (.cons pd_conf_Check (.cons pd_frames_isPlace (.cons pd_frames_mayBe .nil))) (fun d=>by kernel_rfl)
noncomputable def slices_Clone_api_Frame_api_Frame (d0 : List TFr) : Option (List TFr) :=
 if (Dat.Le (Dat.addN 0 0) (Dat.len ([] : List TFr))) then if (Dat.EqN (Dat.len d0) 0) then if (Dat.Le (Dat.addN 0 0) (Dat.len ([] : List TFr))) then some (Dat.seg ([] : List TFr) 0 0)
 else none
 else if (Dat.Big (Dat.len (Dat.seg ([] : List TFr) 0 0)) (Dat.len d0) 72) then none
 else Dat.bnd (Dat.app (Dat.seg ([] : List TFr) 0 0) d0) fun x9 =>
 if (Dat.Le (Dat.addN 0 (Dat.len x9)) (Dat.len x9)) then some (Dat.seg x9 0 (Dat.len x9))
 else none
 else none
noncomputable def p_slices_Clone_api_Frame_api_Frame : PFn:={ args:=[(.list (.pair (.int .u8) (.pair (.int .i64) (.pair (.list (.int .u8)) (.pair (.list (.int .i64)) (.pair .bool (.pair .bool .unit)))))))],res:=[(.list (.pair (.int .u8) (.pair (.int .i64) (.pair (.list (.int .u8)) (.pair (.list (.int .i64)) (.pair .bool (.pair .bool .unit)))))))],fn:=slices_Clone_api_Frame_api_Frame }
noncomputable def cx63 : CloneX Try.prog cfg 63 39 (.pair (.int .u8) (.pair (.int .i64) (.pair (.list (.int .u8)) (.pair (.list (.int .i64)) (.pair .bool (.pair .bool .unit)))))) := clx xf63 39 (xf63.body.cOps.getD 0 ⟨none, .move (.tmp 0), 0, "", #[], none⟩) (xf63.body.cOps.getD 1 ⟨none, .move (.tmp 0), 0, "", #[], none⟩) (by kernel_rfl) (by kernel_rfl) (by kernel_rfl) (by kernel_rfl) (by kernel_rfl) (by kernel_rfl) (by kernel_rfl) (by kernel_rfl) (by kernel_rfl)
def sp63_63 : List LSpec×List Nat:=([],[3])
def spt63 : Tab (List LSpec×List Nat):=(.node (.node (.node (.node (.node (.node (.node .leaf (some sp63_63) .leaf) none .leaf) none .leaf) none .leaf) none .leaf) none .leaf) none .leaf)
def spf63 (f : Nat) : List LSpec×List Nat:=(spt63.get f).getD ([],[])
theorem pd_slices_Clone_api_Frame_api_Frame : PureD Try.prog cfg 63 p_slices_Clone_api_Frame_api_Frame := cloneD spf63 cfgOk cfgGlob cx63 (of_decide_eq_true (by kernel_rfl)) (by kernel_rfl) (by kernel_rfl) (by kernel_rfl) (fun d => by kernel_rfl) (fun d => by kernel_rfl) (by kernel_rfl) (fun d r h => by
  unfold slices_Clone_api_Frame_api_Frame at h
  split at h
  · split at h
    · rename_i e
      have h1:=Option.some.inj h
      rw [← h1]
      exact (List.length_eq_zero_iff.1 e).symm
    · split at h
      · cases h
      · simp only [Dat.bnd] at h
        split at h
        · have h1 : (d.drop 0).take d.length = r := Option.some.inj h
          rw [← h1]
          simp
        · cases h
  · cases h)
noncomputable def o_slices_Clone_api_Frame_api_Frame : OFn:={ args:=[(.list (.pair (.int .u8) (.pair (.int .i64) (.pair (.list (.int .u8)) (.pair (.list (.int .i64)) (.pair .bool (.pair .bool .unit)))))))],ores:=[(.own (.pair (.int .u8) (.pair (.int .i64) (.pair (.list (.int .u8)) (.pair (.list (.int .i64)) (.pair .bool (.pair .bool .unit)))))))],fn:=slices_Clone_api_Frame_api_Frame }
theorem od_slices_Clone_api_Frame_api_Frame : OwnD Try.prog cfg 63 o_slices_Clone_api_Frame_api_Frame ∧ True := ⟨cloneO spf63 cfgOk cfgGlob cx63 (of_decide_eq_true (by kernel_rfl)) (by kernel_rfl) (by kernel_rfl) (by kernel_rfl) (fun d => by kernel_rfl) (fun d => by kernel_rfl) (by kernel_rfl) (fun d r h => by
  unfold slices_Clone_api_Frame_api_Frame at h
  split at h
  · split at h
    · rename_i e
      have h1:=Option.some.inj h
      rw [← h1]
      exact (List.length_eq_zero_iff.1 e).symm
    · split at h
      · cases h
      · simp only [Dat.bnd] at h
        split at h
        · have h1 : (d.drop 0).take d.length = r := Option.some.inj h
          rw [← h1]
          simp
        · cases h
  · cases h),trivial⟩
noncomputable def slices_Clone_byte_byte (d0 : List Int) : Option (List Int) :=
 if (Dat.Le (Dat.addN 0 0) (Dat.len ([] : List Int))) then if (Dat.EqN (Dat.len d0) 0) then if (Dat.Le (Dat.addN 0 0) (Dat.len ([] : List Int))) then some (Dat.seg ([] : List Int) 0 0)
 else none
 else if (Dat.Big (Dat.len (Dat.seg ([] : List Int) 0 0)) (Dat.len d0) 1) then none
 else Dat.bnd (Dat.app (Dat.seg ([] : List Int) 0 0) d0) fun x9 =>
 if (Dat.Le (Dat.addN 0 (Dat.len x9)) (Dat.len x9)) then some (Dat.seg x9 0 (Dat.len x9))
 else none
 else none
noncomputable def p_slices_Clone_byte_byte : PFn:={ args:=[(.list (.int .u8))],res:=[(.list (.int .u8))],fn:=slices_Clone_byte_byte }
noncomputable def cx48 : CloneX Try.prog cfg 48 5 (.int .u8) := clx xf48 5 (xf48.body.cOps.getD 0 ⟨none, .move (.tmp 0), 0, "", #[], none⟩) (xf48.body.cOps.getD 1 ⟨none, .move (.tmp 0), 0, "", #[], none⟩) (by kernel_rfl) (by kernel_rfl) (by kernel_rfl) (by kernel_rfl) (by kernel_rfl) (by kernel_rfl) (by kernel_rfl) (by kernel_rfl) (by kernel_rfl)
def sp48_48 : List LSpec×List Nat:=([],[3])
def spt48 : Tab (List LSpec×List Nat):=(.node .leaf none (.node (.node (.node (.node .leaf none (.node .leaf (some sp48_48) .leaf)) none .leaf) none .leaf) none .leaf))
def spf48 (f : Nat) : List LSpec×List Nat:=(spt48.get f).getD ([],[])
theorem pd_slices_Clone_byte_byte : PureD Try.prog cfg 48 p_slices_Clone_byte_byte := cloneD spf48 cfgOk cfgGlob cx48 (of_decide_eq_true (by kernel_rfl)) (by kernel_rfl) (by kernel_rfl) (by kernel_rfl) (fun d => by kernel_rfl) (fun d => by kernel_rfl) (by kernel_rfl) (fun d r h => by
  unfold slices_Clone_byte_byte at h
  split at h
  · split at h
    · rename_i e
      have h1:=Option.some.inj h
      rw [← h1]
      exact (List.length_eq_zero_iff.1 e).symm
    · split at h
      · cases h
      · simp only [Dat.bnd] at h
        split at h
        · have h1 : (d.drop 0).take d.length = r := Option.some.inj h
          rw [← h1]
          simp
        · cases h
  · cases h)
noncomputable def o_slices_Clone_byte_byte : OFn:={ args:=[(.list (.int .u8))],ores:=[(.own (.int .u8))],fn:=slices_Clone_byte_byte }
theorem od_slices_Clone_byte_byte : OwnD Try.prog cfg 48 o_slices_Clone_byte_byte ∧ True := ⟨cloneO spf48 cfgOk cfgGlob cx48 (of_decide_eq_true (by kernel_rfl)) (by kernel_rfl) (by kernel_rfl) (by kernel_rfl) (fun d => by kernel_rfl) (fun d => by kernel_rfl) (by kernel_rfl) (fun d r h => by
  unfold slices_Clone_byte_byte at h
  split at h
  · split at h
    · rename_i e
      have h1:=Option.some.inj h
      rw [← h1]
      exact (List.length_eq_zero_iff.1 e).symm
    · split at h
      · cases h
      · simp only [Dat.bnd] at h
        split at h
        · have h1 : (d.drop 0).take d.length = r := Option.some.inj h
          rw [← h1]
          simp
        · cases h
  · cases h),trivial⟩
noncomputable def slices_Clone_int_int (d0 : List Int) : Option (List Int) :=
 if (Dat.Le (Dat.addN 0 0) (Dat.len ([] : List Int))) then if (Dat.EqN (Dat.len d0) 0) then if (Dat.Le (Dat.addN 0 0) (Dat.len ([] : List Int))) then some (Dat.seg ([] : List Int) 0 0)
 else none
 else if (Dat.Big (Dat.len (Dat.seg ([] : List Int) 0 0)) (Dat.len d0) 8) then none
 else Dat.bnd (Dat.app (Dat.seg ([] : List Int) 0 0) d0) fun x9 =>
 if (Dat.Le (Dat.addN 0 (Dat.len x9)) (Dat.len x9)) then some (Dat.seg x9 0 (Dat.len x9))
 else none
 else none
noncomputable def p_slices_Clone_int_int : PFn:={ args:=[(.list (.int .i64))],res:=[(.list (.int .i64))],fn:=slices_Clone_int_int }
noncomputable def cx64 : CloneX Try.prog cfg 64 3 (.int .i64) := clx xf64 3 (xf64.body.cOps.getD 0 ⟨none, .move (.tmp 0), 0, "", #[], none⟩) (xf64.body.cOps.getD 1 ⟨none, .move (.tmp 0), 0, "", #[], none⟩) (by kernel_rfl) (by kernel_rfl) (by kernel_rfl) (by kernel_rfl) (by kernel_rfl) (by kernel_rfl) (by kernel_rfl) (by kernel_rfl) (by kernel_rfl)
def sp64_64 : List LSpec×List Nat:=([],[3])
def spt64 : Tab (List LSpec×List Nat):=(.node .leaf none (.node (.node (.node (.node (.node (.node .leaf (some sp64_64) .leaf) none .leaf) none .leaf) none .leaf) none .leaf) none .leaf))
def spf64 (f : Nat) : List LSpec×List Nat:=(spt64.get f).getD ([],[])
theorem pd_slices_Clone_int_int : PureD Try.prog cfg 64 p_slices_Clone_int_int := cloneD spf64 cfgOk cfgGlob cx64 (of_decide_eq_true (by kernel_rfl)) (by kernel_rfl) (by kernel_rfl) (by kernel_rfl) (fun d => by kernel_rfl) (fun d => by kernel_rfl) (by kernel_rfl) (fun d r h => by
  unfold slices_Clone_int_int at h
  split at h
  · split at h
    · rename_i e
      have h1:=Option.some.inj h
      rw [← h1]
      exact (List.length_eq_zero_iff.1 e).symm
    · split at h
      · cases h
      · simp only [Dat.bnd] at h
        split at h
        · have h1 : (d.drop 0).take d.length = r := Option.some.inj h
          rw [← h1]
          simp
        · cases h
  · cases h)
noncomputable def o_slices_Clone_int_int : OFn:={ args:=[(.list (.int .i64))],ores:=[(.own (.int .i64))],fn:=slices_Clone_int_int }
theorem od_slices_Clone_int_int : OwnD Try.prog cfg 64 o_slices_Clone_int_int ∧ True := ⟨cloneO spf64 cfgOk cfgGlob cx64 (of_decide_eq_true (by kernel_rfl)) (by kernel_rfl) (by kernel_rfl) (by kernel_rfl) (fun d => by kernel_rfl) (fun d => by kernel_rfl) (by kernel_rfl) (fun d r h => by
  unfold slices_Clone_int_int at h
  split at h
  · split at h
    · rename_i e
      have h1:=Option.some.inj h
      rw [← h1]
      exact (List.length_eq_zero_iff.1 e).symm
    · split at h
      · cases h
      · simp only [Dat.bnd] at h
        split at h
        · have h1 : (d.drop 0).take d.length = r := Option.some.inj h
          rw [← h1]
          simp
        · cases h
  · cases h),trivial⟩
noncomputable def frames_Twin (d0 : (List TFr) × (Int × Unit)) : Option ((List TFr) × (Int × Unit)) :=
 Dat.bind (slices_Clone_api_Frame_api_Frame d0.1) fun x1 =>
 if (Dat.EqN (Dat.len x1) 0) then Dat.loop (fun (s4 : Int) k5 =>
 (bif (Dat.ilt s4 (Dat.ofN (Dat.len x1))) then if (Dat.Ix s4 (Dat.len x1)) then Dat.bnd (Dat.get x1 (Dat.toN s4) zFr) fun x8 =>
 Dat.bind (slices_Clone_byte_byte x8.2.2.1) fun x9 =>
 Dat.bind (slices_Clone_int_int x8.2.2.2.1) fun x10 =>
 if (Dat.Ix s4 (Dat.len x1)) then Dat.bnd (Dat.get x1 (Dat.toN s4) zFr) fun x13 =>
 none
 else none
 else none
 else if (Dat.EqN (Dat.len x1) 0) then some (x1,(d0.2.1,()))
 else none)) 0
 else Dat.loop (fun (s16 : Int×(List TFr)) k17 =>
 (bif (Dat.ilt s16.1 (Dat.ofN (Dat.len x1))) then if (Dat.In s16.1 (Dat.len x1)) then if (Dat.Lt (Dat.addN 0 (Dat.toN s16.1)) (Dat.len s16.2)) then Dat.bnd (Dat.get s16.2 (Dat.addN 0 (Dat.toN s16.1)) zFr) fun x22 =>
 Dat.bind (slices_Clone_byte_byte x22.2.2.1) fun x23 =>
 Dat.bind (slices_Clone_int_int x22.2.2.2.1) fun x24 =>
 if (Dat.In s16.1 (Dat.len x1)) then if (Dat.Lt (Dat.addN 0 (Dat.toN s16.1)) (Dat.len s16.2)) then Dat.bnd (Dat.get s16.2 (Dat.addN 0 (Dat.toN s16.1)) zFr) fun x29 =>
 Dat.bnd (Dat.set s16.2 (Dat.addN 0 (Dat.toN s16.1)) (x29.1,(x29.2.1,(x23,(x29.2.2.2.1,(x29.2.2.2.2.1,(x29.2.2.2.2.2.1,()))))))) fun x30 =>
 if (Dat.In s16.1 (Dat.len x1)) then if (Dat.Lt (Dat.addN 0 (Dat.toN s16.1)) (Dat.len x30)) then Dat.bnd (Dat.get x30 (Dat.addN 0 (Dat.toN s16.1)) zFr) fun x35 =>
 Dat.bnd (Dat.set x30 (Dat.addN 0 (Dat.toN s16.1)) (x35.1,(x35.2.1,(x35.2.2.1,(x24,(x35.2.2.2.2.1,(x35.2.2.2.2.2.1,()))))))) fun x36 =>
 Dat.bnd (Dat.wrap .i64 (Dat.add s16.1 1)) fun x37 =>
 k17 (x37,x36)
 else none
 else none
 else none
 else none
 else none
 else none
 else if (Dat.Le (Dat.addN 0 (Dat.len x1)) (Dat.len s16.2)) then some ((Dat.seg s16.2 0 (Dat.len x1)),(d0.2.1,()))
 else none)) (0,x1)
noncomputable def p_frames_Twin : PFn:={ args:=[(.pair (.list (.pair (.int .u8) (.pair (.int .i64) (.pair (.list (.int .u8)) (.pair (.list (.int .i64)) (.pair .bool (.pair .bool .unit))))))) (.pair (.int .i64) .unit))],res:=[(.pair (.list (.pair (.int .u8) (.pair (.int .i64) (.pair (.list (.int .u8)) (.pair (.list (.int .i64)) (.pair .bool (.pair .bool .unit))))))) (.pair (.int .i64) .unit))],fn:=frames_Twin }
def sp27_27 : List LSpec×List Nat:=([{ id:=2700,known:=true,toks:=[],items:=[.slot 15 (.val (.int .i64)), .vec 1000013 (.pair (.int .u8) (.pair (.int .i64) (.pair (.list (.int .u8)) (.pair (.list (.int .i64)) (.pair .bool (.pair .bool .unit))))))],junk:=[16,17,18,19,5,4,20,21,22,23,24,25,26,27,28,29,30,31,32,33,34,35,36],tails:=[] }],[])
def spt27 : Tab (List LSpec×List Nat):=(.node (.node (.node .leaf none (.node .leaf none (.node .leaf (some sp27_27) .leaf))) none .leaf) none .leaf)
def spf27 (f : Nat) : List LSpec×List Nat:=(spt27.get f).getD ([],[])
noncomputable def o_frames_Twin : OFn:={ args:=[(.pair (.list (.pair (.int .u8) (.pair (.int .i64) (.pair (.list (.int .u8)) (.pair (.list (.int .i64)) (.pair .bool (.pair .bool .unit))))))) (.pair (.int .i64) .unit))],ores:=[(.pair (.own (.pair (.int .u8) (.pair (.int .i64) (.pair (.list (.int .u8)) (.pair (.list (.int .i64)) (.pair .bool (.pair .bool .unit))))))) (.pair (.plain (.int .i64)) (.plain .unit)))],fn:=frames_Twin }
theorem od_frames_Twin : OwnD Try.prog cfg 27 o_frames_Twin∧PureD Try.prog cfg 27 o_frames_Twin.pfn:=fnO spf27 [] (l:=[(63,p_slices_Clone_api_Frame_api_Frame),(48,p_slices_Clone_byte_byte),(64,p_slices_Clone_int_int)]) (lo:=[(63,o_slices_Clone_api_Frame_api_Frame)]) cfgOk cfgGlob (.cons pd_slices_Clone_api_Frame_api_Frame (.cons pd_slices_Clone_byte_byte (.cons pd_slices_Clone_int_int .nil))) (.cons od_slices_Clone_api_Frame_api_Frame.1 .nil) (fun d=>by kernel_rfl)
theorem pd_frames_Twin : PureD Try.prog cfg 27 p_frames_Twin:=od_frames_Twin.2
noncomputable def frames_Victim_1 (d0 : TFr) : Option TFr :=
 some (d0.1,(d0.2.1,(d0.2.2.1,(d0.2.2.2.1,(false,(d0.2.2.2.2.2.1,()))))))
noncomputable def p_frames_Victim_1 : PFn:={ args:=[(.pair (.int .u8) (.pair (.int .i64) (.pair (.list (.int .u8)) (.pair (.list (.int .i64)) (.pair .bool (.pair .bool .unit))))))],res:=[(.pair (.int .u8) (.pair (.int .i64) (.pair (.list (.int .u8)) (.pair (.list (.int .i64)) (.pair .bool (.pair .bool .unit))))))],fn:=frames_Victim_1 }
theorem pd_frames_Victim_1 : PureD Try.prog cfg 61 p_frames_Victim_1:=fnD sp0 (l:=[]) cfgOk cfgGlob .nil (fun d=>by kernel_rfl)
noncomputable def frames_Victim (d0 : TCf × ((List TFr) × (Int × Unit))) : Option (((List TFr) × (Int × Unit)) × (Int × Int)) :=
 Dat.bind (frames_Check ((pCf d0.1),(d0.2.1,(d0.2.2.1,())))) fun x1 =>
 (bif (Dat.ine x1 0) then some ((([] : List TFr),(0,())),(0,x1))
 else Dat.bind (frames_Twin (d0.2.1,(d0.2.2.1,()))) fun x2 =>
 if (Dat.EqN (Dat.len x2.1) 0) then Dat.bnd (Dat.wrap .i64 (Dat.mul 2 (Dat.ofN (Dat.len d0.2.1)))) fun x5 =>
 Dat.loop (fun (s6 : Int×((List TFr)×Int)) k7 =>
 (bif (Dat.ilt s6.1 x5) then Dat.bnd (Dat.wrap .i64 (Dat.add d0.2.2.1 s6.1)) fun x8 =>
 if (Dat.IsZ (Dat.ofN (Dat.len d0.2.1))) then none
 else Dat.bnd (Dat.tmod x8 (Dat.ofN (Dat.len d0.2.1))) fun x11 =>
 if (Dat.Ix x11 (Dat.len s6.2.1)) then Dat.bnd (Dat.get s6.2.1 (Dat.toN x11) zFr) fun x14 =>
 (bif (Dat.ieq x14.1 1) then Dat.bnd (Dat.wrap .i64 (Dat.add s6.1 1)) fun x15 =>
 k7 (x15,(s6.2.1,s6.2.2))
 else Dat.bind (frames_isPinned (x14.1,(x14.2.1,(x14.2.2.1,(x14.2.2.2.1,(x14.2.2.2.2.1,(x14.2.2.2.2.2.1,()))))))) fun x16 =>
 (bif (Dat.pickB false true x16) then Dat.bnd (Dat.wrap .i64 (Dat.add s6.1 1)) fun x17 =>
 k7 (x17,(s6.2.1,s6.2.2))
 else (bif x14.2.2.2.2.1 then Dat.bind (slices_Clone_api_Frame_api_Frame s6.2.1) fun x18 =>
 if (Dat.EqN (Dat.len x18) 0) then if (Dat.Ix x11 (Dat.len x18)) then Dat.bnd (Dat.get x18 (Dat.toN x11) zFr) fun x23 =>
 Dat.bind (frames_Victim_1 (x23.1,(x23.2.1,(x23.2.2.1,(x23.2.2.2.1,(x23.2.2.2.2.1,(x23.2.2.2.2.2.1,()))))))) fun x24 =>
 if (Dat.Ix x11 (Dat.len x18)) then Dat.bnd (Dat.get x18 (Dat.toN x11) zFr) fun x27 =>
 none
 else none
 else none
 else if (Dat.In x11 (Dat.len x18)) then if (Dat.Lt (Dat.addN 0 (Dat.toN x11)) (Dat.len x18)) then Dat.bnd (Dat.get x18 (Dat.addN 0 (Dat.toN x11)) zFr) fun x32 =>
 Dat.bind (frames_Victim_1 (x32.1,(x32.2.1,(x32.2.2.1,(x32.2.2.2.1,(x32.2.2.2.2.1,(x32.2.2.2.2.2.1,()))))))) fun x33 =>
 if (Dat.In x11 (Dat.len x18)) then if (Dat.Lt (Dat.addN 0 (Dat.toN x11)) (Dat.len x18)) then Dat.bnd (Dat.set x18 (Dat.addN 0 (Dat.toN x11)) (x33.1,(x33.2.1,(x33.2.2.1,(x33.2.2.2.1,(x33.2.2.2.2.1,(x33.2.2.2.2.2.1,()))))))) fun x38 =>
 Dat.bnd (Dat.wrap .i64 (Dat.add s6.1 1)) fun x39 =>
 if (Dat.Le (Dat.addN 0 (Dat.len x18)) (Dat.len x38)) then k7 (x39,((Dat.seg x38 0 (Dat.len x18)),s6.2.2))
 else none
 else none
 else none
 else none
 else none
 else Dat.bnd (Dat.wrap .i64 (Dat.add x11 1)) fun x42 =>
 if (Dat.IsZ (Dat.ofN (Dat.len s6.2.1))) then none
 else Dat.bnd (Dat.tmod x42 (Dat.ofN (Dat.len s6.2.1))) fun x45 =>
 some ((s6.2.1,(x45,())),(x11,0)))))
 else none
 else some ((([] : List TFr),(0,())),(0,250)))) (0,(x2.1,x2.2.1))
 else Dat.bnd (Dat.wrap .i64 (Dat.mul 2 (Dat.ofN (Dat.len d0.2.1)))) fun x46 =>
 if (Dat.Le (Dat.addN 0 (Dat.len x2.1)) (Dat.len x2.1)) then Dat.loop (fun (s49 : Int×((List TFr)×Int)) k50 =>
 (bif (Dat.ilt s49.1 x46) then Dat.bnd (Dat.wrap .i64 (Dat.add d0.2.2.1 s49.1)) fun x51 =>
 if (Dat.IsZ (Dat.ofN (Dat.len d0.2.1))) then none
 else Dat.bnd (Dat.tmod x51 (Dat.ofN (Dat.len d0.2.1))) fun x54 =>
 if (Dat.Ix x54 (Dat.len s49.2.1)) then Dat.bnd (Dat.get s49.2.1 (Dat.toN x54) zFr) fun x57 =>
 (bif (Dat.ieq x57.1 1) then Dat.bnd (Dat.wrap .i64 (Dat.add s49.1 1)) fun x58 =>
 k50 (x58,(s49.2.1,s49.2.2))
 else Dat.bind (frames_isPinned (x57.1,(x57.2.1,(x57.2.2.1,(x57.2.2.2.1,(x57.2.2.2.2.1,(x57.2.2.2.2.2.1,()))))))) fun x59 =>
 (bif (Dat.pickB false true x59) then Dat.bnd (Dat.wrap .i64 (Dat.add s49.1 1)) fun x60 =>
 k50 (x60,(s49.2.1,s49.2.2))
 else (bif x57.2.2.2.2.1 then Dat.bind (slices_Clone_api_Frame_api_Frame s49.2.1) fun x61 =>
 if (Dat.EqN (Dat.len x61) 0) then if (Dat.Ix x54 (Dat.len x61)) then Dat.bnd (Dat.get x61 (Dat.toN x54) zFr) fun x66 =>
 Dat.bind (frames_Victim_1 (x66.1,(x66.2.1,(x66.2.2.1,(x66.2.2.2.1,(x66.2.2.2.2.1,(x66.2.2.2.2.2.1,()))))))) fun x67 =>
 if (Dat.Ix x54 (Dat.len x61)) then Dat.bnd (Dat.get x61 (Dat.toN x54) zFr) fun x70 =>
 none
 else none
 else none
 else if (Dat.In x54 (Dat.len x61)) then if (Dat.Lt (Dat.addN 0 (Dat.toN x54)) (Dat.len x61)) then Dat.bnd (Dat.get x61 (Dat.addN 0 (Dat.toN x54)) zFr) fun x75 =>
 Dat.bind (frames_Victim_1 (x75.1,(x75.2.1,(x75.2.2.1,(x75.2.2.2.1,(x75.2.2.2.2.1,(x75.2.2.2.2.2.1,()))))))) fun x76 =>
 if (Dat.In x54 (Dat.len x61)) then if (Dat.Lt (Dat.addN 0 (Dat.toN x54)) (Dat.len x61)) then Dat.bnd (Dat.set x61 (Dat.addN 0 (Dat.toN x54)) (x76.1,(x76.2.1,(x76.2.2.1,(x76.2.2.2.1,(x76.2.2.2.2.1,(x76.2.2.2.2.2.1,()))))))) fun x81 =>
 Dat.bnd (Dat.wrap .i64 (Dat.add s49.1 1)) fun x82 =>
 if (Dat.Le (Dat.addN 0 (Dat.len x61)) (Dat.len x81)) then k50 (x82,((Dat.seg x81 0 (Dat.len x61)),s49.2.2))
 else none
 else none
 else none
 else none
 else none
 else Dat.bnd (Dat.wrap .i64 (Dat.add x54 1)) fun x85 =>
 if (Dat.IsZ (Dat.ofN (Dat.len s49.2.1))) then none
 else Dat.bnd (Dat.tmod x85 (Dat.ofN (Dat.len s49.2.1))) fun x88 =>
 some ((s49.2.1,(x88,())),(x54,0)))))
 else none
 else some ((([] : List TFr),(0,())),(0,250)))) (0,((Dat.seg x2.1 0 (Dat.len x2.1)),x2.2.1))
 else none)
noncomputable def p_frames_Victim : PFn:={ args:=[(.pair (.int .i64) (.pair (.int .i64) (.pair (.int .i64) (.pair (.int .i64) (.pair (.int .i64) (.pair (.int .i64) (.pair (.int .i64) (.pair (.int .i64) (.pair (.int .i64) .unit))))))))),(.pair (.list (.pair (.int .u8) (.pair (.int .i64) (.pair (.list (.int .u8)) (.pair (.list (.int .i64)) (.pair .bool (.pair .bool .unit))))))) (.pair (.int .i64) .unit))],res:=[(.pair (.list (.pair (.int .u8) (.pair (.int .i64) (.pair (.list (.int .u8)) (.pair (.list (.int .i64)) (.pair .bool (.pair .bool .unit))))))) (.pair (.int .i64) .unit)),(.int .i64),(.int .i64)],fn:=frames_Victim }
def sp25_86 : List LSpec×List Nat:=([{ id:=8600,known:=true,toks:=[(6002000, .bool)],items:=[.slot 7 (.val (.int .i64)), .cells 2 [.val (.list (.pair (.int .u8) (.pair (.int .i64) (.pair (.list (.int .u8)) (.pair (.list (.int .i64)) (.pair .bool (.pair .bool .unit))))))), .val (.int .i64)]],junk:=[8,9,4,10,11,12,13,14,15,16,17,18,19],tails:=[],frz:=[(2,0)] }],[])
def spt25 : Tab (List LSpec×List Nat):=(.node .leaf none (.node .leaf none (.node .leaf none (.node (.node .leaf none (.node (.node .leaf (some sp25_86) .leaf) none .leaf)) none .leaf))))
def spf25 (f : Nat) : List LSpec×List Nat:=(spt25.get f).getD ([],[])
theorem pd_frames_Victim : PureD Try.prog cfg 25 p_frames_Victim:=fnDa spf25 [] (l:=[(29,p_frames_Check),(27,p_frames_Twin),(44,p_frames_isPinned),(63,p_slices_Clone_api_Frame_api_Frame),(61,p_frames_Victim_1)]) (lo:=[(63,o_slices_Clone_api_Frame_api_Frame),(27,o_frames_Twin)]) cfgOk cfgGlob (.cons pd_frames_Check (.cons pd_frames_Twin (.cons pd_frames_isPinned (.cons pd_slices_Clone_api_Frame_api_Frame (.cons pd_frames_Victim_1 .nil))))) (.cons od_slices_Clone_api_Frame_api_Frame.1 (.cons od_frames_Twin.1 .nil)) (fun d=>by kernel_rfl)
noncomputable def law25_alive (d0 : Unit) : Option Bool :=
 Dat.bind (law25_ready (0,0)) fun x1 =>
 Dat.bind (law25_ready (3,0)) fun x2 =>
 Dat.bind (law25_two ()) fun x3 =>
 if (Dat.Le (Dat.addN 0 2) (Dat.len ((x1.1,(x1.2.1,(x1.2.2.1,(x1.2.2.2.1,(x1.2.2.2.2.1,(x1.2.2.2.2.2.1,()))))))::((x2.1,(x2.2.1,(x2.2.2.1,(x2.2.2.2.1,(x2.2.2.2.2.1,(x2.2.2.2.2.2.1,()))))))::([] : List TFr))))) then Dat.bind (frames_Victim ((x3.1,(x3.2.1,(x3.2.2.1,(x3.2.2.2.1,(x3.2.2.2.2.1,(x3.2.2.2.2.2.1,(x3.2.2.2.2.2.2.1,(x3.2.2.2.2.2.2.2.1,(x3.2.2.2.2.2.2.2.2.1,()))))))))),((Dat.seg ((x1.1,(x1.2.1,(x1.2.2.1,(x1.2.2.2.1,(x1.2.2.2.2.1,(x1.2.2.2.2.2.1,()))))))::((x2.1,(x2.2.1,(x2.2.2.1,(x2.2.2.2.1,(x2.2.2.2.2.1,(x2.2.2.2.2.2.1,()))))))::([] : List TFr))) 0 2),(1,())))) fun x6 =>
 Dat.bind (law25_ready (0,0)) fun x7 =>
 Dat.bind (law25_ready (3,1)) fun x8 =>
 Dat.bind (law25_two ()) fun x9 =>
 if (Dat.Le (Dat.addN 0 2) (Dat.len ((x7.1,(x7.2.1,(x7.2.2.1,(x7.2.2.2.1,(x7.2.2.2.2.1,(x7.2.2.2.2.2.1,()))))))::((x8.1,(x8.2.1,(x8.2.2.1,(x8.2.2.2.1,(x8.2.2.2.2.1,(x8.2.2.2.2.2.1,()))))))::([] : List TFr))))) then Dat.bind (frames_Victim ((x9.1,(x9.2.1,(x9.2.2.1,(x9.2.2.2.1,(x9.2.2.2.2.1,(x9.2.2.2.2.2.1,(x9.2.2.2.2.2.2.1,(x9.2.2.2.2.2.2.2.1,(x9.2.2.2.2.2.2.2.2.1,()))))))))),((Dat.seg ((x7.1,(x7.2.1,(x7.2.2.1,(x7.2.2.2.1,(x7.2.2.2.2.1,(x7.2.2.2.2.2.1,()))))))::((x8.1,(x8.2.1,(x8.2.2.1,(x8.2.2.2.1,(x8.2.2.2.2.1,(x8.2.2.2.2.2.1,()))))))::([] : List TFr))) 0 2),(1,())))) fun x12 =>
 Dat.bind (law25_ready (0,2)) fun x13 =>
 Dat.bind (law25_ready (3,1)) fun x14 =>
 Dat.bind (law25_two ()) fun x15 =>
 if (Dat.Le (Dat.addN 0 2) (Dat.len ((x13.1,(x13.2.1,(x13.2.2.1,(x13.2.2.2.1,(x13.2.2.2.2.1,(x13.2.2.2.2.2.1,()))))))::((x14.1,(x14.2.1,(x14.2.2.1,(x14.2.2.2.1,(x14.2.2.2.2.1,(x14.2.2.2.2.2.1,()))))))::([] : List TFr))))) then Dat.bind (frames_Victim ((x15.1,(x15.2.1,(x15.2.2.1,(x15.2.2.2.1,(x15.2.2.2.2.1,(x15.2.2.2.2.2.1,(x15.2.2.2.2.2.2.1,(x15.2.2.2.2.2.2.2.1,(x15.2.2.2.2.2.2.2.2.1,()))))))))),((Dat.seg ((x13.1,(x13.2.1,(x13.2.2.1,(x13.2.2.2.1,(x13.2.2.2.2.1,(x13.2.2.2.2.2.1,()))))))::((x14.1,(x14.2.1,(x14.2.2.1,(x14.2.2.2.1,(x14.2.2.2.2.1,(x14.2.2.2.2.2.1,()))))))::([] : List TFr))) 0 2),(1,())))) fun x18 =>
 (bif (Dat.ieq x6.2.2 0) then (bif (Dat.pickB true (Dat.ieq x6.2.1 1) false) then (bif (Dat.pickB true (Dat.ieq x6.1.2.1 0) false) then (bif (Dat.pickB true (Dat.ieq (Dat.ofN (Dat.len x6.1.1)) 2) false) then if (Dat.Ix 0 (Dat.len x6.1.1)) then Dat.bnd (Dat.get x6.1.1 (Dat.toN 0) zFr) fun x21 =>
 (bif (Dat.pickB true (Dat.bnot x21.2.2.2.2.1) false) then if (Dat.Ix 1 (Dat.len x6.1.1)) then Dat.bnd (Dat.get x6.1.1 (Dat.toN 1) zFr) fun x24 =>
 (bif (Dat.pickB true (Dat.bnot x24.2.2.2.2.1) false) then (bif (Dat.pickB true (Dat.ieq x12.2.2 0) false) then (bif (Dat.pickB true (Dat.ieq x12.2.1 0) false) then some (Dat.pickB true (Dat.ieq x18.2.2 250) false)
 else some false)
 else some false)
 else some false)
 else none
 else some false)
 else none
 else some false)
 else some false)
 else some false)
 else some false)
 else none
 else none
 else none
noncomputable def p_law25_alive : PFn:={ args:=[],res:=[.bool],fn:=law25_alive }
theorem pd_law25_alive : PureD Try.prog cfg 18 p_law25_alive:=fnD sp0 (l:=[(15,p_law25_ready),(9,p_law25_two),(25,p_frames_Victim)]) cfgOk cfgGlob (.cons pd_law25_ready (.cons pd_law25_two (.cons pd_frames_Victim .nil))) (fun d=>by kernel_rfl)
noncomputable def ref25_Great (d0 : (List TFr) × (Int × Unit)) : Option Bool :=
 Dat.loop (fun (s1 : Int) k2 =>
 (bif (Dat.ilt s1 (Dat.ofN (Dat.len d0.1))) then (bif (Dat.pickB true (Dat.ilt s1 20) false) then if (Dat.Ix s1 (Dat.len d0.1)) then Dat.bnd (Dat.get d0.1 (Dat.toN s1) zFr) fun x5 =>
 (bif (Dat.igt (Dat.ofN (Dat.len x5.2.2.1)) 100) then some true
 else if (Dat.Ix s1 (Dat.len d0.1)) then Dat.bnd (Dat.get d0.1 (Dat.toN s1) zFr) fun x8 =>
 (bif (Dat.pickB false true (Dat.igt (Dat.ofN (Dat.len x8.2.2.2.1)) 20)) then some true
 else Dat.bnd (Dat.wrap .i64 (Dat.add s1 1)) fun x9 =>
 k2 x9)
 else none)
 else none
 else some (Dat.igt (Dat.ofN (Dat.len d0.1)) 20))
 else some (Dat.igt (Dat.ofN (Dat.len d0.1)) 20))) 0
noncomputable def p_ref25_Great : PFn:={ args:=[(.pair (.list (.pair (.int .u8) (.pair (.int .i64) (.pair (.list (.int .u8)) (.pair (.list (.int .i64)) (.pair .bool (.pair .bool .unit))))))) (.pair (.int .i64) .unit))],res:=[.bool],fn:=ref25_Great }
def sp21_21 : List LSpec×List Nat:=([{ id:=2100,known:=true,toks:=[],items:=[.slot 3 (.val (.int .i64))],junk:=[4,5,6,7,8,9,10,11,12,15,16,17,18,19,20,21,22,23,24,25,26,27,28,29,30,31,32,2,13,14],tails:=[] }],[])
def spt21 : Tab (List LSpec×List Nat):=(.node (.node .leaf none (.node .leaf none (.node (.node .leaf (some sp21_21) .leaf) none .leaf))) none .leaf)
def spf21 (f : Nat) : List LSpec×List Nat:=(spt21.get f).getD ([],[])
theorem pd_ref25_Great : PureD Try.prog cfg 21 p_ref25_Great:=fnD spf21 (l:=[]) cfgOk cfgGlob .nil (fun d=>by kernel_rfl)
noncomputable def frames_isClient (d0 : TCf × Int) : Option Bool :=
 (bif (Dat.ige d0.2 0) then some (Dat.pickB true (Dat.ilt d0.2 d0.1.2.2.2.2.2.2.1) false)
 else some false)
noncomputable def p_frames_isClient : PFn:={ args:=[(.pair (.int .i64) (.pair (.int .i64) (.pair (.int .i64) (.pair (.int .i64) (.pair (.int .i64) (.pair (.int .i64) (.pair (.int .i64) (.pair (.int .i64) (.pair (.int .i64) .unit))))))))),(.int .i64)],res:=[.bool],fn:=frames_isClient }
theorem pd_frames_isClient : PureD Try.prog cfg 43 p_frames_isClient:=fnD sp0 (l:=[]) cfgOk cfgGlob .nil (fun d=>by kernel_rfl)
noncomputable def frames_Find (d0 : TCf × (((List TFr) × (Int × Unit)) × Int)) : Option (Int × Bool) :=
 Dat.bind (frames_Check ((pCf d0.1),(d0.2.1.1,(d0.2.1.2.1,())))) fun x1 =>
 (bif (Dat.ine x1 0) then some (0,false)
 else Dat.loop (fun (s2 : Int) k3 =>
 (bif (Dat.ilt s2 (Dat.ofN (Dat.len d0.2.1.1))) then if (Dat.Ix s2 (Dat.len d0.2.1.1)) then Dat.bnd (Dat.get d0.2.1.1 (Dat.toN s2) zFr) fun x6 =>
 (bif (Dat.ine x6.1 0) then (bif (Dat.pickB true (Dat.ieq x6.2.1 d0.2.2) false) then some ((Dat.imax true s2 0),(Dat.ige s2 0))
 else Dat.bnd (Dat.wrap .i64 (Dat.add s2 1)) fun x7 =>
 k3 x7)
 else Dat.bnd (Dat.wrap .i64 (Dat.add s2 1)) fun x8 =>
 k3 x8)
 else none
 else some ((Dat.imax true (-1) 0),(Dat.ige (-1) 0)))) 0)
noncomputable def p_frames_Find : PFn:={ args:=[(.pair (.int .i64) (.pair (.int .i64) (.pair (.int .i64) (.pair (.int .i64) (.pair (.int .i64) (.pair (.int .i64) (.pair (.int .i64) (.pair (.int .i64) (.pair (.int .i64) .unit))))))))),(.pair (.list (.pair (.int .u8) (.pair (.int .i64) (.pair (.list (.int .u8)) (.pair (.list (.int .i64)) (.pair .bool (.pair .bool .unit))))))) (.pair (.int .i64) .unit)),(.int .i64)],res:=[(.int .i64), .bool],fn:=frames_Find }
def sp12_49 : List LSpec×List Nat:=([{ id:=4900,known:=true,toks:=[],items:=[.slot 8 (.val (.int .i64))],junk:=[9,10,5,11,12,13,14,15,16,17,4,18],tails:=[] }],[])
def spt12 : Tab (List LSpec×List Nat):=(.node (.node .leaf none (.node (.node (.node .leaf none (.node .leaf (some sp12_49) .leaf)) none .leaf) none .leaf)) none .leaf)
def spf12 (f : Nat) : List LSpec×List Nat:=(spt12.get f).getD ([],[])
theorem pd_frames_Find : PureD Try.prog cfg 12 p_frames_Find:=fnD spf12 (l:=[(29,p_frames_Check)]) cfgOk cfgGlob (.cons pd_frames_Check .nil) (fun d=>by kernel_rfl)
noncomputable abbrev TwT : Type:=List TMf×(List (List Int)×(List (List Int)×Int))
@[reducible] noncomputable def twB {β : Type} (NN : Nat) (fin : TwT → Option β) (s0 : TwT) (k0 : TwT → Option β) : Option β :=
 (bif (Dat.ilt s0.2.2.2 (Dat.ofN NN)) then if (Dat.In s0.2.2.2 NN) then if (Dat.Lt (Dat.addN 0 (Dat.toN s0.2.2.2)) (Dat.len s0.1)) then Dat.bnd (Dat.get s0.1 (Dat.addN 0 (Dat.toN s0.2.2.2)) zMf) fun x0 =>
 if (Dat.XOk s0.2.1 x0.2.2.1) then Dat.bnd (Dat.xget s0.2.1 x0.2.2.1) fun x1 =>
 Dat.bind (slices_Clone_byte_byte x1) fun x2 =>
 Dat.bnd (Dat.app s0.2.1 (x2::([] : List (List Int)))) fun x3 =>
 if (Dat.XOk s0.2.2.1 x0.2.2.2.1) then Dat.bnd (Dat.xget s0.2.2.1 x0.2.2.2.1) fun x4 =>
 Dat.bind (slices_Clone_int_int x4) fun x5 =>
 Dat.bnd (Dat.app s0.2.2.1 (x5::([] : List (List Int)))) fun x6 =>
 if (Dat.In s0.2.2.2 NN) then if (Dat.Lt (Dat.addN 0 (Dat.toN s0.2.2.2)) (Dat.len s0.1)) then Dat.bnd (Dat.get s0.1 (Dat.addN 0 (Dat.toN s0.2.2.2)) zMf) fun x7 =>
 Dat.bnd (Dat.set s0.1 (Dat.addN 0 (Dat.toN s0.2.2.2)) (x7.1,(x7.2.1,((Dat.xrow (Dat.len s0.2.1) x2),(x7.2.2.2.1,(x7.2.2.2.2.1,(x7.2.2.2.2.2.1,()))))))) fun x8 =>
 if (Dat.In s0.2.2.2 NN) then if (Dat.Lt (Dat.addN 0 (Dat.toN s0.2.2.2)) (Dat.len x8)) then Dat.bnd (Dat.get x8 (Dat.addN 0 (Dat.toN s0.2.2.2)) zMf) fun x9 =>
 Dat.bnd (Dat.set x8 (Dat.addN 0 (Dat.toN s0.2.2.2)) (x9.1,(x9.2.1,(x9.2.2.1,((Dat.xrow (Dat.len s0.2.2.1) x5),(x9.2.2.2.2.1,(x9.2.2.2.2.2.1,()))))))) fun x10 =>
 Dat.bnd (Dat.wrap .i64 (Dat.add s0.2.2.2 1)) fun x11 =>
 k0 (x10,(x3,(x6,x11)))
 else none
 else none
 else none
 else none
 else none
 else none
 else none
 else none
 else fin s0)
noncomputable def frames_Load (d0 : TCf × (((List TFr) × (Int × Unit)) × (Int × (Int × Int)))) : Option (((List TFr) × (Int × Unit)) × Int) :=
 Dat.bind (frames_Check ((pCf d0.1),(d0.2.1.1,(d0.2.1.2.1,())))) fun x1 =>
 (bif (Dat.ine x1 0) then some ((([] : List TFr),(0,())),x1)
 else Dat.bind (frames_isPlace ((d0.2.1.1,(d0.2.1.2.1,())),d0.2.2.1)) fun x2 =>
 (bif (Dat.bnot x2) then some ((([] : List TFr),(0,())),2)
 else Dat.bind (frames_isClient ((pCf d0.1),d0.2.2.2.2)) fun x3 =>
 (bif (Dat.pickB false true (Dat.bnot x3)) then some ((([] : List TFr),(0,())),2)
 else (bif (Dat.pickB false true (Dat.ilt d0.2.2.2.1 0)) then some ((([] : List TFr),(0,())),2)
 else (bif (Dat.pickB false true (Dat.ige d0.2.2.2.1 d0.1.1)) then some ((([] : List TFr),(0,())),2)
 else if (Dat.Ix d0.2.2.1 (Dat.len d0.2.1.1)) then Dat.bnd (Dat.get d0.2.1.1 (Dat.toN d0.2.2.1) zFr) fun x6 =>
 Dat.bind (frames_Find ((pCf d0.1),((d0.2.1.1,(d0.2.1.2.1,())),d0.2.2.2.1))) fun x7 =>
 (bif (Dat.ieq x6.1 1) then some ((([] : List TFr),(0,())),2)
 else Dat.bind (frames_isPinned (x6.1,(x6.2.1,(x6.2.2.1,(x6.2.2.2.1,(x6.2.2.2.2.1,(x6.2.2.2.2.2.1,()))))))) fun x8 =>
 (bif (Dat.pickB false true x8) then some ((([] : List TFr),(0,())),2)
 else (bif x7.2 then (bif (Dat.pickB false true (Dat.pickB true (Dat.ine x7.1 d0.2.2.1) false)) then some ((([] : List TFr),(0,())),2)
 else if (Dat.EqN (Dat.len d0.2.1.1) 0) then none
 else if (Dat.Le (Dat.addN 0 0) (Dat.len ([] : List TFr))) then if (Dat.EqN (Dat.len d0.2.1.1) 0) then Dat.bind (Dat.mapO (fun e15 =>
 some (e15.1,(e15.2.1,((Dat.xdata e15.2.2.1),((Dat.xdata e15.2.2.2.1),(e15.2.2.2.2.1,(e15.2.2.2.2.2.1,e15.2.2.2.2.2.2))))))) ([] : List TFr)) fun x16 =>
 Dat.loop (twB 0 (fun s17 =>
 if (Dat.Le (Dat.addN 0 0) (Dat.len s17.1)) then if (Dat.Le (Dat.addN 0 0) (Dat.len ([] : List TFr))) then if (Dat.EqN (Dat.len (Dat.seg s17.1 0 0)) 0) then if (Dat.In d0.2.2.1 0) then if (Dat.Lt (Dat.addN 0 (Dat.toN d0.2.2.1)) (Dat.len ([] : List TFr))) then Dat.bnd (Dat.get ([] : List TFr) (Dat.addN 0 (Dat.toN d0.2.2.1)) zFr) fun x57 =>
 if (Dat.MkOk d0.1.2.2.2.2.2.2.1 d0.1.2.2.2.2.2.2.1 8) then if (Dat.In d0.2.2.2.2 (Dat.toN d0.1.2.2.2.2.2.2.1)) then if (Dat.Lt (Dat.addN 0 (Dat.toN d0.2.2.2.2)) (Dat.len (Dat.rep (α:=Int) (Dat.toN d0.1.2.2.2.2.2.2.1) 0))) then Dat.bnd (Dat.set (Dat.rep (α:=Int) (Dat.toN d0.1.2.2.2.2.2.2.1) 0) (Dat.addN 0 (Dat.toN d0.2.2.2.2)) 1) fun x64 =>
 if (Dat.Le (Dat.addN 0 (Dat.toN d0.1.2.2.2.2.2.2.1)) (Dat.len x64)) then if (Dat.In d0.2.2.1 0) then none
 else none
 else none
 else none
 else none
 else none
 else none
 else none
 else if (Dat.Big (Dat.len ([] : List TMf)) (Dat.len (Dat.seg s17.1 0 0)) 72) then none
 else Dat.bnd (Dat.app ([] : List TMf) (Dat.seg s17.1 0 0)) fun x71 =>
 if (Dat.In d0.2.2.1 (Dat.len x71)) then if (Dat.Lt (Dat.addN 0 (Dat.toN d0.2.2.1)) (Dat.len x71)) then Dat.bnd (Dat.get x71 (Dat.addN 0 (Dat.toN d0.2.2.1)) zMf) fun x76 =>
 if (Dat.MkOk d0.1.2.2.2.2.2.2.1 d0.1.2.2.2.2.2.2.1 8) then if (Dat.In d0.2.2.2.2 (Dat.toN d0.1.2.2.2.2.2.2.1)) then if (Dat.Lt (Dat.addN 0 (Dat.toN d0.2.2.2.2)) (Dat.len (Dat.rep (α:=Int) (Dat.toN d0.1.2.2.2.2.2.2.1) 0))) then Dat.bnd (Dat.set (Dat.rep (α:=Int) (Dat.toN d0.1.2.2.2.2.2.2.1) 0) (Dat.addN 0 (Dat.toN d0.2.2.2.2)) 1) fun x83 =>
 if (Dat.Le (Dat.addN 0 (Dat.toN d0.1.2.2.2.2.2.2.1)) (Dat.len x83)) then if (Dat.In d0.2.2.1 (Dat.len x71)) then if (Dat.Lt (Dat.addN 0 (Dat.toN d0.2.2.1)) (Dat.len x71)) then Dat.bnd (Dat.set x71 (Dat.addN 0 (Dat.toN d0.2.2.1)) (1,(d0.2.2.2.1,((Dat.xnil (α:=Int) ),((Dat.xdata (Dat.seg x83 0 (Dat.toN d0.1.2.2.2.2.2.2.1))),(true,(false,()))))))) fun x90 =>
 if (Dat.Le (Dat.addN 0 (Dat.len x71)) (Dat.len x90)) then Dat.bind (Dat.mapO (fun e93 =>
 if (Dat.XOk s17.2.1 e93.2.2.1) then Dat.bnd (Dat.xget s17.2.1 e93.2.2.1) fun x96 =>
 if (Dat.XOk s17.2.2.1 e93.2.2.2.1) then Dat.bnd (Dat.xget s17.2.2.1 e93.2.2.2.1) fun x99 =>
 some (e93.1,(e93.2.1,(x96,(x99,(e93.2.2.2.2.1,(e93.2.2.2.2.2.1,e93.2.2.2.2.2.2))))))
 else none
 else none) (Dat.seg x90 0 (Dat.len x71))) fun x100 =>
 some ((x100,(d0.2.1.2.1,())),0)
 else none
 else none
 else none
 else none
 else none
 else none
 else none
 else none
 else none
 else none
 else none)) (x16,(([] : List (List Int)),(([] : List (List Int)),0)))
 else if (Dat.Big (Dat.len (Dat.seg ([] : List TFr) 0 0)) (Dat.len d0.2.1.1) 72) then none
 else Dat.bnd (Dat.app (Dat.seg ([] : List TFr) 0 0) d0.2.1.1) fun x103 =>
 Dat.bind (Dat.mapO (fun e104 =>
 some (e104.1,(e104.2.1,((Dat.xdata e104.2.2.1),((Dat.xdata e104.2.2.2.1),(e104.2.2.2.2.1,(e104.2.2.2.2.2.1,e104.2.2.2.2.2.2))))))) x103) fun x105 =>
 Dat.loop (twB (Dat.len x103) (fun s106 =>
 if (Dat.Le (Dat.addN 0 (Dat.len x103)) (Dat.len s106.1)) then if (Dat.Le (Dat.addN 0 0) (Dat.len ([] : List TFr))) then if (Dat.EqN (Dat.len (Dat.seg s106.1 0 (Dat.len x103))) 0) then if (Dat.In d0.2.2.1 0) then if (Dat.Lt (Dat.addN 0 (Dat.toN d0.2.2.1)) (Dat.len ([] : List TFr))) then Dat.bnd (Dat.get ([] : List TFr) (Dat.addN 0 (Dat.toN d0.2.2.1)) zFr) fun x146 =>
 if (Dat.MkOk d0.1.2.2.2.2.2.2.1 d0.1.2.2.2.2.2.2.1 8) then if (Dat.In d0.2.2.2.2 (Dat.toN d0.1.2.2.2.2.2.2.1)) then if (Dat.Lt (Dat.addN 0 (Dat.toN d0.2.2.2.2)) (Dat.len (Dat.rep (α:=Int) (Dat.toN d0.1.2.2.2.2.2.2.1) 0))) then Dat.bnd (Dat.set (Dat.rep (α:=Int) (Dat.toN d0.1.2.2.2.2.2.2.1) 0) (Dat.addN 0 (Dat.toN d0.2.2.2.2)) 1) fun x153 =>
 if (Dat.Le (Dat.addN 0 (Dat.toN d0.1.2.2.2.2.2.2.1)) (Dat.len x153)) then if (Dat.In d0.2.2.1 0) then none
 else none
 else none
 else none
 else none
 else none
 else none
 else none
 else if (Dat.Big (Dat.len ([] : List TMf)) (Dat.len (Dat.seg s106.1 0 (Dat.len x103))) 72) then none
 else Dat.bnd (Dat.app ([] : List TMf) (Dat.seg s106.1 0 (Dat.len x103))) fun x160 =>
 if (Dat.In d0.2.2.1 (Dat.len x160)) then if (Dat.Lt (Dat.addN 0 (Dat.toN d0.2.2.1)) (Dat.len x160)) then Dat.bnd (Dat.get x160 (Dat.addN 0 (Dat.toN d0.2.2.1)) zMf) fun x165 =>
 if (Dat.MkOk d0.1.2.2.2.2.2.2.1 d0.1.2.2.2.2.2.2.1 8) then if (Dat.In d0.2.2.2.2 (Dat.toN d0.1.2.2.2.2.2.2.1)) then if (Dat.Lt (Dat.addN 0 (Dat.toN d0.2.2.2.2)) (Dat.len (Dat.rep (α:=Int) (Dat.toN d0.1.2.2.2.2.2.2.1) 0))) then Dat.bnd (Dat.set (Dat.rep (α:=Int) (Dat.toN d0.1.2.2.2.2.2.2.1) 0) (Dat.addN 0 (Dat.toN d0.2.2.2.2)) 1) fun x172 =>
 if (Dat.Le (Dat.addN 0 (Dat.toN d0.1.2.2.2.2.2.2.1)) (Dat.len x172)) then if (Dat.In d0.2.2.1 (Dat.len x160)) then if (Dat.Lt (Dat.addN 0 (Dat.toN d0.2.2.1)) (Dat.len x160)) then Dat.bnd (Dat.set x160 (Dat.addN 0 (Dat.toN d0.2.2.1)) (1,(d0.2.2.2.1,((Dat.xnil (α:=Int) ),((Dat.xdata (Dat.seg x172 0 (Dat.toN d0.1.2.2.2.2.2.2.1))),(true,(false,()))))))) fun x179 =>
 if (Dat.Le (Dat.addN 0 (Dat.len x160)) (Dat.len x179)) then Dat.bind (Dat.mapO (fun e182 =>
 if (Dat.XOk s106.2.1 e182.2.2.1) then Dat.bnd (Dat.xget s106.2.1 e182.2.2.1) fun x185 =>
 if (Dat.XOk s106.2.2.1 e182.2.2.2.1) then Dat.bnd (Dat.xget s106.2.2.1 e182.2.2.2.1) fun x188 =>
 some (e182.1,(e182.2.1,(x185,(x188,(e182.2.2.2.2.1,(e182.2.2.2.2.2.1,e182.2.2.2.2.2.2))))))
 else none
 else none) (Dat.seg x179 0 (Dat.len x160))) fun x189 =>
 some ((x189,(d0.2.1.2.1,())),0)
 else none
 else none
 else none
 else none
 else none
 else none
 else none
 else none
 else none
 else none
 else none)) (x105,(([] : List (List Int)),(([] : List (List Int)),0)))
 else none)
 else if (Dat.EqN (Dat.len d0.2.1.1) 0) then none
 else if (Dat.Le (Dat.addN 0 0) (Dat.len ([] : List TFr))) then if (Dat.EqN (Dat.len d0.2.1.1) 0) then Dat.bind (Dat.mapO (fun e196 =>
 some (e196.1,(e196.2.1,((Dat.xdata e196.2.2.1),((Dat.xdata e196.2.2.2.1),(e196.2.2.2.2.1,(e196.2.2.2.2.2.1,e196.2.2.2.2.2.2))))))) ([] : List TFr)) fun x197 =>
 Dat.loop (twB 0 (fun s198 =>
 if (Dat.Le (Dat.addN 0 0) (Dat.len s198.1)) then if (Dat.Le (Dat.addN 0 0) (Dat.len ([] : List TFr))) then if (Dat.EqN (Dat.len (Dat.seg s198.1 0 0)) 0) then if (Dat.In d0.2.2.1 0) then if (Dat.Lt (Dat.addN 0 (Dat.toN d0.2.2.1)) (Dat.len ([] : List TFr))) then Dat.bnd (Dat.get ([] : List TFr) (Dat.addN 0 (Dat.toN d0.2.2.1)) zFr) fun x238 =>
 if (Dat.MkOk d0.1.2.2.2.2.2.2.1 d0.1.2.2.2.2.2.2.1 8) then if (Dat.In d0.2.2.2.2 (Dat.toN d0.1.2.2.2.2.2.2.1)) then if (Dat.Lt (Dat.addN 0 (Dat.toN d0.2.2.2.2)) (Dat.len (Dat.rep (α:=Int) (Dat.toN d0.1.2.2.2.2.2.2.1) 0))) then Dat.bnd (Dat.set (Dat.rep (α:=Int) (Dat.toN d0.1.2.2.2.2.2.2.1) 0) (Dat.addN 0 (Dat.toN d0.2.2.2.2)) 1) fun x245 =>
 if (Dat.Le (Dat.addN 0 (Dat.toN d0.1.2.2.2.2.2.2.1)) (Dat.len x245)) then if (Dat.In d0.2.2.1 0) then none
 else none
 else none
 else none
 else none
 else none
 else none
 else none
 else if (Dat.Big (Dat.len ([] : List TMf)) (Dat.len (Dat.seg s198.1 0 0)) 72) then none
 else Dat.bnd (Dat.app ([] : List TMf) (Dat.seg s198.1 0 0)) fun x252 =>
 if (Dat.In d0.2.2.1 (Dat.len x252)) then if (Dat.Lt (Dat.addN 0 (Dat.toN d0.2.2.1)) (Dat.len x252)) then Dat.bnd (Dat.get x252 (Dat.addN 0 (Dat.toN d0.2.2.1)) zMf) fun x257 =>
 if (Dat.MkOk d0.1.2.2.2.2.2.2.1 d0.1.2.2.2.2.2.2.1 8) then if (Dat.In d0.2.2.2.2 (Dat.toN d0.1.2.2.2.2.2.2.1)) then if (Dat.Lt (Dat.addN 0 (Dat.toN d0.2.2.2.2)) (Dat.len (Dat.rep (α:=Int) (Dat.toN d0.1.2.2.2.2.2.2.1) 0))) then Dat.bnd (Dat.set (Dat.rep (α:=Int) (Dat.toN d0.1.2.2.2.2.2.2.1) 0) (Dat.addN 0 (Dat.toN d0.2.2.2.2)) 1) fun x264 =>
 if (Dat.Le (Dat.addN 0 (Dat.toN d0.1.2.2.2.2.2.2.1)) (Dat.len x264)) then if (Dat.In d0.2.2.1 (Dat.len x252)) then if (Dat.Lt (Dat.addN 0 (Dat.toN d0.2.2.1)) (Dat.len x252)) then Dat.bnd (Dat.set x252 (Dat.addN 0 (Dat.toN d0.2.2.1)) (1,(d0.2.2.2.1,((Dat.xnil (α:=Int) ),((Dat.xdata (Dat.seg x264 0 (Dat.toN d0.1.2.2.2.2.2.2.1))),(true,(false,()))))))) fun x271 =>
 if (Dat.Le (Dat.addN 0 (Dat.len x252)) (Dat.len x271)) then Dat.bind (Dat.mapO (fun e274 =>
 if (Dat.XOk s198.2.1 e274.2.2.1) then Dat.bnd (Dat.xget s198.2.1 e274.2.2.1) fun x277 =>
 if (Dat.XOk s198.2.2.1 e274.2.2.2.1) then Dat.bnd (Dat.xget s198.2.2.1 e274.2.2.2.1) fun x280 =>
 some (e274.1,(e274.2.1,(x277,(x280,(e274.2.2.2.2.1,(e274.2.2.2.2.2.1,e274.2.2.2.2.2.2))))))
 else none
 else none) (Dat.seg x271 0 (Dat.len x252))) fun x281 =>
 some ((x281,(d0.2.1.2.1,())),0)
 else none
 else none
 else none
 else none
 else none
 else none
 else none
 else none
 else none
 else none
 else none)) (x197,(([] : List (List Int)),(([] : List (List Int)),0)))
 else if (Dat.Big (Dat.len (Dat.seg ([] : List TFr) 0 0)) (Dat.len d0.2.1.1) 72) then none
 else Dat.bnd (Dat.app (Dat.seg ([] : List TFr) 0 0) d0.2.1.1) fun x284 =>
 Dat.bind (Dat.mapO (fun e285 =>
 some (e285.1,(e285.2.1,((Dat.xdata e285.2.2.1),((Dat.xdata e285.2.2.2.1),(e285.2.2.2.2.1,(e285.2.2.2.2.2.1,e285.2.2.2.2.2.2))))))) x284) fun x286 =>
 Dat.loop (twB (Dat.len x284) (fun s287 =>
 if (Dat.Le (Dat.addN 0 (Dat.len x284)) (Dat.len s287.1)) then if (Dat.Le (Dat.addN 0 0) (Dat.len ([] : List TFr))) then if (Dat.EqN (Dat.len (Dat.seg s287.1 0 (Dat.len x284))) 0) then if (Dat.In d0.2.2.1 0) then if (Dat.Lt (Dat.addN 0 (Dat.toN d0.2.2.1)) (Dat.len ([] : List TFr))) then Dat.bnd (Dat.get ([] : List TFr) (Dat.addN 0 (Dat.toN d0.2.2.1)) zFr) fun x327 =>
 if (Dat.MkOk d0.1.2.2.2.2.2.2.1 d0.1.2.2.2.2.2.2.1 8) then if (Dat.In d0.2.2.2.2 (Dat.toN d0.1.2.2.2.2.2.2.1)) then if (Dat.Lt (Dat.addN 0 (Dat.toN d0.2.2.2.2)) (Dat.len (Dat.rep (α:=Int) (Dat.toN d0.1.2.2.2.2.2.2.1) 0))) then Dat.bnd (Dat.set (Dat.rep (α:=Int) (Dat.toN d0.1.2.2.2.2.2.2.1) 0) (Dat.addN 0 (Dat.toN d0.2.2.2.2)) 1) fun x334 =>
 if (Dat.Le (Dat.addN 0 (Dat.toN d0.1.2.2.2.2.2.2.1)) (Dat.len x334)) then if (Dat.In d0.2.2.1 0) then none
 else none
 else none
 else none
 else none
 else none
 else none
 else none
 else if (Dat.Big (Dat.len ([] : List TMf)) (Dat.len (Dat.seg s287.1 0 (Dat.len x284))) 72) then none
 else Dat.bnd (Dat.app ([] : List TMf) (Dat.seg s287.1 0 (Dat.len x284))) fun x341 =>
 if (Dat.In d0.2.2.1 (Dat.len x341)) then if (Dat.Lt (Dat.addN 0 (Dat.toN d0.2.2.1)) (Dat.len x341)) then Dat.bnd (Dat.get x341 (Dat.addN 0 (Dat.toN d0.2.2.1)) zMf) fun x346 =>
 if (Dat.MkOk d0.1.2.2.2.2.2.2.1 d0.1.2.2.2.2.2.2.1 8) then if (Dat.In d0.2.2.2.2 (Dat.toN d0.1.2.2.2.2.2.2.1)) then if (Dat.Lt (Dat.addN 0 (Dat.toN d0.2.2.2.2)) (Dat.len (Dat.rep (α:=Int) (Dat.toN d0.1.2.2.2.2.2.2.1) 0))) then Dat.bnd (Dat.set (Dat.rep (α:=Int) (Dat.toN d0.1.2.2.2.2.2.2.1) 0) (Dat.addN 0 (Dat.toN d0.2.2.2.2)) 1) fun x353 =>
 if (Dat.Le (Dat.addN 0 (Dat.toN d0.1.2.2.2.2.2.2.1)) (Dat.len x353)) then if (Dat.In d0.2.2.1 (Dat.len x341)) then if (Dat.Lt (Dat.addN 0 (Dat.toN d0.2.2.1)) (Dat.len x341)) then Dat.bnd (Dat.set x341 (Dat.addN 0 (Dat.toN d0.2.2.1)) (1,(d0.2.2.2.1,((Dat.xnil (α:=Int) ),((Dat.xdata (Dat.seg x353 0 (Dat.toN d0.1.2.2.2.2.2.2.1))),(true,(false,()))))))) fun x360 =>
 if (Dat.Le (Dat.addN 0 (Dat.len x341)) (Dat.len x360)) then Dat.bind (Dat.mapO (fun e363 =>
 if (Dat.XOk s287.2.1 e363.2.2.1) then Dat.bnd (Dat.xget s287.2.1 e363.2.2.1) fun x366 =>
 if (Dat.XOk s287.2.2.1 e363.2.2.2.1) then Dat.bnd (Dat.xget s287.2.2.1 e363.2.2.2.1) fun x369 =>
 some (e363.1,(e363.2.1,(x366,(x369,(e363.2.2.2.2.1,(e363.2.2.2.2.2.1,e363.2.2.2.2.2.2))))))
 else none
 else none) (Dat.seg x360 0 (Dat.len x341))) fun x370 =>
 some ((x370,(d0.2.1.2.1,())),0)
 else none
 else none
 else none
 else none
 else none
 else none
 else none
 else none
 else none
 else none
 else none)) (x286,(([] : List (List Int)),(([] : List (List Int)),0)))
 else none)))
 else none)))))
noncomputable def p_frames_Load : PFn:={ args:=[(.pair (.int .i64) (.pair (.int .i64) (.pair (.int .i64) (.pair (.int .i64) (.pair (.int .i64) (.pair (.int .i64) (.pair (.int .i64) (.pair (.int .i64) (.pair (.int .i64) .unit))))))))),(.pair (.list (.pair (.int .u8) (.pair (.int .i64) (.pair (.list (.int .u8)) (.pair (.list (.int .i64)) (.pair .bool (.pair .bool .unit))))))) (.pair (.int .i64) .unit)),(.int .i64),(.int .i64),(.int .i64)],res:=[(.pair (.list (.pair (.int .u8) (.pair (.int .i64) (.pair (.list (.int .u8)) (.pair (.list (.int .i64)) (.pair .bool (.pair .bool .unit))))))) (.pair (.int .i64) .unit)),(.int .i64)],fn:=frames_Load }
def sp10_63 : List LSpec×List Nat:=([],[3])
def sp10_27 : List LSpec×List Nat:=([{ id:=2700,known:=true,toks:=[(9000000,(.int .u8)),(9000000,(.int .i64)),(5500013,(.pair (.int .u8) (.pair (.int .i64) (.pair (.mix 20000002 (.int .u8)) (.pair (.mix 20000001 (.int .i64)) (.pair .bool (.pair .bool .unit)))))))],items:=[.vec 1000013 (.pair (.int .u8) (.pair (.int .i64) (.pair (.mix 20000002 (.int .u8)) (.pair (.mix 20000001 (.int .i64)) (.pair .bool (.pair .bool .unit)))))), .rows 20000002 (.int .u8), .rows 20000001 (.int .i64), .slot 15 (.val (.int .i64))],junk:=[16,17,18,19,5,4,20,21,22,23,24,25,26,27,28,29,30,31,32,33,34,35,36],tails:=[] }],[])
def sp10_46 : List LSpec×List Nat:=([],[999999])
def spt10 : Tab (List LSpec×List Nat):=(.node (.node (.node (.node (.node (.node (.node .leaf (some sp10_63) .leaf) none .leaf) none .leaf) none .leaf) none (.node .leaf none (.node .leaf (some sp10_27) .leaf))) none .leaf) none (.node .leaf none (.node .leaf none (.node .leaf none (.node (.node .leaf (some sp10_46) .leaf) none .leaf)))))
def spf10 (f : Nat) : List LSpec×List Nat:=(spt10.get f).getD ([],[])
theorem pd_frames_Load : PureD Try.prog cfg 10 p_frames_Load:=fnDa spf10 [] (l:=[(29,p_frames_Check),(42,p_frames_isPlace),(43,p_frames_isClient),(12,p_frames_Find),(44,p_frames_isPinned),(48,p_slices_Clone_byte_byte),(64,p_slices_Clone_int_int)]) (lo:=[(48,o_slices_Clone_byte_byte),(64,o_slices_Clone_int_int)]) cfgOk cfgGlob (.cons pd_frames_Check (.cons pd_frames_isPlace (.cons pd_frames_isClient (.cons pd_frames_Find (.cons pd_frames_isPinned (.cons pd_slices_Clone_byte_byte (.cons pd_slices_Clone_int_int .nil))))))) (.cons od_slices_Clone_byte_byte.1 (.cons od_slices_Clone_int_int.1 .nil)) (fun d=>by kernel_rfl)
noncomputable def frames_Fill (d0 : TCf × (((List TFr) × (Int × Unit)) × (Int × (List Int)))) : Option (((List TFr) × (Int × Unit)) × Int) :=
 Dat.bind (frames_Check ((pCf d0.1),(d0.2.1.1,(d0.2.1.2.1,())))) fun x1 =>
 (bif (Dat.ine x1 0) then some ((([] : List TFr),(0,())),x1)
 else Dat.bind (frames_isPlace ((d0.2.1.1,(d0.2.1.2.1,())),d0.2.2.1)) fun x2 =>
 (bif (Dat.bnot x2) then some ((([] : List TFr),(0,())),2)
 else if (Dat.Ix d0.2.2.1 (Dat.len d0.2.1.1)) then Dat.bnd (Dat.get d0.2.1.1 (Dat.toN d0.2.2.1) zFr) fun x5 =>
 (bif (Dat.pickB false true (Dat.ine x5.1 1)) then some ((([] : List TFr),(0,())),2)
 else (bif (Dat.pickB false true (Dat.ine (Dat.ofN (Dat.len d0.2.2.2)) d0.1.2.1)) then some ((([] : List TFr),(0,())),2)
 else if (Dat.EqN (Dat.len d0.2.1.1) 0) then none
 else if (Dat.Le (Dat.addN 0 0) (Dat.len ([] : List TFr))) then if (Dat.EqN (Dat.len d0.2.1.1) 0) then Dat.bind (Dat.mapO (fun e12 =>
 some (e12.1,(e12.2.1,((Dat.xdata e12.2.2.1),((Dat.xdata e12.2.2.2.1),(e12.2.2.2.2.1,(e12.2.2.2.2.2.1,e12.2.2.2.2.2.2))))))) ([] : List TFr)) fun x13 =>
 Dat.loop (twB 0 (fun s14 =>
 if (Dat.Le (Dat.addN 0 0) (Dat.len s14.1)) then if (Dat.Le (Dat.addN 0 0) (Dat.len ([] : List TFr))) then if (Dat.EqN (Dat.len (Dat.seg s14.1 0 0)) 0) then if (Dat.In d0.2.2.1 0) then if (Dat.Lt (Dat.addN 0 (Dat.toN d0.2.2.1)) (Dat.len ([] : List TFr))) then Dat.bnd (Dat.get ([] : List TFr) (Dat.addN 0 (Dat.toN d0.2.2.1)) zFr) fun x54 =>
 Dat.bind (slices_Clone_byte_byte d0.2.2.2) fun x55 =>
 Dat.bnd (Dat.app s14.2.1 (x55::([] : List (List Int)))) fun x56 =>
 if (Dat.In d0.2.2.1 0) then none
 else none
 else none
 else none
 else if (Dat.Big (Dat.len ([] : List TMf)) (Dat.len (Dat.seg s14.1 0 0)) 72) then none
 else Dat.bnd (Dat.app ([] : List TMf) (Dat.seg s14.1 0 0)) fun x61 =>
 if (Dat.In d0.2.2.1 (Dat.len x61)) then if (Dat.Lt (Dat.addN 0 (Dat.toN d0.2.2.1)) (Dat.len x61)) then Dat.bnd (Dat.get x61 (Dat.addN 0 (Dat.toN d0.2.2.1)) zMf) fun x66 =>
 Dat.bind (slices_Clone_byte_byte d0.2.2.2) fun x67 =>
 Dat.bnd (Dat.app s14.2.1 (x67::([] : List (List Int)))) fun x68 =>
 if (Dat.In d0.2.2.1 (Dat.len x61)) then if (Dat.Lt (Dat.addN 0 (Dat.toN d0.2.2.1)) (Dat.len x61)) then Dat.bnd (Dat.set x61 (Dat.addN 0 (Dat.toN d0.2.2.1)) (2,(x66.2.1,((Dat.xrow (Dat.len s14.2.1) x67),(x66.2.2.2.1,(x66.2.2.2.2.1,(x66.2.2.2.2.2.1,()))))))) fun x73 =>
 if (Dat.Le (Dat.addN 0 (Dat.len x61)) (Dat.len x73)) then Dat.bind (Dat.mapO (fun e76 =>
 if (Dat.XOk x68 e76.2.2.1) then Dat.bnd (Dat.xget x68 e76.2.2.1) fun x79 =>
 if (Dat.XOk s14.2.2.1 e76.2.2.2.1) then Dat.bnd (Dat.xget s14.2.2.1 e76.2.2.2.1) fun x82 =>
 some (e76.1,(e76.2.1,(x79,(x82,(e76.2.2.2.2.1,(e76.2.2.2.2.2.1,e76.2.2.2.2.2.2))))))
 else none
 else none) (Dat.seg x73 0 (Dat.len x61))) fun x83 =>
 some ((x83,(d0.2.1.2.1,())),0)
 else none
 else none
 else none
 else none
 else none
 else none
 else none)) (x13,(([] : List (List Int)),(([] : List (List Int)),0)))
 else if (Dat.Big (Dat.len (Dat.seg ([] : List TFr) 0 0)) (Dat.len d0.2.1.1) 72) then none
 else Dat.bnd (Dat.app (Dat.seg ([] : List TFr) 0 0) d0.2.1.1) fun x86 =>
 Dat.bind (Dat.mapO (fun e87 =>
 some (e87.1,(e87.2.1,((Dat.xdata e87.2.2.1),((Dat.xdata e87.2.2.2.1),(e87.2.2.2.2.1,(e87.2.2.2.2.2.1,e87.2.2.2.2.2.2))))))) x86) fun x88 =>
 Dat.loop (twB (Dat.len x86) (fun s89 =>
 if (Dat.Le (Dat.addN 0 (Dat.len x86)) (Dat.len s89.1)) then if (Dat.Le (Dat.addN 0 0) (Dat.len ([] : List TFr))) then if (Dat.EqN (Dat.len (Dat.seg s89.1 0 (Dat.len x86))) 0) then if (Dat.In d0.2.2.1 0) then if (Dat.Lt (Dat.addN 0 (Dat.toN d0.2.2.1)) (Dat.len ([] : List TFr))) then Dat.bnd (Dat.get ([] : List TFr) (Dat.addN 0 (Dat.toN d0.2.2.1)) zFr) fun x129 =>
 Dat.bind (slices_Clone_byte_byte d0.2.2.2) fun x130 =>
 Dat.bnd (Dat.app s89.2.1 (x130::([] : List (List Int)))) fun x131 =>
 if (Dat.In d0.2.2.1 0) then none
 else none
 else none
 else none
 else if (Dat.Big (Dat.len ([] : List TMf)) (Dat.len (Dat.seg s89.1 0 (Dat.len x86))) 72) then none
 else Dat.bnd (Dat.app ([] : List TMf) (Dat.seg s89.1 0 (Dat.len x86))) fun x136 =>
 if (Dat.In d0.2.2.1 (Dat.len x136)) then if (Dat.Lt (Dat.addN 0 (Dat.toN d0.2.2.1)) (Dat.len x136)) then Dat.bnd (Dat.get x136 (Dat.addN 0 (Dat.toN d0.2.2.1)) zMf) fun x141 =>
 Dat.bind (slices_Clone_byte_byte d0.2.2.2) fun x142 =>
 Dat.bnd (Dat.app s89.2.1 (x142::([] : List (List Int)))) fun x143 =>
 if (Dat.In d0.2.2.1 (Dat.len x136)) then if (Dat.Lt (Dat.addN 0 (Dat.toN d0.2.2.1)) (Dat.len x136)) then Dat.bnd (Dat.set x136 (Dat.addN 0 (Dat.toN d0.2.2.1)) (2,(x141.2.1,((Dat.xrow (Dat.len s89.2.1) x142),(x141.2.2.2.1,(x141.2.2.2.2.1,(x141.2.2.2.2.2.1,()))))))) fun x148 =>
 if (Dat.Le (Dat.addN 0 (Dat.len x136)) (Dat.len x148)) then Dat.bind (Dat.mapO (fun e151 =>
 if (Dat.XOk x143 e151.2.2.1) then Dat.bnd (Dat.xget x143 e151.2.2.1) fun x154 =>
 if (Dat.XOk s89.2.2.1 e151.2.2.2.1) then Dat.bnd (Dat.xget s89.2.2.1 e151.2.2.2.1) fun x157 =>
 some (e151.1,(e151.2.1,(x154,(x157,(e151.2.2.2.2.1,(e151.2.2.2.2.2.1,e151.2.2.2.2.2.2))))))
 else none
 else none) (Dat.seg x148 0 (Dat.len x136))) fun x158 =>
 some ((x158,(d0.2.1.2.1,())),0)
 else none
 else none
 else none
 else none
 else none
 else none
 else none)) (x88,(([] : List (List Int)),(([] : List (List Int)),0)))
 else none))
 else none))
noncomputable def p_frames_Fill : PFn:={ args:=[(.pair (.int .i64) (.pair (.int .i64) (.pair (.int .i64) (.pair (.int .i64) (.pair (.int .i64) (.pair (.int .i64) (.pair (.int .i64) (.pair (.int .i64) (.pair (.int .i64) .unit))))))))),(.pair (.list (.pair (.int .u8) (.pair (.int .i64) (.pair (.list (.int .u8)) (.pair (.list (.int .i64)) (.pair .bool (.pair .bool .unit))))))) (.pair (.int .i64) .unit)),(.int .i64),(.list (.int .u8))],res:=[(.pair (.list (.pair (.int .u8) (.pair (.int .i64) (.pair (.list (.int .u8)) (.pair (.list (.int .i64)) (.pair .bool (.pair .bool .unit))))))) (.pair (.int .i64) .unit)),(.int .i64)],fn:=frames_Fill }
def sp11_63 : List LSpec×List Nat:=([],[3])
def sp11_27 : List LSpec×List Nat:=([{ id:=2700,known:=true,toks:=[(9000000,(.int .u8)),(9000000,(.int .i64)),(5500013,(.pair (.int .u8) (.pair (.int .i64) (.pair (.mix 20000002 (.int .u8)) (.pair (.mix 20000001 (.int .i64)) (.pair .bool (.pair .bool .unit)))))))],items:=[.vec 1000013 (.pair (.int .u8) (.pair (.int .i64) (.pair (.mix 20000002 (.int .u8)) (.pair (.mix 20000001 (.int .i64)) (.pair .bool (.pair .bool .unit)))))), .rows 20000002 (.int .u8), .rows 20000001 (.int .i64), .slot 15 (.val (.int .i64))],junk:=[16,17,18,19,5,4,20,21,22,23,24,25,26,27,28,29,30,31,32,33,34,35,36],tails:=[] }],[])
def spt11 : Tab (List LSpec×List Nat):=(.node (.node (.node (.node (.node (.node (.node .leaf (some sp11_63) .leaf) none .leaf) none .leaf) none .leaf) none (.node .leaf none (.node .leaf (some sp11_27) .leaf))) none .leaf) none .leaf)
def spf11 (f : Nat) : List LSpec×List Nat:=(spt11.get f).getD ([],[])
theorem pd_frames_Fill : PureD Try.prog cfg 11 p_frames_Fill:=fnDa spf11 [] (l:=[(29,p_frames_Check),(42,p_frames_isPlace),(48,p_slices_Clone_byte_byte),(64,p_slices_Clone_int_int)]) (lo:=[(48,o_slices_Clone_byte_byte),(64,o_slices_Clone_int_int)]) cfgOk cfgGlob (.cons pd_frames_Check (.cons pd_frames_isPlace (.cons pd_slices_Clone_byte_byte (.cons pd_slices_Clone_int_int .nil)))) (.cons od_slices_Clone_byte_byte.1 (.cons od_slices_Clone_int_int.1 .nil)) (fun d=>by kernel_rfl)
noncomputable def frames_Pin (d0 : TCf × (((List TFr) × (Int × Unit)) × (Int × Int))) : Option (((List TFr) × (Int × Unit)) × Int) :=
 Dat.bind (frames_Check ((pCf d0.1),(d0.2.1.1,(d0.2.1.2.1,())))) fun x1 =>
 (bif (Dat.ine x1 0) then some ((([] : List TFr),(0,())),x1)
 else Dat.bind (frames_isPlace ((d0.2.1.1,(d0.2.1.2.1,())),d0.2.2.1)) fun x2 =>
 (bif (Dat.bnot x2) then some ((([] : List TFr),(0,())),2)
 else Dat.bind (frames_isClient ((pCf d0.1),d0.2.2.2)) fun x3 =>
 (bif (Dat.pickB false true (Dat.bnot x3)) then some ((([] : List TFr),(0,())),2)
 else if (Dat.Ix d0.2.2.1 (Dat.len d0.2.1.1)) then Dat.bnd (Dat.get d0.2.1.1 (Dat.toN d0.2.2.1) zFr) fun x6 =>
 (bif (Dat.pickB false true (Dat.ieq x6.1 0)) then some ((([] : List TFr),(0,())),2)
 else if (Dat.Ix d0.2.2.1 (Dat.len d0.2.1.1)) then Dat.bnd (Dat.get d0.2.1.1 (Dat.toN d0.2.2.1) zFr) fun x9 =>
 if (Dat.Ix d0.2.2.2 (Dat.len x9.2.2.2.1)) then Dat.bnd (Dat.get x9.2.2.2.1 (Dat.toN d0.2.2.2) 0) fun x12 =>
 (bif (Dat.ieq x12 8) then some ((([] : List TFr),(0,())),260)
 else if (Dat.EqN (Dat.len d0.2.1.1) 0) then none
 else if (Dat.Le (Dat.addN 0 0) (Dat.len ([] : List TFr))) then if (Dat.EqN (Dat.len d0.2.1.1) 0) then Dat.bind (Dat.mapO (fun e19 =>
 some (e19.1,(e19.2.1,((Dat.xdata e19.2.2.1),((Dat.xdata e19.2.2.2.1),(e19.2.2.2.2.1,(e19.2.2.2.2.2.1,e19.2.2.2.2.2.2))))))) ([] : List TFr)) fun x20 =>
 Dat.loop (twB 0 (fun s21 =>
 if (Dat.Le (Dat.addN 0 0) (Dat.len s21.1)) then if (Dat.Le (Dat.addN 0 0) (Dat.len ([] : List TFr))) then if (Dat.EqN (Dat.len (Dat.seg s21.1 0 0)) 0) then if (Dat.In d0.2.2.1 0) then if (Dat.Lt (Dat.addN 0 (Dat.toN d0.2.2.1)) (Dat.len ([] : List TFr))) then Dat.bnd (Dat.get ([] : List TFr) (Dat.addN 0 (Dat.toN d0.2.2.1)) zFr) fun x61 =>
 if (Dat.Ix d0.2.2.2 (Dat.len x61.2.2.2.1)) then Dat.bnd (Dat.get x61.2.2.2.1 (Dat.toN d0.2.2.2) 0) fun x64 =>
 Dat.bnd (Dat.wrap .i64 (Dat.add x64 1)) fun x65 =>
 if (Dat.Ix d0.2.2.2 (Dat.len x61.2.2.2.1)) then Dat.bnd (Dat.get x61.2.2.2.1 (Dat.toN d0.2.2.2) 0) fun x68 =>
 none
 else none
 else none
 else none
 else none
 else if (Dat.Big (Dat.len ([] : List TMf)) (Dat.len (Dat.seg s21.1 0 0)) 72) then none
 else Dat.bnd (Dat.app ([] : List TMf) (Dat.seg s21.1 0 0)) fun x71 =>
 if (Dat.In d0.2.2.1 (Dat.len x71)) then if (Dat.Lt (Dat.addN 0 (Dat.toN d0.2.2.1)) (Dat.len x71)) then Dat.bnd (Dat.get x71 (Dat.addN 0 (Dat.toN d0.2.2.1)) zMf) fun x76 =>
 if (Dat.Ix d0.2.2.2 (Dat.xlen x76.2.2.2.1)) then if (Dat.XPt s21.2.2.1 x76.2.2.2.1 (Dat.toN d0.2.2.2)) then if (Dat.XPt s21.2.2.1 x76.2.2.2.1 (Dat.toN d0.2.2.2)) then Dat.bnd (Dat.xat s21.2.2.1 x76.2.2.2.1 (Dat.toN d0.2.2.2) 0) fun x83 =>
 Dat.bnd (Dat.wrap .i64 (Dat.add x83 1)) fun x84 =>
 if (Dat.Ix d0.2.2.2 (Dat.xlen x76.2.2.2.1)) then if (Dat.XPt s21.2.2.1 x76.2.2.2.1 (Dat.toN d0.2.2.2)) then if (Dat.XPt s21.2.2.1 x76.2.2.2.1 (Dat.toN d0.2.2.2)) then Dat.bnd (Dat.xset s21.2.2.1 x76.2.2.2.1 (Dat.toN d0.2.2.2) x84) fun x91 =>
 if (Dat.In d0.2.2.1 (Dat.len x71)) then if (Dat.Lt (Dat.addN 0 (Dat.toN d0.2.2.1)) (Dat.len x71)) then Dat.bnd (Dat.set x71 (Dat.addN 0 (Dat.toN d0.2.2.1)) (x76.1,(x76.2.1,(x76.2.2.1,(x76.2.2.2.1,(true,(x76.2.2.2.2.2.1,()))))))) fun x96 =>
 if (Dat.Le (Dat.addN 0 (Dat.len x71)) (Dat.len x96)) then Dat.bind (Dat.mapO (fun e99 =>
 if (Dat.XOk s21.2.1 e99.2.2.1) then Dat.bnd (Dat.xget s21.2.1 e99.2.2.1) fun x102 =>
 if (Dat.XOk x91 e99.2.2.2.1) then Dat.bnd (Dat.xget x91 e99.2.2.2.1) fun x105 =>
 some (e99.1,(e99.2.1,(x102,(x105,(e99.2.2.2.2.1,(e99.2.2.2.2.2.1,e99.2.2.2.2.2.2))))))
 else none
 else none) (Dat.seg x96 0 (Dat.len x71))) fun x106 =>
 some ((x106,(d0.2.1.2.1,())),0)
 else none
 else none
 else none
 else none
 else none
 else none
 else none
 else none
 else none
 else none
 else none
 else none
 else none)) (x20,(([] : List (List Int)),(([] : List (List Int)),0)))
 else if (Dat.Big (Dat.len (Dat.seg ([] : List TFr) 0 0)) (Dat.len d0.2.1.1) 72) then none
 else Dat.bnd (Dat.app (Dat.seg ([] : List TFr) 0 0) d0.2.1.1) fun x109 =>
 Dat.bind (Dat.mapO (fun e110 =>
 some (e110.1,(e110.2.1,((Dat.xdata e110.2.2.1),((Dat.xdata e110.2.2.2.1),(e110.2.2.2.2.1,(e110.2.2.2.2.2.1,e110.2.2.2.2.2.2))))))) x109) fun x111 =>
 Dat.loop (twB (Dat.len x109) (fun s112 =>
 if (Dat.Le (Dat.addN 0 (Dat.len x109)) (Dat.len s112.1)) then if (Dat.Le (Dat.addN 0 0) (Dat.len ([] : List TFr))) then if (Dat.EqN (Dat.len (Dat.seg s112.1 0 (Dat.len x109))) 0) then if (Dat.In d0.2.2.1 0) then if (Dat.Lt (Dat.addN 0 (Dat.toN d0.2.2.1)) (Dat.len ([] : List TFr))) then Dat.bnd (Dat.get ([] : List TFr) (Dat.addN 0 (Dat.toN d0.2.2.1)) zFr) fun x152 =>
 if (Dat.Ix d0.2.2.2 (Dat.len x152.2.2.2.1)) then Dat.bnd (Dat.get x152.2.2.2.1 (Dat.toN d0.2.2.2) 0) fun x155 =>
 Dat.bnd (Dat.wrap .i64 (Dat.add x155 1)) fun x156 =>
 if (Dat.Ix d0.2.2.2 (Dat.len x152.2.2.2.1)) then Dat.bnd (Dat.get x152.2.2.2.1 (Dat.toN d0.2.2.2) 0) fun x159 =>
 none
 else none
 else none
 else none
 else none
 else if (Dat.Big (Dat.len ([] : List TMf)) (Dat.len (Dat.seg s112.1 0 (Dat.len x109))) 72) then none
 else Dat.bnd (Dat.app ([] : List TMf) (Dat.seg s112.1 0 (Dat.len x109))) fun x162 =>
 if (Dat.In d0.2.2.1 (Dat.len x162)) then if (Dat.Lt (Dat.addN 0 (Dat.toN d0.2.2.1)) (Dat.len x162)) then Dat.bnd (Dat.get x162 (Dat.addN 0 (Dat.toN d0.2.2.1)) zMf) fun x167 =>
 if (Dat.Ix d0.2.2.2 (Dat.xlen x167.2.2.2.1)) then if (Dat.XPt s112.2.2.1 x167.2.2.2.1 (Dat.toN d0.2.2.2)) then if (Dat.XPt s112.2.2.1 x167.2.2.2.1 (Dat.toN d0.2.2.2)) then Dat.bnd (Dat.xat s112.2.2.1 x167.2.2.2.1 (Dat.toN d0.2.2.2) 0) fun x174 =>
 Dat.bnd (Dat.wrap .i64 (Dat.add x174 1)) fun x175 =>
 if (Dat.Ix d0.2.2.2 (Dat.xlen x167.2.2.2.1)) then if (Dat.XPt s112.2.2.1 x167.2.2.2.1 (Dat.toN d0.2.2.2)) then if (Dat.XPt s112.2.2.1 x167.2.2.2.1 (Dat.toN d0.2.2.2)) then Dat.bnd (Dat.xset s112.2.2.1 x167.2.2.2.1 (Dat.toN d0.2.2.2) x175) fun x182 =>
 if (Dat.In d0.2.2.1 (Dat.len x162)) then if (Dat.Lt (Dat.addN 0 (Dat.toN d0.2.2.1)) (Dat.len x162)) then Dat.bnd (Dat.set x162 (Dat.addN 0 (Dat.toN d0.2.2.1)) (x167.1,(x167.2.1,(x167.2.2.1,(x167.2.2.2.1,(true,(x167.2.2.2.2.2.1,()))))))) fun x187 =>
 if (Dat.Le (Dat.addN 0 (Dat.len x162)) (Dat.len x187)) then Dat.bind (Dat.mapO (fun e190 =>
 if (Dat.XOk s112.2.1 e190.2.2.1) then Dat.bnd (Dat.xget s112.2.1 e190.2.2.1) fun x193 =>
 if (Dat.XOk x182 e190.2.2.2.1) then Dat.bnd (Dat.xget x182 e190.2.2.2.1) fun x196 =>
 some (e190.1,(e190.2.1,(x193,(x196,(e190.2.2.2.2.1,(e190.2.2.2.2.2.1,e190.2.2.2.2.2.2))))))
 else none
 else none) (Dat.seg x187 0 (Dat.len x162))) fun x197 =>
 some ((x197,(d0.2.1.2.1,())),0)
 else none
 else none
 else none
 else none
 else none
 else none
 else none
 else none
 else none
 else none
 else none
 else none
 else none)) (x111,(([] : List (List Int)),(([] : List (List Int)),0)))
 else none)
 else none
 else none)
 else none)))
noncomputable def p_frames_Pin : PFn:={ args:=[(.pair (.int .i64) (.pair (.int .i64) (.pair (.int .i64) (.pair (.int .i64) (.pair (.int .i64) (.pair (.int .i64) (.pair (.int .i64) (.pair (.int .i64) (.pair (.int .i64) .unit))))))))),(.pair (.list (.pair (.int .u8) (.pair (.int .i64) (.pair (.list (.int .u8)) (.pair (.list (.int .i64)) (.pair .bool (.pair .bool .unit))))))) (.pair (.int .i64) .unit)),(.int .i64),(.int .i64)],res:=[(.pair (.list (.pair (.int .u8) (.pair (.int .i64) (.pair (.list (.int .u8)) (.pair (.list (.int .i64)) (.pair .bool (.pair .bool .unit))))))) (.pair (.int .i64) .unit)),(.int .i64)],fn:=frames_Pin }
def sp14_63 : List LSpec×List Nat:=([],[3])
def sp14_27 : List LSpec×List Nat:=([{ id:=2700,known:=true,toks:=[(9000000,(.int .u8)),(9000000,(.int .i64)),(5500013,(.pair (.int .u8) (.pair (.int .i64) (.pair (.mix 20000002 (.int .u8)) (.pair (.mix 20000001 (.int .i64)) (.pair .bool (.pair .bool .unit)))))))],items:=[.vec 1000013 (.pair (.int .u8) (.pair (.int .i64) (.pair (.mix 20000002 (.int .u8)) (.pair (.mix 20000001 (.int .i64)) (.pair .bool (.pair .bool .unit)))))), .rows 20000002 (.int .u8), .rows 20000001 (.int .i64), .slot 15 (.val (.int .i64))],junk:=[16,17,18,19,5,4,20,21,22,23,24,25,26,27,28,29,30,31,32,33,34,35,36],tails:=[] }],[])
def spt14 : Tab (List LSpec×List Nat):=(.node (.node (.node (.node (.node (.node (.node .leaf (some sp14_63) .leaf) none .leaf) none .leaf) none .leaf) none (.node .leaf none (.node .leaf (some sp14_27) .leaf))) none .leaf) none .leaf)
def spf14 (f : Nat) : List LSpec×List Nat:=(spt14.get f).getD ([],[])
theorem pd_frames_Pin : PureD Try.prog cfg 14 p_frames_Pin:=fnDa spf14 [] (l:=[(29,p_frames_Check),(42,p_frames_isPlace),(43,p_frames_isClient),(48,p_slices_Clone_byte_byte),(64,p_slices_Clone_int_int)]) (lo:=[(48,o_slices_Clone_byte_byte),(64,o_slices_Clone_int_int)]) cfgOk cfgGlob (.cons pd_frames_Check (.cons pd_frames_isPlace (.cons pd_frames_isClient (.cons pd_slices_Clone_byte_byte (.cons pd_slices_Clone_int_int .nil))))) (.cons od_slices_Clone_byte_byte.1 (.cons od_slices_Clone_int_int.1 .nil)) (fun d=>by kernel_rfl)
noncomputable def frames_Unpin (d0 : TCf × (((List TFr) × (Int × Unit)) × (Int × Int))) : Option (((List TFr) × (Int × Unit)) × Int) :=
 Dat.bind (frames_Check ((pCf d0.1),(d0.2.1.1,(d0.2.1.2.1,())))) fun x1 =>
 (bif (Dat.ine x1 0) then some ((([] : List TFr),(0,())),x1)
 else Dat.bind (frames_isPlace ((d0.2.1.1,(d0.2.1.2.1,())),d0.2.2.1)) fun x2 =>
 (bif (Dat.bnot x2) then some ((([] : List TFr),(0,())),2)
 else Dat.bind (frames_isClient ((pCf d0.1),d0.2.2.2)) fun x3 =>
 (bif (Dat.pickB false true (Dat.bnot x3)) then some ((([] : List TFr),(0,())),2)
 else if (Dat.Ix d0.2.2.1 (Dat.len d0.2.1.1)) then Dat.bnd (Dat.get d0.2.1.1 (Dat.toN d0.2.2.1) zFr) fun x6 =>
 (bif (Dat.ine x6.1 2) then some ((([] : List TFr),(0,())),260)
 else if (Dat.Ix d0.2.2.1 (Dat.len d0.2.1.1)) then Dat.bnd (Dat.get d0.2.1.1 (Dat.toN d0.2.2.1) zFr) fun x9 =>
 if (Dat.Ix d0.2.2.2 (Dat.len x9.2.2.2.1)) then Dat.bnd (Dat.get x9.2.2.2.1 (Dat.toN d0.2.2.2) 0) fun x12 =>
 (bif (Dat.pickB false true (Dat.ieq x12 0)) then some ((([] : List TFr),(0,())),260)
 else if (Dat.EqN (Dat.len d0.2.1.1) 0) then none
 else if (Dat.Le (Dat.addN 0 0) (Dat.len ([] : List TFr))) then if (Dat.EqN (Dat.len d0.2.1.1) 0) then Dat.bind (Dat.mapO (fun e19 =>
 some (e19.1,(e19.2.1,((Dat.xdata e19.2.2.1),((Dat.xdata e19.2.2.2.1),(e19.2.2.2.2.1,(e19.2.2.2.2.2.1,e19.2.2.2.2.2.2))))))) ([] : List TFr)) fun x20 =>
 Dat.loop (twB 0 (fun s21 =>
 if (Dat.Le (Dat.addN 0 0) (Dat.len s21.1)) then if (Dat.Le (Dat.addN 0 0) (Dat.len ([] : List TFr))) then if (Dat.EqN (Dat.len (Dat.seg s21.1 0 0)) 0) then if (Dat.In d0.2.2.1 0) then if (Dat.Lt (Dat.addN 0 (Dat.toN d0.2.2.1)) (Dat.len ([] : List TFr))) then Dat.bnd (Dat.get ([] : List TFr) (Dat.addN 0 (Dat.toN d0.2.2.1)) zFr) fun x61 =>
 if (Dat.Ix d0.2.2.2 (Dat.len x61.2.2.2.1)) then Dat.bnd (Dat.get x61.2.2.2.1 (Dat.toN d0.2.2.2) 0) fun x64 =>
 Dat.bnd (Dat.wrap .i64 (Dat.sub x64 1)) fun x65 =>
 if (Dat.Ix d0.2.2.2 (Dat.len x61.2.2.2.1)) then Dat.bnd (Dat.get x61.2.2.2.1 (Dat.toN d0.2.2.2) 0) fun x68 =>
 none
 else none
 else none
 else none
 else none
 else if (Dat.Big (Dat.len ([] : List TMf)) (Dat.len (Dat.seg s21.1 0 0)) 72) then none
 else Dat.bnd (Dat.app ([] : List TMf) (Dat.seg s21.1 0 0)) fun x71 =>
 if (Dat.In d0.2.2.1 (Dat.len x71)) then if (Dat.Lt (Dat.addN 0 (Dat.toN d0.2.2.1)) (Dat.len x71)) then Dat.bnd (Dat.get x71 (Dat.addN 0 (Dat.toN d0.2.2.1)) zMf) fun x76 =>
 if (Dat.Ix d0.2.2.2 (Dat.xlen x76.2.2.2.1)) then if (Dat.XPt s21.2.2.1 x76.2.2.2.1 (Dat.toN d0.2.2.2)) then if (Dat.XPt s21.2.2.1 x76.2.2.2.1 (Dat.toN d0.2.2.2)) then Dat.bnd (Dat.xat s21.2.2.1 x76.2.2.2.1 (Dat.toN d0.2.2.2) 0) fun x83 =>
 Dat.bnd (Dat.wrap .i64 (Dat.sub x83 1)) fun x84 =>
 if (Dat.Ix d0.2.2.2 (Dat.xlen x76.2.2.2.1)) then if (Dat.XPt s21.2.2.1 x76.2.2.2.1 (Dat.toN d0.2.2.2)) then if (Dat.XPt s21.2.2.1 x76.2.2.2.1 (Dat.toN d0.2.2.2)) then Dat.bnd (Dat.xset s21.2.2.1 x76.2.2.2.1 (Dat.toN d0.2.2.2) x84) fun x91 =>
 if (Dat.In d0.2.2.1 (Dat.len x71)) then if (Dat.Lt (Dat.addN 0 (Dat.toN d0.2.2.1)) (Dat.len x71)) then Dat.bnd (Dat.set x71 (Dat.addN 0 (Dat.toN d0.2.2.1)) (x76.1,(x76.2.1,(x76.2.2.1,(x76.2.2.2.1,(x76.2.2.2.2.1,(x76.2.2.2.2.2.1,()))))))) fun x96 =>
 if (Dat.Le (Dat.addN 0 (Dat.len x71)) (Dat.len x96)) then Dat.bind (Dat.mapO (fun e99 =>
 if (Dat.XOk s21.2.1 e99.2.2.1) then Dat.bnd (Dat.xget s21.2.1 e99.2.2.1) fun x102 =>
 if (Dat.XOk x91 e99.2.2.2.1) then Dat.bnd (Dat.xget x91 e99.2.2.2.1) fun x105 =>
 some (e99.1,(e99.2.1,(x102,(x105,(e99.2.2.2.2.1,(e99.2.2.2.2.2.1,e99.2.2.2.2.2.2))))))
 else none
 else none) (Dat.seg x96 0 (Dat.len x71))) fun x106 =>
 some ((x106,(d0.2.1.2.1,())),0)
 else none
 else none
 else none
 else none
 else none
 else none
 else none
 else none
 else none
 else none
 else none
 else none
 else none)) (x20,(([] : List (List Int)),(([] : List (List Int)),0)))
 else if (Dat.Big (Dat.len (Dat.seg ([] : List TFr) 0 0)) (Dat.len d0.2.1.1) 72) then none
 else Dat.bnd (Dat.app (Dat.seg ([] : List TFr) 0 0) d0.2.1.1) fun x109 =>
 Dat.bind (Dat.mapO (fun e110 =>
 some (e110.1,(e110.2.1,((Dat.xdata e110.2.2.1),((Dat.xdata e110.2.2.2.1),(e110.2.2.2.2.1,(e110.2.2.2.2.2.1,e110.2.2.2.2.2.2))))))) x109) fun x111 =>
 Dat.loop (twB (Dat.len x109) (fun s112 =>
 if (Dat.Le (Dat.addN 0 (Dat.len x109)) (Dat.len s112.1)) then if (Dat.Le (Dat.addN 0 0) (Dat.len ([] : List TFr))) then if (Dat.EqN (Dat.len (Dat.seg s112.1 0 (Dat.len x109))) 0) then if (Dat.In d0.2.2.1 0) then if (Dat.Lt (Dat.addN 0 (Dat.toN d0.2.2.1)) (Dat.len ([] : List TFr))) then Dat.bnd (Dat.get ([] : List TFr) (Dat.addN 0 (Dat.toN d0.2.2.1)) zFr) fun x152 =>
 if (Dat.Ix d0.2.2.2 (Dat.len x152.2.2.2.1)) then Dat.bnd (Dat.get x152.2.2.2.1 (Dat.toN d0.2.2.2) 0) fun x155 =>
 Dat.bnd (Dat.wrap .i64 (Dat.sub x155 1)) fun x156 =>
 if (Dat.Ix d0.2.2.2 (Dat.len x152.2.2.2.1)) then Dat.bnd (Dat.get x152.2.2.2.1 (Dat.toN d0.2.2.2) 0) fun x159 =>
 none
 else none
 else none
 else none
 else none
 else if (Dat.Big (Dat.len ([] : List TMf)) (Dat.len (Dat.seg s112.1 0 (Dat.len x109))) 72) then none
 else Dat.bnd (Dat.app ([] : List TMf) (Dat.seg s112.1 0 (Dat.len x109))) fun x162 =>
 if (Dat.In d0.2.2.1 (Dat.len x162)) then if (Dat.Lt (Dat.addN 0 (Dat.toN d0.2.2.1)) (Dat.len x162)) then Dat.bnd (Dat.get x162 (Dat.addN 0 (Dat.toN d0.2.2.1)) zMf) fun x167 =>
 if (Dat.Ix d0.2.2.2 (Dat.xlen x167.2.2.2.1)) then if (Dat.XPt s112.2.2.1 x167.2.2.2.1 (Dat.toN d0.2.2.2)) then if (Dat.XPt s112.2.2.1 x167.2.2.2.1 (Dat.toN d0.2.2.2)) then Dat.bnd (Dat.xat s112.2.2.1 x167.2.2.2.1 (Dat.toN d0.2.2.2) 0) fun x174 =>
 Dat.bnd (Dat.wrap .i64 (Dat.sub x174 1)) fun x175 =>
 if (Dat.Ix d0.2.2.2 (Dat.xlen x167.2.2.2.1)) then if (Dat.XPt s112.2.2.1 x167.2.2.2.1 (Dat.toN d0.2.2.2)) then if (Dat.XPt s112.2.2.1 x167.2.2.2.1 (Dat.toN d0.2.2.2)) then Dat.bnd (Dat.xset s112.2.2.1 x167.2.2.2.1 (Dat.toN d0.2.2.2) x175) fun x182 =>
 if (Dat.In d0.2.2.1 (Dat.len x162)) then if (Dat.Lt (Dat.addN 0 (Dat.toN d0.2.2.1)) (Dat.len x162)) then Dat.bnd (Dat.set x162 (Dat.addN 0 (Dat.toN d0.2.2.1)) (x167.1,(x167.2.1,(x167.2.2.1,(x167.2.2.2.1,(x167.2.2.2.2.1,(x167.2.2.2.2.2.1,()))))))) fun x187 =>
 if (Dat.Le (Dat.addN 0 (Dat.len x162)) (Dat.len x187)) then Dat.bind (Dat.mapO (fun e190 =>
 if (Dat.XOk s112.2.1 e190.2.2.1) then Dat.bnd (Dat.xget s112.2.1 e190.2.2.1) fun x193 =>
 if (Dat.XOk x182 e190.2.2.2.1) then Dat.bnd (Dat.xget x182 e190.2.2.2.1) fun x196 =>
 some (e190.1,(e190.2.1,(x193,(x196,(e190.2.2.2.2.1,(e190.2.2.2.2.2.1,e190.2.2.2.2.2.2))))))
 else none
 else none) (Dat.seg x187 0 (Dat.len x162))) fun x197 =>
 some ((x197,(d0.2.1.2.1,())),0)
 else none
 else none
 else none
 else none
 else none
 else none
 else none
 else none
 else none
 else none
 else none
 else none
 else none)) (x111,(([] : List (List Int)),(([] : List (List Int)),0)))
 else none)
 else none
 else none)
 else none)))
noncomputable def p_frames_Unpin : PFn:={ args:=[(.pair (.int .i64) (.pair (.int .i64) (.pair (.int .i64) (.pair (.int .i64) (.pair (.int .i64) (.pair (.int .i64) (.pair (.int .i64) (.pair (.int .i64) (.pair (.int .i64) .unit))))))))),(.pair (.list (.pair (.int .u8) (.pair (.int .i64) (.pair (.list (.int .u8)) (.pair (.list (.int .i64)) (.pair .bool (.pair .bool .unit))))))) (.pair (.int .i64) .unit)),(.int .i64),(.int .i64)],res:=[(.pair (.list (.pair (.int .u8) (.pair (.int .i64) (.pair (.list (.int .u8)) (.pair (.list (.int .i64)) (.pair .bool (.pair .bool .unit))))))) (.pair (.int .i64) .unit)),(.int .i64)],fn:=frames_Unpin }
def sp13_63 : List LSpec×List Nat:=([],[3])
def sp13_27 : List LSpec×List Nat:=([{ id:=2700,known:=true,toks:=[(9000000,(.int .u8)),(9000000,(.int .i64)),(5500013,(.pair (.int .u8) (.pair (.int .i64) (.pair (.mix 20000002 (.int .u8)) (.pair (.mix 20000001 (.int .i64)) (.pair .bool (.pair .bool .unit)))))))],items:=[.vec 1000013 (.pair (.int .u8) (.pair (.int .i64) (.pair (.mix 20000002 (.int .u8)) (.pair (.mix 20000001 (.int .i64)) (.pair .bool (.pair .bool .unit)))))), .rows 20000002 (.int .u8), .rows 20000001 (.int .i64), .slot 15 (.val (.int .i64))],junk:=[16,17,18,19,5,4,20,21,22,23,24,25,26,27,28,29,30,31,32,33,34,35,36],tails:=[] }],[])
def spt13 : Tab (List LSpec×List Nat):=(.node (.node (.node (.node (.node (.node (.node .leaf (some sp13_63) .leaf) none .leaf) none .leaf) none .leaf) none (.node .leaf none (.node .leaf (some sp13_27) .leaf))) none .leaf) none .leaf)
def spf13 (f : Nat) : List LSpec×List Nat:=(spt13.get f).getD ([],[])
theorem pd_frames_Unpin : PureD Try.prog cfg 13 p_frames_Unpin:=fnDa spf13 [] (l:=[(29,p_frames_Check),(42,p_frames_isPlace),(43,p_frames_isClient),(48,p_slices_Clone_byte_byte),(64,p_slices_Clone_int_int)]) (lo:=[(48,o_slices_Clone_byte_byte),(64,o_slices_Clone_int_int)]) cfgOk cfgGlob (.cons pd_frames_Check (.cons pd_frames_isPlace (.cons pd_frames_isClient (.cons pd_slices_Clone_byte_byte (.cons pd_slices_Clone_int_int .nil))))) (.cons od_slices_Clone_byte_byte.1 (.cons od_slices_Clone_int_int.1 .nil)) (fun d=>by kernel_rfl)
noncomputable def frames_Write (d0 : TCf × (((List TFr) × (Int × Unit)) × (Int × (List Int)))) : Option (((List TFr) × (Int × Unit)) × Int) :=
 Dat.bind (frames_Check ((pCf d0.1),(d0.2.1.1,(d0.2.1.2.1,())))) fun x1 =>
 (bif (Dat.ine x1 0) then some ((([] : List TFr),(0,())),x1)
 else Dat.bind (frames_isPlace ((d0.2.1.1,(d0.2.1.2.1,())),d0.2.2.1)) fun x2 =>
 (bif (Dat.bnot x2) then some ((([] : List TFr),(0,())),2)
 else if (Dat.Ix d0.2.2.1 (Dat.len d0.2.1.1)) then Dat.bnd (Dat.get d0.2.1.1 (Dat.toN d0.2.2.1) zFr) fun x5 =>
 (bif (Dat.pickB false true (Dat.ine x5.1 2)) then some ((([] : List TFr),(0,())),2)
 else (bif (Dat.pickB false true (Dat.ine (Dat.ofN (Dat.len d0.2.2.2)) d0.1.2.1)) then some ((([] : List TFr),(0,())),2)
 else if (Dat.EqN (Dat.len d0.2.1.1) 0) then none
 else if (Dat.Le (Dat.addN 0 0) (Dat.len ([] : List TFr))) then if (Dat.EqN (Dat.len d0.2.1.1) 0) then Dat.bind (Dat.mapO (fun e12 =>
 some (e12.1,(e12.2.1,((Dat.xdata e12.2.2.1),((Dat.xdata e12.2.2.2.1),(e12.2.2.2.2.1,(e12.2.2.2.2.2.1,e12.2.2.2.2.2.2))))))) ([] : List TFr)) fun x13 =>
 Dat.loop (twB 0 (fun s14 =>
 if (Dat.Le (Dat.addN 0 0) (Dat.len s14.1)) then if (Dat.Le (Dat.addN 0 0) (Dat.len ([] : List TFr))) then if (Dat.EqN (Dat.len (Dat.seg s14.1 0 0)) 0) then if (Dat.In d0.2.2.1 0) then if (Dat.Lt (Dat.addN 0 (Dat.toN d0.2.2.1)) (Dat.len ([] : List TFr))) then Dat.bnd (Dat.get ([] : List TFr) (Dat.addN 0 (Dat.toN d0.2.2.1)) zFr) fun x54 =>
 Dat.bind (slices_Clone_byte_byte d0.2.2.2) fun x55 =>
 Dat.bnd (Dat.app s14.2.1 (x55::([] : List (List Int)))) fun x56 =>
 if (Dat.In d0.2.2.1 0) then none
 else none
 else none
 else none
 else if (Dat.Big (Dat.len ([] : List TMf)) (Dat.len (Dat.seg s14.1 0 0)) 72) then none
 else Dat.bnd (Dat.app ([] : List TMf) (Dat.seg s14.1 0 0)) fun x61 =>
 if (Dat.In d0.2.2.1 (Dat.len x61)) then if (Dat.Lt (Dat.addN 0 (Dat.toN d0.2.2.1)) (Dat.len x61)) then Dat.bnd (Dat.get x61 (Dat.addN 0 (Dat.toN d0.2.2.1)) zMf) fun x66 =>
 Dat.bind (slices_Clone_byte_byte d0.2.2.2) fun x67 =>
 Dat.bnd (Dat.app s14.2.1 (x67::([] : List (List Int)))) fun x68 =>
 if (Dat.In d0.2.2.1 (Dat.len x61)) then if (Dat.Lt (Dat.addN 0 (Dat.toN d0.2.2.1)) (Dat.len x61)) then Dat.bnd (Dat.set x61 (Dat.addN 0 (Dat.toN d0.2.2.1)) (x66.1,(x66.2.1,((Dat.xrow (Dat.len s14.2.1) x67),(x66.2.2.2.1,(true,(true,()))))))) fun x73 =>
 if (Dat.Le (Dat.addN 0 (Dat.len x61)) (Dat.len x73)) then Dat.bind (Dat.mapO (fun e76 =>
 if (Dat.XOk x68 e76.2.2.1) then Dat.bnd (Dat.xget x68 e76.2.2.1) fun x79 =>
 if (Dat.XOk s14.2.2.1 e76.2.2.2.1) then Dat.bnd (Dat.xget s14.2.2.1 e76.2.2.2.1) fun x82 =>
 some (e76.1,(e76.2.1,(x79,(x82,(e76.2.2.2.2.1,(e76.2.2.2.2.2.1,e76.2.2.2.2.2.2))))))
 else none
 else none) (Dat.seg x73 0 (Dat.len x61))) fun x83 =>
 some ((x83,(d0.2.1.2.1,())),0)
 else none
 else none
 else none
 else none
 else none
 else none
 else none)) (x13,(([] : List (List Int)),(([] : List (List Int)),0)))
 else if (Dat.Big (Dat.len (Dat.seg ([] : List TFr) 0 0)) (Dat.len d0.2.1.1) 72) then none
 else Dat.bnd (Dat.app (Dat.seg ([] : List TFr) 0 0) d0.2.1.1) fun x86 =>
 Dat.bind (Dat.mapO (fun e87 =>
 some (e87.1,(e87.2.1,((Dat.xdata e87.2.2.1),((Dat.xdata e87.2.2.2.1),(e87.2.2.2.2.1,(e87.2.2.2.2.2.1,e87.2.2.2.2.2.2))))))) x86) fun x88 =>
 Dat.loop (twB (Dat.len x86) (fun s89 =>
 if (Dat.Le (Dat.addN 0 (Dat.len x86)) (Dat.len s89.1)) then if (Dat.Le (Dat.addN 0 0) (Dat.len ([] : List TFr))) then if (Dat.EqN (Dat.len (Dat.seg s89.1 0 (Dat.len x86))) 0) then if (Dat.In d0.2.2.1 0) then if (Dat.Lt (Dat.addN 0 (Dat.toN d0.2.2.1)) (Dat.len ([] : List TFr))) then Dat.bnd (Dat.get ([] : List TFr) (Dat.addN 0 (Dat.toN d0.2.2.1)) zFr) fun x129 =>
 Dat.bind (slices_Clone_byte_byte d0.2.2.2) fun x130 =>
 Dat.bnd (Dat.app s89.2.1 (x130::([] : List (List Int)))) fun x131 =>
 if (Dat.In d0.2.2.1 0) then none
 else none
 else none
 else none
 else if (Dat.Big (Dat.len ([] : List TMf)) (Dat.len (Dat.seg s89.1 0 (Dat.len x86))) 72) then none
 else Dat.bnd (Dat.app ([] : List TMf) (Dat.seg s89.1 0 (Dat.len x86))) fun x136 =>
 if (Dat.In d0.2.2.1 (Dat.len x136)) then if (Dat.Lt (Dat.addN 0 (Dat.toN d0.2.2.1)) (Dat.len x136)) then Dat.bnd (Dat.get x136 (Dat.addN 0 (Dat.toN d0.2.2.1)) zMf) fun x141 =>
 Dat.bind (slices_Clone_byte_byte d0.2.2.2) fun x142 =>
 Dat.bnd (Dat.app s89.2.1 (x142::([] : List (List Int)))) fun x143 =>
 if (Dat.In d0.2.2.1 (Dat.len x136)) then if (Dat.Lt (Dat.addN 0 (Dat.toN d0.2.2.1)) (Dat.len x136)) then Dat.bnd (Dat.set x136 (Dat.addN 0 (Dat.toN d0.2.2.1)) (x141.1,(x141.2.1,((Dat.xrow (Dat.len s89.2.1) x142),(x141.2.2.2.1,(true,(true,()))))))) fun x148 =>
 if (Dat.Le (Dat.addN 0 (Dat.len x136)) (Dat.len x148)) then Dat.bind (Dat.mapO (fun e151 =>
 if (Dat.XOk x143 e151.2.2.1) then Dat.bnd (Dat.xget x143 e151.2.2.1) fun x154 =>
 if (Dat.XOk s89.2.2.1 e151.2.2.2.1) then Dat.bnd (Dat.xget s89.2.2.1 e151.2.2.2.1) fun x157 =>
 some (e151.1,(e151.2.1,(x154,(x157,(e151.2.2.2.2.1,(e151.2.2.2.2.2.1,e151.2.2.2.2.2.2))))))
 else none
 else none) (Dat.seg x148 0 (Dat.len x136))) fun x158 =>
 some ((x158,(d0.2.1.2.1,())),0)
 else none
 else none
 else none
 else none
 else none
 else none
 else none)) (x88,(([] : List (List Int)),(([] : List (List Int)),0)))
 else none))
 else none))
noncomputable def p_frames_Write : PFn:={ args:=[(.pair (.int .i64) (.pair (.int .i64) (.pair (.int .i64) (.pair (.int .i64) (.pair (.int .i64) (.pair (.int .i64) (.pair (.int .i64) (.pair (.int .i64) (.pair (.int .i64) .unit))))))))),(.pair (.list (.pair (.int .u8) (.pair (.int .i64) (.pair (.list (.int .u8)) (.pair (.list (.int .i64)) (.pair .bool (.pair .bool .unit))))))) (.pair (.int .i64) .unit)),(.int .i64),(.list (.int .u8))],res:=[(.pair (.list (.pair (.int .u8) (.pair (.int .i64) (.pair (.list (.int .u8)) (.pair (.list (.int .i64)) (.pair .bool (.pair .bool .unit))))))) (.pair (.int .i64) .unit)),(.int .i64)],fn:=frames_Write }
def sp16_63 : List LSpec×List Nat:=([],[3])
def sp16_27 : List LSpec×List Nat:=([{ id:=2700,known:=true,toks:=[(9000000,(.int .u8)),(9000000,(.int .i64)),(5500013,(.pair (.int .u8) (.pair (.int .i64) (.pair (.mix 20000002 (.int .u8)) (.pair (.mix 20000001 (.int .i64)) (.pair .bool (.pair .bool .unit)))))))],items:=[.vec 1000013 (.pair (.int .u8) (.pair (.int .i64) (.pair (.mix 20000002 (.int .u8)) (.pair (.mix 20000001 (.int .i64)) (.pair .bool (.pair .bool .unit)))))), .rows 20000002 (.int .u8), .rows 20000001 (.int .i64), .slot 15 (.val (.int .i64))],junk:=[16,17,18,19,5,4,20,21,22,23,24,25,26,27,28,29,30,31,32,33,34,35,36],tails:=[] }],[])
def spt16 : Tab (List LSpec×List Nat):=(.node (.node (.node (.node (.node (.node (.node .leaf (some sp16_63) .leaf) none .leaf) none .leaf) none .leaf) none (.node .leaf none (.node .leaf (some sp16_27) .leaf))) none .leaf) none .leaf)
def spf16 (f : Nat) : List LSpec×List Nat:=(spt16.get f).getD ([],[])
theorem pd_frames_Write : PureD Try.prog cfg 16 p_frames_Write:=fnDa spf16 [] (l:=[(29,p_frames_Check),(42,p_frames_isPlace),(48,p_slices_Clone_byte_byte),(64,p_slices_Clone_int_int)]) (lo:=[(48,o_slices_Clone_byte_byte),(64,o_slices_Clone_int_int)]) cfgOk cfgGlob (.cons pd_frames_Check (.cons pd_frames_isPlace (.cons pd_slices_Clone_byte_byte (.cons pd_slices_Clone_int_int .nil)))) (.cons od_slices_Clone_byte_byte.1 (.cons od_slices_Clone_int_int.1 .nil)) (fun d=>by kernel_rfl)
noncomputable def frames_Clean (d0 : TCf × (((List TFr) × (Int × Unit)) × Int)) : Option (((List TFr) × (Int × Unit)) × Int) :=
 Dat.bind (frames_Check ((pCf d0.1),(d0.2.1.1,(d0.2.1.2.1,())))) fun x1 =>
 (bif (Dat.ine x1 0) then some ((([] : List TFr),(0,())),x1)
 else Dat.bind (frames_isPlace ((d0.2.1.1,(d0.2.1.2.1,())),d0.2.2)) fun x2 =>
 (bif (Dat.bnot x2) then some ((([] : List TFr),(0,())),2)
 else if (Dat.Ix d0.2.2 (Dat.len d0.2.1.1)) then Dat.bnd (Dat.get d0.2.1.1 (Dat.toN d0.2.2) zFr) fun x5 =>
 (bif (Dat.pickB false true (Dat.bnot x5.2.2.2.2.2.1)) then some ((([] : List TFr),(0,())),2)
 else if (Dat.EqN (Dat.len d0.2.1.1) 0) then none
 else if (Dat.Le (Dat.addN 0 0) (Dat.len ([] : List TFr))) then if (Dat.EqN (Dat.len d0.2.1.1) 0) then Dat.bind (Dat.mapO (fun e12 =>
 some (e12.1,(e12.2.1,((Dat.xdata e12.2.2.1),((Dat.xdata e12.2.2.2.1),(e12.2.2.2.2.1,(e12.2.2.2.2.2.1,e12.2.2.2.2.2.2))))))) ([] : List TFr)) fun x13 =>
 Dat.loop (twB 0 (fun s14 =>
 if (Dat.Le (Dat.addN 0 0) (Dat.len s14.1)) then if (Dat.Le (Dat.addN 0 0) (Dat.len ([] : List TFr))) then if (Dat.EqN (Dat.len (Dat.seg s14.1 0 0)) 0) then if (Dat.In d0.2.2 0) then if (Dat.Lt (Dat.addN 0 (Dat.toN d0.2.2)) (Dat.len ([] : List TFr))) then Dat.bnd (Dat.get ([] : List TFr) (Dat.addN 0 (Dat.toN d0.2.2)) zFr) fun x54 =>
 if (Dat.In d0.2.2 0) then if (Dat.Lt (Dat.addN 0 (Dat.toN d0.2.2)) (Dat.len ([] : List TFr))) then Dat.bnd (Dat.set ([] : List TFr) (Dat.addN 0 (Dat.toN d0.2.2)) (x54.1,(x54.2.1,(x54.2.2.1,(x54.2.2.2.1,(x54.2.2.2.2.1,(false,()))))))) fun x59 =>
 if (Dat.Le (Dat.addN 0 0) (Dat.len x59)) then some (((Dat.seg x59 0 0),(d0.2.1.2.1,())),0)
 else none
 else none
 else none
 else none
 else none
 else if (Dat.Big (Dat.len ([] : List TMf)) (Dat.len (Dat.seg s14.1 0 0)) 72) then none
 else Dat.bnd (Dat.app ([] : List TMf) (Dat.seg s14.1 0 0)) fun x64 =>
 if (Dat.In d0.2.2 (Dat.len x64)) then if (Dat.Lt (Dat.addN 0 (Dat.toN d0.2.2)) (Dat.len x64)) then Dat.bnd (Dat.get x64 (Dat.addN 0 (Dat.toN d0.2.2)) zMf) fun x69 =>
 if (Dat.In d0.2.2 (Dat.len x64)) then if (Dat.Lt (Dat.addN 0 (Dat.toN d0.2.2)) (Dat.len x64)) then Dat.bnd (Dat.set x64 (Dat.addN 0 (Dat.toN d0.2.2)) (x69.1,(x69.2.1,(x69.2.2.1,(x69.2.2.2.1,(x69.2.2.2.2.1,(false,()))))))) fun x74 =>
 if (Dat.Le (Dat.addN 0 (Dat.len x64)) (Dat.len x74)) then Dat.bind (Dat.mapO (fun e77 =>
 if (Dat.XOk s14.2.1 e77.2.2.1) then Dat.bnd (Dat.xget s14.2.1 e77.2.2.1) fun x80 =>
 if (Dat.XOk s14.2.2.1 e77.2.2.2.1) then Dat.bnd (Dat.xget s14.2.2.1 e77.2.2.2.1) fun x83 =>
 some (e77.1,(e77.2.1,(x80,(x83,(e77.2.2.2.2.1,(e77.2.2.2.2.2.1,e77.2.2.2.2.2.2))))))
 else none
 else none) (Dat.seg x74 0 (Dat.len x64))) fun x84 =>
 some ((x84,(d0.2.1.2.1,())),0)
 else none
 else none
 else none
 else none
 else none
 else none
 else none)) (x13,(([] : List (List Int)),(([] : List (List Int)),0)))
 else if (Dat.Big (Dat.len (Dat.seg ([] : List TFr) 0 0)) (Dat.len d0.2.1.1) 72) then none
 else Dat.bnd (Dat.app (Dat.seg ([] : List TFr) 0 0) d0.2.1.1) fun x87 =>
 Dat.bind (Dat.mapO (fun e88 =>
 some (e88.1,(e88.2.1,((Dat.xdata e88.2.2.1),((Dat.xdata e88.2.2.2.1),(e88.2.2.2.2.1,(e88.2.2.2.2.2.1,e88.2.2.2.2.2.2))))))) x87) fun x89 =>
 Dat.loop (twB (Dat.len x87) (fun s90 =>
 if (Dat.Le (Dat.addN 0 (Dat.len x87)) (Dat.len s90.1)) then if (Dat.Le (Dat.addN 0 0) (Dat.len ([] : List TFr))) then if (Dat.EqN (Dat.len (Dat.seg s90.1 0 (Dat.len x87))) 0) then if (Dat.In d0.2.2 0) then if (Dat.Lt (Dat.addN 0 (Dat.toN d0.2.2)) (Dat.len ([] : List TFr))) then Dat.bnd (Dat.get ([] : List TFr) (Dat.addN 0 (Dat.toN d0.2.2)) zFr) fun x130 =>
 if (Dat.In d0.2.2 0) then if (Dat.Lt (Dat.addN 0 (Dat.toN d0.2.2)) (Dat.len ([] : List TFr))) then Dat.bnd (Dat.set ([] : List TFr) (Dat.addN 0 (Dat.toN d0.2.2)) (x130.1,(x130.2.1,(x130.2.2.1,(x130.2.2.2.1,(x130.2.2.2.2.1,(false,()))))))) fun x135 =>
 if (Dat.Le (Dat.addN 0 0) (Dat.len x135)) then some (((Dat.seg x135 0 0),(d0.2.1.2.1,())),0)
 else none
 else none
 else none
 else none
 else none
 else if (Dat.Big (Dat.len ([] : List TMf)) (Dat.len (Dat.seg s90.1 0 (Dat.len x87))) 72) then none
 else Dat.bnd (Dat.app ([] : List TMf) (Dat.seg s90.1 0 (Dat.len x87))) fun x140 =>
 if (Dat.In d0.2.2 (Dat.len x140)) then if (Dat.Lt (Dat.addN 0 (Dat.toN d0.2.2)) (Dat.len x140)) then Dat.bnd (Dat.get x140 (Dat.addN 0 (Dat.toN d0.2.2)) zMf) fun x145 =>
 if (Dat.In d0.2.2 (Dat.len x140)) then if (Dat.Lt (Dat.addN 0 (Dat.toN d0.2.2)) (Dat.len x140)) then Dat.bnd (Dat.set x140 (Dat.addN 0 (Dat.toN d0.2.2)) (x145.1,(x145.2.1,(x145.2.2.1,(x145.2.2.2.1,(x145.2.2.2.2.1,(false,()))))))) fun x150 =>
 if (Dat.Le (Dat.addN 0 (Dat.len x140)) (Dat.len x150)) then Dat.bind (Dat.mapO (fun e153 =>
 if (Dat.XOk s90.2.1 e153.2.2.1) then Dat.bnd (Dat.xget s90.2.1 e153.2.2.1) fun x156 =>
 if (Dat.XOk s90.2.2.1 e153.2.2.2.1) then Dat.bnd (Dat.xget s90.2.2.1 e153.2.2.2.1) fun x159 =>
 some (e153.1,(e153.2.1,(x156,(x159,(e153.2.2.2.2.1,(e153.2.2.2.2.2.1,e153.2.2.2.2.2.2))))))
 else none
 else none) (Dat.seg x150 0 (Dat.len x140))) fun x160 =>
 some ((x160,(d0.2.1.2.1,())),0)
 else none
 else none
 else none
 else none
 else none
 else none
 else none)) (x89,(([] : List (List Int)),(([] : List (List Int)),0)))
 else none)
 else none))
noncomputable def p_frames_Clean : PFn:={ args:=[(.pair (.int .i64) (.pair (.int .i64) (.pair (.int .i64) (.pair (.int .i64) (.pair (.int .i64) (.pair (.int .i64) (.pair (.int .i64) (.pair (.int .i64) (.pair (.int .i64) .unit))))))))),(.pair (.list (.pair (.int .u8) (.pair (.int .i64) (.pair (.list (.int .u8)) (.pair (.list (.int .i64)) (.pair .bool (.pair .bool .unit))))))) (.pair (.int .i64) .unit)),(.int .i64)],res:=[(.pair (.list (.pair (.int .u8) (.pair (.int .i64) (.pair (.list (.int .u8)) (.pair (.list (.int .i64)) (.pair .bool (.pair .bool .unit))))))) (.pair (.int .i64) .unit)),(.int .i64)],fn:=frames_Clean }
def sp17_63 : List LSpec×List Nat:=([],[3])
def sp17_27 : List LSpec×List Nat:=([{ id:=2700,known:=true,toks:=[(9000000,(.int .u8)),(9000000,(.int .i64)),(5500013,(.pair (.int .u8) (.pair (.int .i64) (.pair (.mix 20000002 (.int .u8)) (.pair (.mix 20000001 (.int .i64)) (.pair .bool (.pair .bool .unit)))))))],items:=[.vec 1000013 (.pair (.int .u8) (.pair (.int .i64) (.pair (.mix 20000002 (.int .u8)) (.pair (.mix 20000001 (.int .i64)) (.pair .bool (.pair .bool .unit)))))), .rows 20000002 (.int .u8), .rows 20000001 (.int .i64), .slot 15 (.val (.int .i64))],junk:=[16,17,18,19,5,4,20,21,22,23,24,25,26,27,28,29,30,31,32,33,34,35,36],tails:=[] }],[])
def spt17 : Tab (List LSpec×List Nat):=(.node (.node (.node (.node (.node (.node (.node .leaf (some sp17_63) .leaf) none .leaf) none .leaf) none .leaf) none (.node .leaf none (.node .leaf (some sp17_27) .leaf))) none .leaf) none .leaf)
def spf17 (f : Nat) : List LSpec×List Nat:=(spt17.get f).getD ([],[])
theorem pd_frames_Clean : PureD Try.prog cfg 17 p_frames_Clean:=fnDa spf17 [] (l:=[(29,p_frames_Check),(42,p_frames_isPlace),(48,p_slices_Clone_byte_byte),(64,p_slices_Clone_int_int)]) (lo:=[(48,o_slices_Clone_byte_byte),(64,o_slices_Clone_int_int)]) cfgOk cfgGlob (.cons pd_frames_Check (.cons pd_frames_isPlace (.cons pd_slices_Clone_byte_byte (.cons pd_slices_Clone_int_int .nil)))) (.cons od_slices_Clone_byte_byte.1 (.cons od_slices_Clone_int_int.1 .nil)) (fun d=>by kernel_rfl)
noncomputable def ref25_TwinFrame (d0 : TFr) : Option TFr :=
 if (Dat.Le (Dat.addN 0 0) (Dat.len ([] : List Int))) then if (Dat.Big (Dat.len (Dat.seg ([] : List Int) 0 0)) (Dat.len d0.2.2.1) 1) then none
 else Dat.bnd (Dat.app (Dat.seg ([] : List Int) 0 0) d0.2.2.1) fun x5 =>
 if (Dat.Le (Dat.addN 0 0) (Dat.len ([] : List Int))) then if (Dat.Big (Dat.len (Dat.seg ([] : List Int) 0 0)) (Dat.len d0.2.2.2.1) 8) then none
 else Dat.bnd (Dat.app (Dat.seg ([] : List Int) 0 0) d0.2.2.2.1) fun x10 =>
 some (d0.1,(d0.2.1,(x5,(x10,(d0.2.2.2.2.1,(d0.2.2.2.2.2.1,()))))))
 else none
 else none
noncomputable def p_ref25_TwinFrame : PFn:={ args:=[(.pair (.int .u8) (.pair (.int .i64) (.pair (.list (.int .u8)) (.pair (.list (.int .i64)) (.pair .bool (.pair .bool .unit))))))],res:=[(.pair (.int .u8) (.pair (.int .i64) (.pair (.list (.int .u8)) (.pair (.list (.int .i64)) (.pair .bool (.pair .bool .unit))))))],fn:=ref25_TwinFrame }
theorem pd_ref25_TwinFrame : PureD Try.prog cfg 55 p_ref25_TwinFrame:=fnD sp0 (l:=[]) cfgOk cfgGlob .nil (fun d=>by kernel_rfl)
noncomputable def ref25_Twin (d0 : (List TFr) × (Int × Unit)) : Option ((List TFr) × (Int × Unit)) :=
 Dat.loop (fun (s1 : Int×((List (List TFr))×((MixE TFr)×Int))) k2 =>
 (bif (Dat.ilt s1.1 (Dat.ofN (Dat.len d0.1))) then if (Dat.Ix s1.1 (Dat.len d0.1)) then Dat.bnd (Dat.get d0.1 (Dat.toN s1.1) zFr) fun x5 =>
 Dat.bind (ref25_TwinFrame (x5.1,(x5.2.1,(x5.2.2.1,(x5.2.2.2.1,(x5.2.2.2.2.1,(x5.2.2.2.2.2.1,()))))))) fun x6 =>
 if (Dat.Le (Dat.addN 0 1) (Dat.len ((x6.1,(x6.2.1,(x6.2.2.1,(x6.2.2.2.1,(x6.2.2.2.2.1,(x6.2.2.2.2.2.1,()))))))::([] : List TFr)))) then if (Dat.XGr s1.2.1 s1.2.2.1) then if (Dat.EqN (Dat.len (Dat.seg ((x6.1,(x6.2.1,(x6.2.2.1,(x6.2.2.2.1,(x6.2.2.2.2.1,(x6.2.2.2.2.2.1,()))))))::([] : List TFr)) 0 1)) 0) then Dat.bnd (Dat.wrap .i64 (Dat.add s1.1 1)) fun x13 =>
 k2 (x13,(s1.2.1,(s1.2.2.1,s1.2.2.2)))
 else if (Dat.Big (Dat.xlen s1.2.2.1) (Dat.len (Dat.seg ((x6.1,(x6.2.1,(x6.2.2.1,(x6.2.2.2.1,(x6.2.2.2.2.1,(x6.2.2.2.2.2.1,()))))))::([] : List TFr)) 0 1)) 72) then none
 else Dat.bnd (Dat.xapp s1.2.1 s1.2.2.1 (Dat.seg ((x6.1,(x6.2.1,(x6.2.2.1,(x6.2.2.2.1,(x6.2.2.2.2.1,(x6.2.2.2.2.2.1,()))))))::([] : List TFr)) 0 1)) fun x16 =>
 Dat.bnd (Dat.xlong s1.2.2.1 (Dat.len (Dat.seg ((x6.1,(x6.2.1,(x6.2.2.1,(x6.2.2.2.1,(x6.2.2.2.2.1,(x6.2.2.2.2.2.1,()))))))::([] : List TFr)) 0 1))) fun x17 =>
 Dat.bnd (Dat.wrap .i64 (Dat.add s1.1 1)) fun x18 =>
 k2 (x18,(x16,(x17,s1.2.2.2)))
 else none
 else none
 else none
 else if (Dat.XW s1.2.1 s1.2.2.1) then Dat.bnd (Dat.xget s1.2.1 s1.2.2.1) fun x21 =>
 some (x21,(s1.2.2.2,()))
 else none)) (0,((([] : List TFr)::([] : List (List TFr))),((Dat.xnew (α:=TFr) 0 0),d0.2.1)))
noncomputable def p_ref25_Twin : PFn:={ args:=[(.pair (.list (.pair (.int .u8) (.pair (.int .i64) (.pair (.list (.int .u8)) (.pair (.list (.int .i64)) (.pair .bool (.pair .bool .unit))))))) (.pair (.int .i64) .unit))],res:=[(.pair (.list (.pair (.int .u8) (.pair (.int .i64) (.pair (.list (.int .u8)) (.pair (.list (.int .i64)) (.pair .bool (.pair .bool .unit))))))) (.pair (.int .i64) .unit))],fn:=ref25_Twin }
def sp22_22 : List LSpec×List Nat:=([{ id:=2200,known:=true,toks:=[(7002000,(.pair (.int .u8) (.pair (.int .i64) (.pair (.list (.int .u8)) (.pair (.list (.int .i64)) (.pair .bool (.pair .bool .unit)))))))],items:=[.slot 4 (.val (.int .i64)), .rows 2002000 (.pair (.int .u8) (.pair (.int .i64) (.pair (.list (.int .u8)) (.pair (.list (.int .i64)) (.pair .bool (.pair .bool .unit)))))), .cells 1000003 [.val (.mix 2002000 (.pair (.int .u8) (.pair (.int .i64) (.pair (.list (.int .u8)) (.pair (.list (.int .i64)) (.pair .bool (.pair .bool .unit))))))), .val (.int .i64)]],junk:=[8,9,10,11,12,15,16,17,18,19,20,21,22,23,24,25,13,14],tails:=[] }],[])
def spt22 : Tab (List LSpec×List Nat):=(.node .leaf none (.node .leaf none (.node .leaf none (.node (.node .leaf (some sp22_22) .leaf) none .leaf))))
def spf22 (f : Nat) : List LSpec×List Nat:=(spt22.get f).getD ([],[])
noncomputable def o_ref25_Twin : OFn:={ args:=[(.pair (.list (.pair (.int .u8) (.pair (.int .i64) (.pair (.list (.int .u8)) (.pair (.list (.int .i64)) (.pair .bool (.pair .bool .unit))))))) (.pair (.int .i64) .unit))],ores:=[(.pair (.own (.pair (.int .u8) (.pair (.int .i64) (.pair (.list (.int .u8)) (.pair (.list (.int .i64)) (.pair .bool (.pair .bool .unit))))))) (.pair (.plain (.int .i64)) (.plain .unit)))],fn:=ref25_Twin }
theorem od_ref25_Twin : OwnD Try.prog cfg 22 o_ref25_Twin∧PureD Try.prog cfg 22 o_ref25_Twin.pfn:=fnO spf22 [] (l:=[(55,p_ref25_TwinFrame)]) (lo:=[]) cfgOk cfgGlob (.cons pd_ref25_TwinFrame .nil) .nil (fun d=>by kernel_rfl)
theorem pd_ref25_Twin : PureD Try.prog cfg 22 p_ref25_Twin:=od_ref25_Twin.2
noncomputable def ref01_Same (d0 : List Int × (List Int)) : Option Bool :=
 Dat.bnd (Dat.str d0.1) fun x1 =>
 Dat.bnd (Dat.str d0.2) fun x2 =>
 some (Dat.seq x1 x2)
noncomputable def p_ref01_Same : PFn:={ args:=[(.list (.int .u8)),(.list (.int .u8))],res:=[.bool],fn:=ref01_Same }
theorem pd_ref01_Same : PureD Try.prog cfg 39 p_ref01_Same:=fnD sp0 (l:=[]) cfgOk cfgGlob .nil (fun d=>by kernel_rfl)
noncomputable def ref01_SameInts (d0 : List Int × (List Int)) : Option Bool :=
 (bif (Dat.ine (Dat.ofN (Dat.len d0.1)) (Dat.ofN (Dat.len d0.2))) then some false
 else Dat.loop (fun (s1 : Int) k2 =>
 (bif (Dat.ilt s1 (Dat.ofN (Dat.len d0.1))) then if (Dat.Ix s1 (Dat.len d0.1)) then Dat.bnd (Dat.get d0.1 (Dat.toN s1) 0) fun x5 =>
 if (Dat.Ix s1 (Dat.len d0.2)) then Dat.bnd (Dat.get d0.2 (Dat.toN s1) 0) fun x8 =>
 (bif (Dat.ine x5 x8) then some false
 else Dat.bnd (Dat.wrap .i64 (Dat.add s1 1)) fun x9 =>
 k2 x9)
 else none
 else none
 else some true)) 0)
noncomputable def p_ref01_SameInts : PFn:={ args:=[(.list (.int .i64)),(.list (.int .i64))],res:=[.bool],fn:=ref01_SameInts }
def sp19_19 : List LSpec×List Nat:=([{ id:=1900,known:=true,toks:=[],items:=[.slot 5 (.val (.int .i64))],junk:=[11,12,13,14,17,18,19,20,21,22,23,24,25,4,15,16],tails:=[] }],[])
def spt19 : Tab (List LSpec×List Nat):=(.node (.node (.node .leaf none (.node (.node .leaf (some sp19_19) .leaf) none .leaf)) none .leaf) none .leaf)
def spf19 (f : Nat) : List LSpec×List Nat:=(spt19.get f).getD ([],[])
theorem pd_ref01_SameInts : PureD Try.prog cfg 19 p_ref01_SameInts:=fnD spf19 (l:=[]) cfgOk cfgGlob .nil (fun d=>by kernel_rfl)
noncomputable def ref25_Same (d0 : ((List TFr) × (Int × Unit)) × ((List TFr) × (Int × Unit))) : Option Bool :=
 (bif (Dat.ine (Dat.ofN (Dat.len d0.1.1)) (Dat.ofN (Dat.len d0.2.1))) then some false
 else (bif (Dat.pickB false true (Dat.ine d0.1.2.1 d0.2.2.1)) then some false
 else Dat.loop (fun (s1 : Int) k2 =>
 (bif (Dat.ilt s1 (Dat.ofN (Dat.len d0.1.1))) then if (Dat.Ix s1 (Dat.len d0.1.1)) then Dat.bnd (Dat.get d0.1.1 (Dat.toN s1) zFr) fun x5 =>
 if (Dat.Ix s1 (Dat.len d0.2.1)) then Dat.bnd (Dat.get d0.2.1 (Dat.toN s1) zFr) fun x8 =>
 (bif (Dat.ine x5.1 x8.1) then some false
 else (bif (Dat.pickB false true (Dat.ine x5.2.1 x8.2.1)) then some false
 else Dat.bind (ref01_Same (x5.2.2.1,x8.2.2.1)) fun x9 =>
 (bif (Dat.pickB false true (Dat.bnot x9)) then some false
 else Dat.bind (ref01_SameInts (x5.2.2.2.1,x8.2.2.2.1)) fun x10 =>
 (bif (Dat.pickB false true (Dat.bnot x10)) then some false
 else (bif (Dat.pickB false true (Dat.bnot (Dat.beq x5.2.2.2.2.1 x8.2.2.2.2.1))) then some false
 else (bif (Dat.pickB false true (Dat.bnot (Dat.beq x5.2.2.2.2.2.1 x8.2.2.2.2.2.1))) then some false
 else Dat.bnd (Dat.wrap .i64 (Dat.add s1 1)) fun x11 =>
 k2 x11))))))
 else none
 else none
 else some true)) 0))
noncomputable def p_ref25_Same : PFn:={ args:=[(.pair (.list (.pair (.int .u8) (.pair (.int .i64) (.pair (.list (.int .u8)) (.pair (.list (.int .i64)) (.pair .bool (.pair .bool .unit))))))) (.pair (.int .i64) .unit)),(.pair (.list (.pair (.int .u8) (.pair (.int .i64) (.pair (.list (.int .u8)) (.pair (.list (.int .i64)) (.pair .bool (.pair .bool .unit))))))) (.pair (.int .i64) .unit))],res:=[.bool],fn:=ref25_Same }
def sp28_28 : List LSpec×List Nat:=([{ id:=2800,known:=true,toks:=[],items:=[.slot 5 (.val (.int .i64))],junk:=[22,23,24,25,26,29,30,31,32,33,34,35,36,37,38,6,7,39,40,41,42,43,44,45,46,47,48,49,50,51,52,53,54,55,56,57,58,59,60,61,62,63,64,65,66,67,68,69,70,71,72,73,74,75,76,77,78,79,80,4,27,28],tails:=[] }],[])
def spt28 : Tab (List LSpec×List Nat):=(.node .leaf none (.node (.node .leaf none (.node .leaf none (.node .leaf (some sp28_28) .leaf))) none .leaf))
def spf28 (f : Nat) : List LSpec×List Nat:=(spt28.get f).getD ([],[])
theorem pd_ref25_Same : PureD Try.prog cfg 28 p_ref25_Same:=fnD spf28 (l:=[(39,p_ref01_Same),(19,p_ref01_SameInts)]) cfgOk cfgGlob (.cons pd_ref01_Same (.cons pd_ref01_SameInts .nil)) (fun d=>by kernel_rfl)
noncomputable def law25_FramesStay (d0 : TCf × (((List TFr) × (Int × Unit)) × (Int × (Int × (Int × (List Int)))))) : Option Bool :=
 Dat.bind (law25_alive ()) fun x1 =>
 Dat.bind (ref25_Great (d0.2.1.1,(d0.2.1.2.1,()))) fun x2 =>
 (bif x2 then some x1
 else (bif (Dat.pickB false true (Dat.igt (Dat.ofN (Dat.len d0.2.2.2.2.2)) 100)) then some x1
 else (bif (Dat.pickB false true (Dat.bnot x1)) then some x1
 else if (Dat.MkOk 6 6 32) then if (Dat.MkOk 6 6 8) then Dat.bind (frames_Load ((pCf d0.1),((d0.2.1.1,(d0.2.1.2.1,())),(d0.2.2.1,(d0.2.2.2.1,d0.2.2.2.2.1))))) fun x7 =>
 if (Dat.In 0 (Dat.toN 6)) then if (Dat.Lt (Dat.addN 0 (Dat.toN 0)) (Dat.len (Dat.rep (α:=(List TFr)×(Int×Unit)) (Dat.toN 6) (([] : List TFr),(0,()))))) then Dat.bnd (Dat.set (Dat.rep (α:=(List TFr)×(Int×Unit)) (Dat.toN 6) (([] : List TFr),(0,()))) (Dat.addN 0 (Dat.toN 0)) (x7.1.1,(x7.1.2.1,()))) fun x12 =>
 if (Dat.In 0 (Dat.toN 6)) then if (Dat.Lt (Dat.addN 0 (Dat.toN 0)) (Dat.len (Dat.rep (α:=Int) (Dat.toN 6) 0))) then Dat.bnd (Dat.set (Dat.rep (α:=Int) (Dat.toN 6) 0) (Dat.addN 0 (Dat.toN 0)) x7.2) fun x17 =>
 Dat.bind (frames_Fill ((pCf d0.1),((d0.2.1.1,(d0.2.1.2.1,())),(d0.2.2.1,d0.2.2.2.2.2)))) fun x18 =>
 if (Dat.In 1 (Dat.toN 6)) then if (Dat.Lt (Dat.addN 0 (Dat.toN 1)) (Dat.len x12)) then Dat.bnd (Dat.set x12 (Dat.addN 0 (Dat.toN 1)) (x18.1.1,(x18.1.2.1,()))) fun x23 =>
 if (Dat.In 1 (Dat.toN 6)) then if (Dat.Lt (Dat.addN 0 (Dat.toN 1)) (Dat.len x17)) then Dat.bnd (Dat.set x17 (Dat.addN 0 (Dat.toN 1)) x18.2) fun x28 =>
 Dat.bind (frames_Pin ((pCf d0.1),((d0.2.1.1,(d0.2.1.2.1,())),(d0.2.2.1,d0.2.2.2.2.1)))) fun x29 =>
 if (Dat.In 2 (Dat.toN 6)) then if (Dat.Lt (Dat.addN 0 (Dat.toN 2)) (Dat.len x23)) then Dat.bnd (Dat.set x23 (Dat.addN 0 (Dat.toN 2)) (x29.1.1,(x29.1.2.1,()))) fun x34 =>
 if (Dat.In 2 (Dat.toN 6)) then if (Dat.Lt (Dat.addN 0 (Dat.toN 2)) (Dat.len x28)) then Dat.bnd (Dat.set x28 (Dat.addN 0 (Dat.toN 2)) x29.2) fun x39 =>
 Dat.bind (frames_Unpin ((pCf d0.1),((d0.2.1.1,(d0.2.1.2.1,())),(d0.2.2.1,d0.2.2.2.2.1)))) fun x40 =>
 if (Dat.In 3 (Dat.toN 6)) then if (Dat.Lt (Dat.addN 0 (Dat.toN 3)) (Dat.len x34)) then Dat.bnd (Dat.set x34 (Dat.addN 0 (Dat.toN 3)) (x40.1.1,(x40.1.2.1,()))) fun x45 =>
 if (Dat.In 3 (Dat.toN 6)) then if (Dat.Lt (Dat.addN 0 (Dat.toN 3)) (Dat.len x39)) then Dat.bnd (Dat.set x39 (Dat.addN 0 (Dat.toN 3)) x40.2) fun x50 =>
 Dat.bind (frames_Write ((pCf d0.1),((d0.2.1.1,(d0.2.1.2.1,())),(d0.2.2.1,d0.2.2.2.2.2)))) fun x51 =>
 if (Dat.In 4 (Dat.toN 6)) then if (Dat.Lt (Dat.addN 0 (Dat.toN 4)) (Dat.len x45)) then Dat.bnd (Dat.set x45 (Dat.addN 0 (Dat.toN 4)) (x51.1.1,(x51.1.2.1,()))) fun x56 =>
 if (Dat.In 4 (Dat.toN 6)) then if (Dat.Lt (Dat.addN 0 (Dat.toN 4)) (Dat.len x50)) then Dat.bnd (Dat.set x50 (Dat.addN 0 (Dat.toN 4)) x51.2) fun x61 =>
 Dat.bind (frames_Clean ((pCf d0.1),((d0.2.1.1,(d0.2.1.2.1,())),d0.2.2.1))) fun x62 =>
 if (Dat.In 5 (Dat.toN 6)) then if (Dat.Lt (Dat.addN 0 (Dat.toN 5)) (Dat.len x56)) then Dat.bnd (Dat.set x56 (Dat.addN 0 (Dat.toN 5)) (x62.1.1,(x62.1.2.1,()))) fun x67 =>
 if (Dat.In 5 (Dat.toN 6)) then if (Dat.Lt (Dat.addN 0 (Dat.toN 5)) (Dat.len x61)) then Dat.bnd (Dat.set x61 (Dat.addN 0 (Dat.toN 5)) x62.2) fun x72 =>
 Dat.loop (fun (s73 : Int) k74 =>
 (bif (Dat.ilt s73 6) then if (Dat.In s73 (Dat.toN 6)) then if (Dat.Lt (Dat.addN 0 (Dat.toN s73)) (Dat.len x72)) then Dat.bnd (Dat.get x72 (Dat.addN 0 (Dat.toN s73)) 0) fun x79 =>
 (bif (Dat.ine x79 0) then if (Dat.In s73 (Dat.toN 6)) then if (Dat.Lt (Dat.addN 0 (Dat.toN s73)) (Dat.len x67)) then Dat.bnd (Dat.get x67 (Dat.addN 0 (Dat.toN s73)) (([] : List TFr),(0,()))) fun x84 =>
 (bif (Dat.igt (Dat.ofN (Dat.len x84.1)) 0) then some false
 else Dat.bnd (Dat.wrap .i64 (Dat.add s73 1)) fun x85 =>
 k74 x85)
 else none
 else none
 else if (Dat.In s73 (Dat.toN 6)) then if (Dat.Lt (Dat.addN 0 (Dat.toN s73)) (Dat.len x67)) then Dat.bnd (Dat.get x67 (Dat.addN 0 (Dat.toN s73)) (([] : List TFr),(0,()))) fun x90 =>
 Dat.bind (frames_Check ((pCf d0.1),(x90.1,(x90.2.1,())))) fun x91 =>
 (bif (Dat.ine x91 0) then some false
 else if (Dat.In s73 (Dat.toN 6)) then if (Dat.Lt (Dat.addN 0 (Dat.toN s73)) (Dat.len x67)) then Dat.bnd (Dat.get x67 (Dat.addN 0 (Dat.toN s73)) (([] : List TFr),(0,()))) fun x96 =>
 (bif (Dat.pickB false true (Dat.ine (Dat.ofN (Dat.len x96.1)) (Dat.ofN (Dat.len d0.2.1.1)))) then some false
 else (bif (Dat.pickB false true (Dat.ilt d0.2.2.1 0)) then some false
 else (bif (Dat.pickB false true (Dat.ige d0.2.2.1 (Dat.ofN (Dat.len d0.2.1.1)))) then some false
 else if (Dat.In s73 (Dat.toN 6)) then if (Dat.Lt (Dat.addN 0 (Dat.toN s73)) (Dat.len x67)) then Dat.bnd (Dat.get x67 (Dat.addN 0 (Dat.toN s73)) (([] : List TFr),(0,()))) fun x101 =>
 Dat.bind (ref25_Twin (x101.1,(x101.2.1,()))) fun x102 =>
 if (Dat.EqN (Dat.len x102.1) 0) then if (Dat.Ix d0.2.2.1 (Dat.len d0.2.1.1)) then Dat.bnd (Dat.get d0.2.1.1 (Dat.toN d0.2.2.1) zFr) fun x107 =>
 if (Dat.Ix d0.2.2.1 (Dat.len x102.1)) then Dat.bnd (Dat.get x102.1 (Dat.toN d0.2.2.1) zFr) fun x110 =>
 none
 else none
 else none
 else if (Dat.Ix d0.2.2.1 (Dat.len d0.2.1.1)) then Dat.bnd (Dat.get d0.2.1.1 (Dat.toN d0.2.2.1) zFr) fun x113 =>
 if (Dat.In d0.2.2.1 (Dat.len x102.1)) then if (Dat.Lt (Dat.addN 0 (Dat.toN d0.2.2.1)) (Dat.len x102.1)) then Dat.bnd (Dat.set x102.1 (Dat.addN 0 (Dat.toN d0.2.2.1)) (x113.1,(x113.2.1,(x113.2.2.1,(x113.2.2.2.1,(x113.2.2.2.2.1,(x113.2.2.2.2.2.1,()))))))) fun x118 =>
 if (Dat.Le (Dat.addN 0 (Dat.len x102.1)) (Dat.len x118)) then Dat.bind (ref25_Same (((Dat.seg x118 0 (Dat.len x102.1)),(x102.2.1,())),(d0.2.1.1,(d0.2.1.2.1,())))) fun x121 =>
 (bif (Dat.bnot x121) then some false
 else Dat.bnd (Dat.wrap .i64 (Dat.add s73 1)) fun x122 =>
 k74 x122)
 else none
 else none
 else none
 else none
 else none
 else none)))
 else none
 else none)
 else none
 else none)
 else none
 else none
 else if (Dat.In 0 (Dat.toN 6)) then if (Dat.Lt (Dat.addN 0 (Dat.toN 0)) (Dat.len x67)) then Dat.bnd (Dat.get x67 (Dat.addN 0 (Dat.toN 0)) (([] : List TFr),(0,()))) fun x127 =>
 Dat.bind (frames_Find ((pCf d0.1),((x127.1,(x127.2.1,())),d0.2.2.2.1))) fun x128 =>
 (bif x1 then if (Dat.In 0 (Dat.toN 6)) then if (Dat.Lt (Dat.addN 0 (Dat.toN 0)) (Dat.len x72)) then Dat.bnd (Dat.get x72 (Dat.addN 0 (Dat.toN 0)) 0) fun x133 =>
 (bif (Dat.ine x133 0) then some (Dat.pickB true true false)
 else (bif x128.2 then some (Dat.pickB true (Dat.pickB false true (Dat.pickB true (Dat.ieq x128.1 d0.2.2.1) false)) false)
 else some (Dat.pickB true (Dat.pickB false true false) false)))
 else none
 else none
 else some false)
 else none
 else none)) 0
 else none
 else none
 else none
 else none
 else none
 else none
 else none
 else none
 else none
 else none
 else none
 else none
 else none
 else none
 else none
 else none
 else none
 else none
 else none
 else none
 else none
 else none
 else none
 else none
 else none
 else none)))
noncomputable def p_law25_FramesStay : PFn:={ args:=[(.pair (.int .i64) (.pair (.int .i64) (.pair (.int .i64) (.pair (.int .i64) (.pair (.int .i64) (.pair (.int .i64) (.pair (.int .i64) (.pair (.int .i64) (.pair (.int .i64) .unit))))))))),(.pair (.list (.pair (.int .u8) (.pair (.int .i64) (.pair (.list (.int .u8)) (.pair (.list (.int .i64)) (.pair .bool (.pair .bool .unit))))))) (.pair (.int .i64) .unit)),(.int .i64),(.int .i64),(.int .i64),(.list (.int .u8))],res:=[.bool],fn:=law25_FramesStay }
def sp7_7 : List LSpec×List Nat:=([{ id:=700,known:=true,toks:=[],items:=[.slot 16 (.val (.int .i64))],junk:=[107,108,111,112,113,114,115,116,117,118,119,120,121,122,12,123,124,125,126,127,128,129,130,131,132,133,134,135,136,137,138,139,140,141,142,143,144,145,146,147,148,149,150,151,152,153,154,155,156,157,17,158,159,160,161,162,163,164,165,166,167,168,169,170,109,110],tails:=[] }],[])
def spt7 : Tab (List LSpec×List Nat):=(.node (.node (.node (.node .leaf (some sp7_7) .leaf) none .leaf) none .leaf) none .leaf)
def spf7 (f : Nat) : List LSpec×List Nat:=(spt7.get f).getD ([],[])
theorem pd_law25_FramesStay : PureD Try.prog cfg 7 p_law25_FramesStay:=fnDa spf7 [] (l:=[(18,p_law25_alive),(21,p_ref25_Great),(10,p_frames_Load),(11,p_frames_Fill),(14,p_frames_Pin),(13,p_frames_Unpin),(16,p_frames_Write),(17,p_frames_Clean),(29,p_frames_Check),(22,p_ref25_Twin),(28,p_ref25_Same),(12,p_frames_Find)]) (lo:=[(22,o_ref25_Twin)]) cfgOk cfgGlob (.cons pd_law25_alive (.cons pd_ref25_Great (.cons pd_frames_Load (.cons pd_frames_Fill (.cons pd_frames_Pin (.cons pd_frames_Unpin (.cons pd_frames_Write (.cons pd_frames_Clean (.cons pd_frames_Check (.cons pd_ref25_Twin (.cons pd_ref25_Same (.cons pd_frames_Find .nil)))))))))))) (.cons od_ref25_Twin.1 .nil) (fun d=>by kernel_rfl)
end Go.Proofs.Ytablhcjjfiepaaa
