/- The engine, part 3. -/
import Derived.Test.YtampmlalpifkoaaM2
import Derived.OrdersIn
import Derived.RangeFuncRecord
import Derived.Orders
import Derived.RecoverIn
import Derived.ProofKit
import Derived.Handed
import Derived.DataShut
import Derived.WalkKit
import Derived.OpenShut
set_option linter.unusedSimpArgs false
/- The evaluator says what the machine does: operations, in the text's order. -/
namespace Go.Eng
set_option linter.unusedVariables false
def Keep(φ:Phi)(H H':Heap):Prop:=H.length≤H'.length∧∀b,b<H.length→φ b=none→H'[b]?=H[b]?
theorem Keep.refl(φ:Phi)(H:Heap):Keep φ H H:=⟨Qe _,fun _ _ _=>rfl⟩
theorem Keep.trans{n:Nat}{φ φ':Phi}{St St':Stab}{w w':World}{H H' H'':Heap}(h:Keep φ H H')(F:Frm n φ St w φ' St' w')(hn:n=H.length)(k:Keep φ' H' H''):Keep φ H H'':=
 ⟨Kf h.1 k.1,fun b hb hn'=>(k.2 b (Kt hb h.1) (F.idNew b (by omega) hn')).trans (h.2 b hb hn')⟩
theorem Keep.append(φ:Phi)(H x:Heap):Keep φ H (H++x):=⟨by simp,fun b hb _=>Qb hb⟩
def zYl(c:Cfg)(φ:Phi)(St:Stab)(w:World):Prop:=∀i v,c.glob i=some v→VR φ St w v (.pointer (some ⟨i,0,none⟩))
theorem zYl.mono{c:Cfg}{φ φ':Phi}{St St':Stab}{w w':World}(m:Mono φ St w φ' St' w')(h:zYl c φ St w):zYl c φ' St' w':=fun i v hv=>(h i v hv).mono m
section
variable {P:Program} {N:Nat} {φ:Phi} {St:Stab} {H:Heap} {w:World} {c:Cfg}
theorem zKj:VR φ St w zWt undef:=.tuple [] [] .nil
theorem yXf{tmps:List CV}{a:Act}(hg:zYl c φ St w)(ht:VRL φ St w tmps a.tmps.toList)(x:Operand):VR φ St w (ev c.glob tmps x) (a.eval x):=by
 cases x with
 | tmp t=>
  simp only[ev,Act.eval];cases hc:tmps[t]? with
  |none=>
   have:a.tmps.size≤t:=by have:=ht.length;simp at this hc;omega
   simp[List.getD,hc,this];exact zKj
  |some x=>
   obtain⟨v,h1,h2⟩:=ht.get t x hc;have h1':a.tmps[t]?=some v:=by simpa using h1
   simp[List.getD,hc,h1'];exact h2
 |const v=>
  simp only[ev,Act.eval];cases hv:ofV v with
  |none=>exact .junk _
  |some x=>exact ofV_ok hv
 |global i=>
  simp only[ev,Act.eval];cases hv:c.glob i with
  |none=>exact .junk _
  |some x=>exact hg i x hv
 |func f=>exact .func f [] [] [] [] .nil .nil
theorem zKy{tmps:List CV}{a:Act}(ht:VRL φ St w tmps a.tmps.toList)(dst:Option Tmp){x:CV}{v:Value}(hv:VR φ St w x v):VRL φ St w (putC tmps dst x) (a.put dst v).tmps.toList:=by
 cases dst with
 |none=>exact ht
 |some d=>simpa[putC,Act.put]using ht.set d hv
theorem zX6{ops:Array Oper}{tmps:List CV}{a:Act}{o:Oper}{b:Bool}(ht:VRL φ St w tmps a.tmps.toList)(h:zWn ops tmps o=some b):Region.wanted o (yielded ops a.tmps)=b:=by
 unfold zWn at h;unfold Region.wanted yielded;cases hg:o.guard with
 |none=>simp[hg]at h;simpa using h
 | some p=>
  obtain⟨j,want⟩:=p;simp only[hg]at h⊢;cases hd:(ops[j]?).bind (·.dst)with
  |none=>simp[hd]at h⊢;exact h
  | some d=>
   simp only[hd]at h⊢;simp only[Kc];cases hc:tmps[d]? with
   |none=>
    have:a.tmps[d]?=none:=by have:=ht.length;simp at this hc⊢;omega
    simp[hc]at h;simp[this];exact h
   |some x=>
    obtain⟨v,h1,h2⟩:=ht.get d x hc;have h1':a.tmps[d]?=some v:=by simpa using h1
    simp only[hc]at h;rw[h1'];split at h<;>rename_i heq<;>simp at heq<;>(try (simp at h;done))
    ·subst heq;cases h2;simp at h;simp[←h]
    ·subst heq;cases h2;simp at h;simp[←h]
structure Left (N:Nat) (φ:Phi) (St:Stab) (H:Heap) (w:World) (H':Heap) (φ':Phi) (St':Stab) (w':World):Prop where
 rel:Rel N φ' St' H' w'
 frm:Frm H.length φ St w φ' St' w'
 keep:Keep φ H H'
theorem Left.refl(R:Rel N φ St H w):Left N φ St H w H φ St w:=⟨R,Frm.refl _ _ _ _,Keep.refl _ _⟩
theorem Left.trans{H' H'':Heap}{φ' φ'':Phi}{St' St'':Stab}{w' w'':World}(a:Left N φ St H w H' φ' St' w')(b:Left N φ' St' H' w' H'' φ'' St'' w''):Left N φ St H w H'' φ'' St'' w'':=
 ⟨b.rel,a.frm.trans b.frm a.keep.1,a.keep.trans a.frm rfl b.keep⟩
theorem VRL.junk{φ:Phi}{St:Stab}{w:World}:∀{cs:List CV} {vs:List Value},cs.length=vs.length→VRL φ St w (cs.map fun _=>CV.junk) vs
 |[],[],_=>.nil
 |_::_,v::vs,h=>.cons _ _ _ _ (.junk v) (VRL.junk (by simpa using h))
def yZf(φ:Phi)(St:Stab)(w:World)(tmps:List CV)(ds:List Deferred):Out→Exit→Act→Prop
 | .normal, .normal,a=>VRL φ St w tmps a.tmps.toList∧a.defers=ds
 | .exit i, .exit j,a=>i=j∧VRL φ St w tmps a.tmps.toList∧a.defers=ds
 | .goto i, .goto j,a=>i=j∧VRL φ St w tmps a.tmps.toList∧a.defers=ds
 | .ret, .ret,a=>VRL φ St w tmps a.tmps.toList∧a.defers=ds
 | .panic c, .panic ch,a=>(∃v,ch=[{v,recovered:=false}]∧VR φ St w c v)∧VRL φ St w tmps a.tmps.toList∧a.defers=ds
 |_,_,_=>False
def wJs(m:Nat)(φ:Phi)(w:World)(d:Deferred):Prop:=
 ∃r,d={target:=.collected r,args:=#[]}∧m≤r∧w.heap[r]?=some (.deferred (some []))∧∀b e,φ b=some e→¬e.has r
def Marks(m:Nat)(φ:Phi)(w:World)(ms:List Deferred):Prop:=(∀d∈ms,wJs m φ w d)∧ms.Pairwise (fun a b=>a.target≠b.target)
theorem Marks.nil(m:Nat)(φ:Phi)(w:World):Marks m φ w []:=⟨by simp, .nil⟩
theorem wJs.step{m n:Nat}{φ φ':Phi}{St St':Stab}{w w':World}{d:Deferred}(h:wJs m φ w d)(f:Frm n φ St w φ' St' w'):wJs m φ' w' d:=by
 obtain⟨r,h1,h2,h3,h4⟩:=h;have hr:r<w.heap.size:=(Array.getElem?_eq_some_iff.1 h3).1;refine⟨r,h1,h2,by rw[f.keepBlk r hr h4];exact h3,fun b e hb he=>?_⟩
 rcases f.blkNew b e r hb he with⟨b0,e0,hb0,he0⟩|hx
 ·exact h4 b0 e0 hb0 he0
 ·omega
theorem Marks.step{m n:Nat}{φ φ':Phi}{St St':Stab}{w w':World}{ms:List Deferred}(h:Marks m φ w ms)(f:Frm n φ St w φ' St' w'):Marks m φ' w' ms:=⟨fun d hd=>(h.1 d hd).step f,h.2⟩
theorem Marks.le{m m':Nat}{φ:Phi}{w:World}{ms:List Deferred}(h:Marks m φ w ms)(hm:m'≤m):Marks m' φ w ms:=
 ⟨fun d hd=>let⟨r,h1,h2,h3⟩:=h.1 d hd;⟨r,h1,by omega,h3⟩,h.2⟩
theorem Marks.append{m m':Nat}{φ:Phi}{w:World}{ms ms':List Deferred}(h:Marks m φ w ms)(h':Marks m' φ w ms')(hm:m'≤m)(hlt:∀d∈ms',∃r,d.target=.collected r∧r<m):Marks m' φ w (ms++ms'):=by
 refine⟨fun d hd=>?_,List.pairwise_append.2 ⟨h.2,h'.2,fun a ha b hb=>?_⟩⟩
 ·rcases Qy.1 hd with hd|hd
  ·exact(h.le hm).1 d hd
  ·exact h'.1 d hd
 ·obtain⟨r,h1,h2,_⟩:=h.1 a ha
  obtain⟨r',h1',h2'⟩:=hlt b hb;rw[h1,h1'];intro e;simp at e;omega
def Post(N:Nat)(φ:Phi)(St:Stab)(H:Heap)(w:World)(ds:List Deferred)(out:Out)(tmps:List CV)(H':Heap)(e:Exit)(a:Act)(w':World):Prop:=
 ∃φ' St',Left N φ St H w H' φ' St' w'∧∃ms,Marks w.heap.size φ' w' ms∧yZf φ' St' w' tmps (ms++ds) out e a
theorem Post.plain{φ':Phi}{St':Stab}{H':Heap}{w':World}{ds:List Deferred}{out:Out}{tmps:List CV}(l:Left N φ St H w H' φ' St' w'){e:Exit}{a:Act}(o:yZf φ' St' w' tmps ds out e a):
  Post N φ St H w ds out tmps H' e a w':=⟨φ',St',l,[], .nil _ _ _,by simpa using o⟩
theorem Post.trans{φ':Phi}{St':Stab}{H' H'':Heap}{w':World}{ds ms:List Deferred}{out:Out}{tmps:List CV}(l:Left N φ St H w H' φ' St' w')(hm:Marks w.heap.size φ' w' ms){e:Exit}{a:Act}{w'':World}
  (p:Post N φ' St' H' w' (ms++ds) out tmps H'' e a w''):Post N φ St H w ds out tmps H'' e a w'':=by
 obtain⟨φ'',St'',l2,ms2,hm2,o⟩:=p;refine⟨φ'',St'',l.trans l2,ms2++ms,hm2.append (hm.step l2.frm) l.frm.size fun d hd=>?_,by rw[Jn];exact o⟩
 obtain⟨r,h1,_,h3,_⟩:=hm.1 d hd;exact⟨r,by rw[h1],(Array.getElem?_eq_some_iff.1 h3).1⟩
theorem Post.vYg{φ':Phi}{St':Stab}{H' H'':Heap}{w':World}{ds:List Deferred}{out:Out}{tmps:List CV}(l:Left N φ St H w H' φ' St' w'){e:Exit}{a:Act}{w'':World}
  (p:Post N φ' St' H' w' ds out tmps H'' e a w''):Post N φ St H w ds out tmps H'' e a w'':=Post.trans (ms:=[]) l (.nil _ _ _) p
def Fw(ro:Option Nat):Fence:={Fence.wide with round:=ro}
theorem vWd(ro:Option Nat)(n:Nat):(Fw ro).room n:=fun _ h=>by simp[Fw,Fence.wide]at h
def RdOk(φ:Phi):Option Nat→Option Nat→Prop
 |none,none=>True
 |some b,some l=>φ b=some (.obj l)∨φ b=some .dead
 |_,_=>False
theorem RdOk.mono{φ φ':Phi}{St St':Stab}{w w':World}(m:Mono φ St w φ' St' w'){rd ro:Option Nat}(h:RdOk φ rd ro):RdOk φ' rd ro:=by
 cases rd<;>cases ro<;>simp only[RdOk]at h⊢;rename_i b l;have e:=m.ext b;rcases h with h|h
 ·rw[h]at e;exact e.obj
 ·rw[h]at e;exact .inr e.dead
def yZa(N:Nat)(φ:Phi)(St:Stab)(H:Heap)(w:World)(out:Out)(vs:List CV)(H':Heap):Ending→World→Prop
 | .returned v,w'=>∃φ' St',Left N φ St H w H' φ' St' w'∧∃c,out=.ret∧vs=[c]∧VR φ' St' w' c v
 | .panicked ch,w'=>∃φ' St',Left N φ St H w H' φ' St' w'∧∃c v,out=.panic c∧ch=[{v,recovered:=false}]∧VR φ' St' w' c v
 | .outgrown,_=>False
def yYr(P:Program)(f:FuncId):Prop:=∀(args:Array Value) (w:World),(callFunc f args).run P w=.ok (.enter f args) w
def zQo(P:Program)(c:Cfg)(f:Who)(args:List CV)(H:Heap)(out:Out)(vs:List CV)(H':Heap):Prop:=
 match f with
 | .fn f=>yYr P f∧∀N φ St w us,Rel N φ St H w→zYl c φ St w→VRL φ St w args us→Calls P f us.toArray w (yZa N φ St H w out vs H')
 | .yl l=>∀N φ St w us r,Rel N φ St H w→zYl c φ St w→VRL φ St w args us→φ l=some (.obj r)→∃g ts a b,(Instr.yield r us.toArray).run P w= .ok (.round r g ts a b) w∧
   RoundIn Fence.wide 0 P r g ts a b w (yZa N φ St H w out vs H')
def xXi(P:Program)(f:Who)(args:List CV)(H:Heap)(out:Out)(vs:List CV)(H':Heap):Prop:=
 ∃g v,f=.fn g∧out=.ret∧vs=[v]∧H'=H∧∀N φ St w us,Rel N φ St H w→VRL φ St w args us→∃u,(callFunc g us.toArray).run P w=.ok (.value u) w∧VR φ St w v u
def yWh(P:Program)(c:Cfg)(call:Who→List CV→Heap→Ans):Prop:=
 ∀f args H out vs H',call f args H=some (out,vs,H')→(zQo P c f args H out vs H'∨xXi P f args H out vs H')∧∀l,f=.yl l→∃o,H[l]?=some o∧∀N φ St w,Rel N φ St H w→φ l≠some .dead
theorem Rel.longer(R:Rel N φ St H w)(x:Heap)(hx:∀o∈x,∀css,o≠.rows css):Rel N φ St (H++x) w:=by
 have hl:∀b e,φ b=some e→(H++x)[b]?=H[b]?:=fun b e hb=>Qb (R.dom b e hb)
 refine⟨fun b e hb=>by have:=R.dom b e hb;simp;omega,fun b hb=>by rw[hl b _ hb];exact R.dead b hb, ?_, ?_, ?_,R.inj,R.stLt,R.stOwn,R.stTail,R.start,fun k u hk=>by rw[hl k _ hk];exact R.void k u hk,fun b rs hb=>by rw[hl b _ hb];exact R.rows b rs hb,fun b css h=>by
  by_cases hb:b<H.length
  ·rw[Qb hb]at h;exact R.rdom b css h
  ·rw[Qj (by omega)]at h
   exact absurd rfl (hx _ (Ql h) css)⟩
 ·intro b r base size hb;rw[hl b _ hb];exact R.own b r base size hb
 ·intro b r used u size hb;rw[hl b _ hb];exact R.tail b r used u size hb
 ·intro b r hb;rw[hl b _ hb];exact R.obj b r hb
theorem wWf{ρ:Operand→CV}{ρv:Operand→Value}{o:Oper}{f:FuncId}{args:List CV}(hc:zZj ρ o.op=some (.who (.fn f) args))(hρ:∀x∈o.op.operands,VR φ St w (ρ x) (ρv x))(hent:yYr P f):
  ∃us,(execOp ρv o).run P w=.ok (.enter f us.toArray) w∧VRL φ St w args us:=by
 unfold zZj at hc;unfold execOp;cases ho:o.op<;>rw[ho]at hc hρ<;>(try (simp at hc;done))<;>dsimp only at hc⊢
 case call cl=>
  have harg:∀x∈cl.args.toList,VR φ St w (ρ x) (ρv x):=fun x hx=>hρ x (by simp[Op.operands,Call.operands];exact .inr (by simpa using hx))
  split at hc<;>(try (simp at hc;done))
  ·rename_i g hcal
   have hf:VR φ St w (ρ g) (ρv g):=hρ g (by simp[Op.operands,Call.operands,hcal])
   split at hc<;>(try (simp at hc;done))
   rename_i g0 first captured hg0
   simp at hc;obtain⟨rfl,rfl⟩:=hc;rw[hg0]at hf;generalize hgv:ρv g=gv at hf;cases hf with|func _ _ _ us vs h1 h2=>
   refine⟨us++cl.args.toList.map ρv++vs, ?_,by have:=(h1.append (VRL.ops harg)).append h2;rwa [Jn]at this⟩
   simp[resolve,hcal,hgv,Deferred.ofValue,invoke];rw[hent];congr 2;apply Ke;simp
  ·split at hc<;>(try (simp at hc;done))
   split at hc<;>(try (simp at hc;done))
 case panic x=>split at hc<;>(try (simp at hc;done))
theorem wYo{ρ:Operand→CV}{ρv:Operand→Value}{o:Oper}{f:FuncId}{args:List CV}(hc:zZj ρ o.op=some (.who (.fn f) args))(hρ:∀x∈o.op.operands,VR φ St w (ρ x) (ρv x)):
  ∃us,(execOp ρv o).run P w=(callFunc f us.toArray).run P w∧VRL φ St w args us:=by
 unfold zZj at hc;unfold execOp;cases ho:o.op<;>rw[ho]at hc hρ<;>(try (simp at hc;done))<;>dsimp only at hc⊢
 case call cl=>
  have harg:∀x∈cl.args.toList,VR φ St w (ρ x) (ρv x):=fun x hx=>hρ x (by simp[Op.operands,Call.operands];exact .inr (by simpa using hx))
  split at hc<;>(try (simp at hc;done))
  ·rename_i g hcal
   have hf:VR φ St w (ρ g) (ρv g):=hρ g (by simp[Op.operands,Call.operands,hcal])
   split at hc<;>(try (simp at hc;done))
   rename_i g0 first captured hg0
   simp at hc;obtain⟨rfl,rfl⟩:=hc;rw[hg0]at hf;generalize hgv:ρv g=gv at hf;cases hf with|func _ _ _ us vs h1 h2=>
   refine⟨us++cl.args.toList.map ρv++vs, ?_,by have:=(h1.append (VRL.ops harg)).append h2;rwa [Jn]at this⟩
   simp[resolve,hcal,hgv,Deferred.ofValue,invoke];congr 2;apply Ke;simp
  ·split at hc<;>(try (simp at hc;done))
   split at hc<;>(try (simp at hc;done))
 case panic x=>split at hc<;>(try (simp at hc;done))
theorem xX4{ρ:Operand→CV}{ρv:Operand→Value}{o:Oper}{l:Nat}{args:List CV}(hc:zZj ρ o.op=some (.who (.yl l) args))(hρ:∀x∈o.op.operands,VR φ St w (ρ x) (ρv x)):
  ∃us r,(execOp ρv o).run P w=(Instr.yield r us.toArray).run P w∧VRL φ St w args us∧(φ l=some (.obj r)∨φ l=some .dead):=by
 unfold zZj at hc;unfold execOp;cases ho:o.op<;>rw[ho]at hc hρ<;>(try (simp at hc;done))<;>dsimp only at hc⊢
 case call cl=>
  have harg:∀x∈cl.args.toList,VR φ St w (ρ x) (ρv x):=fun x hx=>hρ x (by simp[Op.operands,Call.operands];exact .inr (by simpa using hx))
  split at hc<;>(try (simp at hc;done))
  ·rename_i g hcal
   have hf:VR φ St w (ρ g) (ρv g):=hρ g (by simp[Op.operands,Call.operands,hcal])
   split at hc<;>(try (simp at hc;done))
   rename_i l0 hg0;simp at hc;obtain⟨rfl,rfl⟩:=hc;rw[hg0]at hf;generalize hgv:ρv g=gv at hf;have key:∀r,gv= .func (.yield r) #[] #[]→(Sem.run P (do
     let d←resolve ρv cl o.type
     invoke d.target d.args) w)=(Instr.yield r (cl.args.toList.map ρv).toArray).run P w:=by
    intro r e;subst e;have:(cl.args.map ρv)=(cl.args.toList.map ρv).toArray:=by apply Ke;simp
    simp[resolve,hcal,hgv,Deferred.ofValue,invoke];rw[this]
   cases hf with
   |yield _ r h=>exact⟨_,r,key r rfl,VRL.ops harg, .inl h⟩
   |yieldDead _ r h=>exact⟨_,r,key r rfl,VRL.ops harg, .inr h⟩
  ·split at hc<;>(try (simp at hc;done))
   split at hc<;>(try (simp at hc;done))
 case panic x=>split at hc<;>(try (simp at hc;done))
theorem wJ8{ρ:Operand→CV}{ρv:Operand→Value}{o:Oper}{v:CV}(hc:zZj ρ o.op=some (.panic v))(hρ:∀x∈o.op.operands,VR φ St w (ρ x) (ρv x)):
  ∃u,(execOp ρv o).run P w=.halt (.panic u) w∧VR φ St w v u:=by
 unfold zZj at hc;unfold execOp;cases ho:o.op<;>rw[ho]at hc hρ<;>(try (simp at hc;done))<;>dsimp only at hc⊢
 case call cl=>
  have harg:∀x∈cl.args.toList,VR φ St w (ρ x) (ρv x):=fun x hx=>hρ x (by simp[Op.operands,Call.operands];exact .inr (by simpa using hx))
  split at hc<;>(try (simp at hc;done))
  ·split at hc<;>(try (simp at hc;done))
  ·rename_i hcal
   split at hc<;>(try (simp at hc;done))
   rename_i x hx;have hv:=harg x (by simp[hx])
   split at hc<;>(try (simp at hc;done))
   rename_i t u hu;simp at hc;subst hc;rw[hu]at hv;generalize hgv:ρv x=gv at hv;cases hv with|iface _ _ y hy=>
   have ha:cl.args=#[x]:=by apply Ke;simpa using hx
   refine⟨.iface t y, ?_, .iface _ _ _ hy⟩;simp[resolve,hcal,ha,invoke,builtin,Instr.panic,hgv,goPanic]
 case panic x=>
  have hv:=hρ x (by simp[Op.operands])
  split at hc<;>(try (simp at hc;done))
  rename_i t u hu;simp at hc;subst hc;rw[hu]at hv;generalize hgv:ρv x=gv at hv;cases hv with|iface _ _ y hy=>
  exact⟨.iface t y,by simp[Instr.panic,goPanic], .iface _ _ _ hy⟩
theorem Keep.set{b:Nat}(hb:φ b≠none)(o:HObj):Keep φ H (H.set b o):=
 ⟨by simp,fun b' _ hn=>Qd fun e=>by subst e;exact hb hn⟩
theorem Keep.append'{H':Heap}(k:Keep φ H H')(x:Heap):Keep φ H (H'++x):=
 ⟨by simp;have:=k.1;omega,fun b hb hn=>by rw[Qb (Kt hb k.1)];exact k.2 b hb hn⟩
theorem vWp{b off:Nat}{v:Value}(h:VR φ St w (.ptr b off) v):φ b≠none:=by
 cases h with
 |ptr _ _ _ _ _ h=>rw[h];simp
 |ptrDead _ _ _ h=>rw[h];simp
theorem yJa{esz b off len cap:Nat}{ex:Bool}{v:Value}(h:VR φ St w (.sref esz b off len cap ex) v):φ b≠none:=by
 cases h with
 |sref _ _ _ _ _ _ _ _ _ _ h=>rw[h];simp
 |srefDead _ _ _ _ _ _ _ _ h=>rw[h];simp
theorem wX5{esz b k off len gen:Nat}{v:Value}(h:VR φ St w (.gref esz b k off len gen) v):φ b≠none:=by
 cases h with
 |gref _ _ _ _ _ _ _ _ _ h=>rw[h];simp
 |grefDead _ _ _ _ _ _ _ _ h=>rw[h];simp
theorem xXc{ty:Ty}{lit:Bool}{t u:TypeId}{xc x:CV}{h':Heap}{vs:Value}(ρ:Operand→CV)(s:Operand)(hs:VR φ St w (ρ s) vs)(hq:zXk lit ty H t u (ρ s) xc=some (x,h')):Keep φ H h':=by
 unfold zXk at hq;split at hq<;>(try (simp at hq;done))
 split at hq<;>(try (simp at hq;done))
 split at hq<;>(try (simp at hq;done))
 split at hq<;>(try (simp at hq;done))
 split at hq<;>(try (simp at hq;done))
 split at hq
 ·split at hq<;>(try (simp at hq;done))
  ·rename_i esz xs tok full hsl
   rw[hsl]at hs;split at hq
   ·split at hq
    ·split at hq
     ·simp at hq;obtain⟨_,rfl⟩:=hq;exact Keep.append _ _ _
     ·simp at hq;obtain⟨_,rfl⟩:=hq;exact Keep.refl _ _
    ·split at hq<;>(try (simp at hq;done))
     rename_i k;have hk:φ k≠none:=by
      generalize vs=sv at hs;cases hs with|slice _ _ _ _ _ _ _ _ _ _ _ _ htok=>exact htok.1
     split at hq<;>(try (simp at hq;done))
     split at hq<;>(try (simp at hq;done))
     simp at hq;obtain⟨_,rfl⟩:=hq;exact Keep.set hk _
   ·simp at hq;obtain⟨_,rfl⟩:=hq;exact Keep.refl _ _
  ·simp at hq;obtain⟨_,rfl⟩:=hq;exact Keep.refl _ _
  ·simp at hq;obtain⟨_,rfl⟩:=hq;exact Keep.refl _ _
 split at hq<;>(try (simp at hq;done))
 split at hq<;>(try (simp at hq;done))
 ·rename_i esz xs tok full hsl
  rw[hsl]at hs;split at hq
  ·split at hq<;>simp at hq<;>(obtain⟨_,rfl⟩:=hq;exact Keep.append _ _ _)
  ·split at hq<;>(try (simp at hq;done))
   rename_i k;have hk:φ k≠none:=by
    generalize vs=sv at hs;cases hs with|slice _ _ _ _ _ _ _ _ _ _ _ _ htok=>exact htok.1
   split at hq<;>(try (simp at hq;done))
   split at hq<;>(try (simp at hq;done))
   simp at hq;obtain⟨_,rfl⟩:=hq;exact Keep.set hk _
 ·rename_i esz b off len cap ex hsl
  rw[hsl]at hs;have hb:φ b≠none:=yJa hs;split at hq<;>simp at hq<;>(obtain⟨_,rfl⟩:=hq;exact(Keep.set hb _).append' _)
 ·rename_i esz b k off len gen hsl
  rw[hsl]at hs;split at hq<;>(try (simp at hq;done))
  split at hq<;>(try (simp at hq;done))
  split at hq<;>(try (simp at hq;done))
  simp at hq;obtain⟨_,rfl⟩:=hq;exact Keep.set (wX5 hs) _
variable (hty:c.ty.Ok P)
include hty
omit hty in
theorem wQu{lit:Nat}{ρ:Operand→CV}{ρv:Operand→Value}{o:Op}{x:CV}{h':Heap}(R:Rel N φ St H w)(hq:opL c.ty lit H ρ o=some (x,h'))(hρ:∀x∈o.operands,VR φ St w (ρ x) (ρv x)):Keep φ H h':=by
 cases o<;>simp only[opL]at hq<;>(try (simp at hq;done))
 case store t a x=>
  have ha:=hρ a (by simp[Op.operands])
  cases hst:zY6 c.ty H t (ρ a) (ρ x)with
  |none=>simp[hst]at hq
  |some hh=>
   simp[hst]at hq;obtain⟨_,rfl⟩:=hq;obtain⟨k1,k2⟩:=wWy hst ha (hρ x (by simp[Op.operands]))
   exact⟨by omega,fun b _ hn=>k2 b hn⟩
 case mapUpdate t m k v=>
  have ha:=hρ m (by simp[Op.operands])
  cases hst:zKf c.ty H t (ρ m) (ρ k) (ρ v)with
  |none=>simp[hst]at hq
  | some hh=>
   simp[hst]at hq;obtain⟨_,rfl⟩:=hq;unfold zKf at hst;split at hst<;>(try (simp at hst;done))
   rename_i i b _ hx;rw[hx]at ha;have hb:φ b≠none:=by
    generalize ρv m=mv at ha;cases ha with
    |map _ r hb=>rw[hb];simp
    |mapDead _ r hb=>rw[hb];simp
   split at hst<;>(try (simp at hst;done))
   split at hst<;>(try (simp at hst;done))
   split at hst<;>(try (simp at hst;done))
   split at hst<;>(try (simp at hst;done))
   split at hst<;>(try (simp at hst;done))
   all_goals
    simp at hst;subst hst;exact Keep.set hb _
 case call cl=>
  have harg:∀x∈cl.args.toList,VR φ St w (ρ x) (ρv x):=fun x hx=>hρ x (by simp[Op.operands,Call.operands];exact .inr (by simpa using hx))
  split at hq<;>(try (simp at hq;done))
  ·rename_i s x t u hcal hx ht
   have hs:=harg s (by simp[hx])
   have hxx:=harg x (by simp[hx])
   split at hq
   rotate_left 3
   ·unfold yJ3 at hq
    split at hq<;>(try (simp at hq;done))
    split at hq<;>(try (simp at hq;done))
    split at hq<;>(try (simp at hq;done))
    split at hq<;>(try (simp at hq;done))
    split at hq<;>(try (simp at hq;done))
    rename_i hsl;rw[hsl]at hs;split at hq<;>(try (simp at hq;done))
    split at hq<;>(try (simp at hq;done))
    split at hq
    ·simp at hq;obtain⟨_,rfl⟩:=hq
     exact Keep.set (yJa hs) _
    ·split at hq<;>(try (simp at hq;done))
     simp at hq;obtain⟨_,rfl⟩:=hq;exact Keep.append _ _ _
   ·unfold yJ5 at hq
    split at hq<;>(try (simp at hq;done))
    split at hq<;>(try (simp at hq;done))
    split at hq<;>(try (simp at hq;done))
    split at hq<;>(try (simp at hq;done))
    split at hq<;>(try (simp at hq;done))
    rename_i hsl;rw[hsl]at hs;split at hq<;>(try (simp at hq;done))
    split at hq<;>(try (simp at hq;done))
    split at hq
    ·split at hq<;>(try (simp at hq;done))
     simp at hq;obtain⟨_,rfl⟩:=hq;exact Keep.set (yJa hs) _
    ·split at hq<;>(try (simp at hq;done))
     simp at hq;obtain⟨_,rfl⟩:=hq;exact Keep.append _ _ _
   all_goals
   unfold zYk at hq;split at hq
   ·rename_i b n hn
    split at hq<;>(try (simp at hq;done))
    rename_i H1 h1;obtain⟨r,base,size,hφ⟩:=wK2 R hn hxx;obtain⟨φ1,St1,⟨f1,f2,f3,f4⟩,_⟩:=wX8 _ R h1 hφ;have k1:Keep φ H H1:=⟨by omega,fun b _ hb=>f4 b hb⟩
    exact k1.trans f2 rfl (xXc ρ s (hs.mono f2.toMono) hq)
   ·exact xXc ρ s hs hq
  ·rename_i s t hcal hx ht
   have hs:=harg s (by simp[hx])
   unfold xW4 at hq;split at hq<;>(try (simp at hq;done))
   split at hq<;>(try (simp at hq;done))
   split at hq<;>(try (simp at hq;done))
   ·rename_i hsl
    rw[hsl]at hs;split at hq<;>(try (simp at hq;done))
    split at hq<;>(try (simp at hq;done))
    simp at hq;obtain⟨_,rfl⟩:=hq;exact Keep.set (yJa hs) _
   ·rename_i hsl
    rw[hsl]at hs;split at hq<;>(try (simp at hq;done))
    split at hq<;>(try (simp at hq;done))
    split at hq<;>(try (simp at hq;done))
    simp at hq;obtain⟨_,rfl⟩:=hq;exact Keep.set (wX5 hs) _
  ·rename_i d s t u hcal hx ht
   have hs:=harg d (by simp[hx])
   split at hq
   ·unfold wYk at hq
    split at hq<;>(try (simp at hq;done))
    split at hq<;>(try (simp at hq;done))
    split at hq<;>(try (simp at hq;done))
    rename_i hd1 hs1 _;rw[hs1]at hs;split at hq<;>(try (simp at hq;done))
    split at hq<;>(try (simp at hq;done))
    simp at hq;obtain⟨_,rfl⟩:=hq;exact Keep.set (yJa hs) _
   ·unfold wWb at hq
    split at hq<;>(try (simp at hq;done))
    split at hq<;>(try (simp at hq;done))
    split at hq<;>(try (simp at hq;done))
    split at hq<;>(try (simp at hq;done))
    split at hq<;>(try (simp at hq;done))
    ·rename_i hsl
     rw[hsl]at hs;split at hq<;>(try (simp at hq;done))
     dsimp only at hq;split at hq<;>(try (simp at hq;done))
     simp at hq;obtain⟨_,rfl⟩:=hq;exact Keep.set (yJa hs) _
    ·rename_i hsl
     rw[hsl]at hs;split at hq<;>(try (simp at hq;done))
     split at hq<;>(try (simp at hq;done))
     split at hq<;>(try (simp at hq;done))
     simp at hq;obtain⟨_,rfl⟩:=hq;exact Keep.set (wX5 hs) _
    ·simp at hq;obtain⟨_,rfl⟩:=hq
     exact Keep.refl _ _
def xQ7:Op→Bool
 | .defer _=>false
 |_=>true
omit hty in
theorem semAt_plain{o:Oper}(h:xQ7 o.op=true)(ro:Option Nat)(ρ:Operand→Value):o.semAt ro ρ=execOp ρ o:=
 Oper.semAt_eq ro ρ o fun c hc=>by rw[hc]at h;simp[xQ7]at h
omit hty in
theorem uX0{h:Heap}{n:Nat}{ρ:Operand→CV}{o:Op}{r:CV×Option HObj}{ty:Ty}(hq:opQ ty h n ρ o=some r):xQ7 o=true:=by
 cases o<;>first|rfl|(simp[opQ]at hq;done)
omit hty in
theorem xX9{call:Who→List CV→Heap→Ans}{lit:Nat}{h:Heap}{ρ:Operand→CV}{o:Op}{r:Stp}(hq:zXt c lit call h ρ o=some r):xQ7 o=true:=by
 cases o<;>first|rfl|(simp[zXt,opQ,opL,zZj]at hq;done)
theorem yXx{ro:Option Nat}{h:Heap}{n:Nat}{ρ:Operand→CV}{a:Act}{o:Oper}{x:CV}{new:Option HObj}(hq:opQ c.ty h n ρ o.op=some (x,new))
  (R:Rel N φ St H w) (hs:Sub h H) (hnew:∀b,new=some b→φ n=none∧H[n]?=some b) (hρ:∀x∈o.op.operands,VR φ St w (ρ x) (a.eval x)) {next:Act→World→Prop} {Q:Exit→Act→World→Prop}
  (hn:∀φ' w' v,Rel N φ' St H w'→Frm n φ St w φ' St w'→(∀b,b≠n→φ' b=φ b)→VR φ' St w' x v→next (a.put o.dst v) w'):o.wpIn (Fw ro) 0 P a w next Q:=by
 obtain⟨v,w',φ',h1,h2,h3,h4,h5⟩:=vYo hty R hs hq hnew hρ (fun _=>rfl)
 refine⟨fun _ _=>trivial, ?_⟩
 rw[semAt_plain (uX0 hq),h1];exact hn φ' w' v h2 h4 h5 h3
omit hty in
theorem yJ1{ro:Option Nat}{n:Nat}{f:FuncId}{args:Array Value}{w:World}{R:Ending→World→Prop}(h:Calls P f args w R):CallsIn (Fw ro) n P f args w R:=by
 have:=callsIn_wide (n:=n)|>.2 h;exact this
omit hty in
theorem xZh{ro:Option Nat}{n m:Nat}{r:Nat}{g:FuncId}{ts:Array Value}{x y:Code}{w:World}{R:Ending→World→Prop}(h:RoundIn Fence.wide m P r g ts x y w R):RoundIn (Fw ro) n P r g ts x y w R:=
 ⟨trivial,fun c cs _=>h.2 c cs (room_wide _)⟩
theorem vW7{ro:Option Nat}{call:Who→List CV→Heap→Ans}(hcall:yWh P c call){lit:Nat}{ρ:Operand→CV}{a:Act}{o:Oper}{x:CV}{h':Heap}(hq:zXt c lit call H ρ o.op=some (.loud x h'))
  (R:Rel N φ St H w) (hg:zYl c φ St w) (hρ:∀x∈o.op.operands,VR φ St w (ρ x) (a.eval x)) {next:Act→World→Prop} {Q:Exit→Act→World→Prop}
  (hn:∀φ' St' w' v,Left N φ St H w h' φ' St' w'→VR φ' St' w' x v→next (a.put o.dst v) w'):o.wpIn (Fw ro) 0 P a w next Q:=by
 refine⟨fun _ _=>trivial, ?_⟩
 rw[semAt_plain (xX9 hq)];unfold zXt at hq;split at hq<;>(try (simp at hq;done))
 split at hq
 ·rename_i x' h'' hl
  simp at hq;obtain⟨rfl,rfl⟩:=hq;have hk:=wQu R hl hρ;obtain⟨r,w',φ',St',h1,h2,h3,h4⟩:=vYp hty R hl hρ;rw[h1];rcases h2 with⟨rfl,rfl⟩|⟨v,rfl,hv⟩
  ·exact hn φ' St' w' undef ⟨h3,h4,hk⟩ zKj
  ·exact hn φ' St' w' v ⟨h3,h4,hk⟩ hv
 ·split at hq<;>(try (simp at hq;done))
  rename_i f args hcd;split at hq<;>(try (simp at hq;done))
  rename_i v1 h1 hans;simp at hq;obtain⟨rfl,rfl⟩:=hq;obtain⟨hC,hd⟩:=hcall f args H _ _ _ hans;rcases hC.symm with⟨g,v,rfl,_,hv,rfl,hE⟩|hC
  ·simp only[List.cons.injEq,and_true]at hv
   subst hv;obtain⟨us,hrun,hus⟩:=wYo (P:=P) (o:=o) (ρv:=a.eval) (w:=w) hcd hρ;obtain⟨u,hu,hvr⟩:=hE N φ St w us R hus;rw[hrun,hu];exact hn φ St w u (Left.refl R) hvr
  cases f with
  | fn f=>
   obtain⟨hent,hC⟩:=hC;obtain⟨us,hrun,hus⟩:=wWf (P:=P) (o:=o) (ρv:=a.eval) (w:=w) hcd hρ hent;rw[hrun];rw[Oper.uponIn_enter];refine⟨by simp[Fw,Fence.wide],yJ1 ((hC N φ St _ us R hg hus).mono ?_)⟩
   intro e w' he;cases e with
   |returned v=>
    obtain⟨φ',St',hl,c1,h2,h3,h4⟩:=he;simp at h3;subst h3;exact hn φ' St' w' v hl h4
   |panicked ch=>
    obtain⟨φ',St',hl,c1,v,h2,_⟩:=he;simp at h2
   |outgrown=>exact he.elim
  | yl l=>
   obtain⟨us,r,hrun,hus,hφ⟩:=xX4 (P:=P) (o:=o) (ρv:=a.eval) (w:=w) hcd hρ;obtain⟨_,_,hdead⟩:=hd l rfl;have hφ:=hφ.resolve_right (hdead N φ St w R);obtain⟨g,ts,x1,y1,hy,hR⟩:=hC N φ St w us r R hg hus hφ
   rw[hrun,hy];rw[Oper.uponIn_round];refine⟨by simp[Fw,Fence.wide],(xZh hR).mono ?_⟩
   intro e w' he;cases e with
   |returned v=>
    obtain⟨φ',St',hl,c1,h2,h3,h4⟩:=he;simp at h3;subst h3;exact hn φ' St' w' v hl h4
   |panicked ch=>
    obtain⟨φ',St',hl,c1,v,h2,_⟩:=he;simp at h2
   |outgrown=>exact he.elim
omit hty in
theorem wKq{ro:Option Nat}{call:Who→List CV→Heap→Ans}(hcall:yWh P c call){lit:Nat}{ρ:Operand→CV}{a:Act}{o:Oper}{x:CV}{h':Heap}(hq:zXt c lit call H ρ o.op=some (.panic x h'))
  (R:Rel N φ St H w) (hg:zYl c φ St w) (hρ:∀x∈o.op.operands,VR φ St w (ρ x) (a.eval x)) {next:Act→World→Prop} {Q:Exit→Act→World→Prop}
  (hn:∀φ' St' w' v,Left N φ St H w h' φ' St' w'→VR φ' St' w' x v→Q (.panic [{v,recovered:=false}]) a w'):o.wpIn (Fw ro) 0 P a w next Q:=by
 refine⟨fun _ _=>trivial, ?_⟩
 rw[semAt_plain (xX9 hq)];unfold zXt at hq;split at hq<;>(try (simp at hq;done))
 split at hq<;>(try (simp at hq;done))
 split at hq<;>(try (simp at hq;done))
 ·rename_i f args hcd
  split at hq<;>(try (simp at hq;done))
  rename_i v1 h1 _ hans;simp at hq;obtain⟨rfl,rfl⟩:=hq;obtain⟨hC,hd⟩:=hcall f args H _ _ _ hans;rcases hC.symm with⟨g,v,_,ho,_⟩|hC
  ·simp at ho
  cases f with
  | fn f=>
   obtain⟨hent,hC⟩:=hC;obtain⟨us,hrun,hus⟩:=wWf (P:=P) (o:=o) (ρv:=a.eval) (w:=w) hcd hρ hent;rw[hrun];rw[Oper.uponIn_enter];refine⟨by simp[Fw,Fence.wide],yJ1 ((hC N φ St _ us R hg hus).mono ?_)⟩
   intro e w' he;cases e with
   |returned v=>
    obtain⟨φ',St',hl,c1,h2,_⟩:=he;simp at h2
   |panicked ch=>
    obtain⟨φ',St',hl,c1,v,h2,rfl,h4⟩:=he;simp at h2;subst h2;exact hn φ' St' w' v hl h4
   |outgrown=>exact he.elim
  | yl l=>
   obtain⟨us,r,hrun,hus,hφ⟩:=xX4 (P:=P) (o:=o) (ρv:=a.eval) (w:=w) hcd hρ;obtain⟨_,_,hdead⟩:=hd l rfl;have hφ:=hφ.resolve_right (hdead N φ St w R);obtain⟨g,ts,x1,y1,hy,hR⟩:=hC N φ St w us r R hg hus hφ
   rw[hrun,hy];rw[Oper.uponIn_round];refine⟨by simp[Fw,Fence.wide],(xZh hR).mono ?_⟩
   intro e w' he;cases e with
   |returned v=>
    obtain⟨φ',St',hl,c1,h2,_⟩:=he;simp at h2
   |panicked ch=>
    obtain⟨φ',St',hl,c1,v,h2,rfl,h4⟩:=he;simp at h2;subst h2;exact hn φ' St' w' v hl h4
   |outgrown=>exact he.elim
 ·rename_i v1 hcd
  simp at hq;obtain⟨rfl,rfl⟩:=hq;obtain⟨v,hrun,hv⟩:=wJ8 (P:=P) (o:=o) (ρv:=a.eval) (w:=w) hcd hρ;rw[hrun];exact hn φ St w v (Left.refl R) hv
end
end Go.Eng
/- What answers of operations hang on. -/
namespace Go.Eng
set_option linter.unusedVariables false
section
variable {ty:Ty}
theorem wJw{o:Op}(hs:xKk o=true)(h h':Heap)(n:Nat)(ρ:Operand→CV):opQ ty h n ρ o=opQ ty h' n ρ o:=by
 cases o<;>first|rfl|(simp[xKk]at hs;done)
mutual
theorem CV.same_eq:∀(a b:CV),a.same b=true→a=b
 | .bool a,b,h=>by cases b<;>simp[CV.same]at h;subst h;rfl
 | .int j a,b,h=>by cases b<;>simp[CV.same]at h;obtain⟨rfl,rfl⟩:=h;rfl
 | .str a,b,h=>by cases b<;>simp[CV.same]at h;subst h;rfl
 | .nilptr,b,h=>by cases b<;>simp[CV.same]at h;rfl
 | .ptr a c,b,h=>by cases b<;>simp[CV.same]at h;obtain⟨rfl,rfl⟩:=h;rfl
 | .rop a,b,h=>by cases b<;>simp[CV.same]at h;rw[CV.same_eq _ _ h]
 | .slice e xs t f,b,h=>by cases b<;>simp[CV.same]at h;obtain⟨⟨⟨rfl,rfl⟩,rfl⟩,h⟩:=h;rw[CV.zX9 _ _ h]
 | .sref a c d e f g,b,h=>by cases b<;>simp[CV.same]at h;obtain⟨⟨⟨⟨⟨rfl,rfl⟩,rfl⟩,rfl⟩,rfl⟩,rfl⟩:=h;rfl
 | .map a,b,h=>by cases b<;>simp[CV.same]at h;subst h;rfl
 | .nilmap,b,h=>by cases b<;>simp[CV.same]at h;rfl
 | .func f xs ys,b,h=>by cases b<;>simp[CV.same]at h;obtain⟨⟨rfl,h1⟩,h2⟩:=h;rw[CV.zX9 _ _ h1,CV.zX9 _ _ h2]
 | .yield a,b,h=>by cases b<;>simp[CV.same]at h;subst h;rfl
 | .nilfunc,b,h=>by cases b<;>simp[CV.same]at h;rfl
 | .iface t a,b,h=>by cases b<;>simp[CV.same]at h;obtain⟨rfl,h⟩:=h;rw[CV.same_eq _ _ h]
 | .niliface,b,h=>by cases b<;>simp[CV.same]at h;rfl
 | .agg a,b,h=>by cases b<;>simp[CV.same]at h;rw[CV.zX9 _ _ h]
 | .tuple a,b,h=>by cases b<;>simp[CV.same]at h;rw[CV.zX9 _ _ h]
 | .junk,b,h=>by simp[CV.same]at h
theorem CV.zX9:∀(a b:List CV),CV.yZb a b=true→a=b
 |[],b,h=>by cases b<;>simp[CV.yZb]at h;rfl
 |x::xs,b,h=>by
  cases b<;>simp[CV.yZb]at h;rw[CV.same_eq _ _ h.1,CV.zX9 _ _ h.2]
end
theorem wYl{h:Heap}{n:Nat}{s t:TypeId}{x v:CV}(hq:yWj ty h n s t x=some (v,none))(m:Nat):yWj ty h m s t x=some (v,none):=by
 unfold yWj at hq⊢;split at hq<;>(try (simp at hq;done))
 split at hq<;>(try (simp at hq;done))<;>first|exact hq|skip
theorem wZl{h:Heap}{n:Nat}{s t:TypeId}{x v:CV}{b:HObj}(hq:yWj ty h n s t x=some (v,some b))(h':Heap)(m:Nat):∃v',yWj ty h' m s t x=some (v',some b)∧(m=n→v'=v):=by
 unfold yWj at hq⊢;split at hq<;>(try (simp at hq;done))
 split at hq<;>(try (simp at hq;done))
 ·split at hq<;>(try (simp at hq;done))
  split at hq<;>(try (simp at hq;done))
  rename_i hk;simp[marks]at hq
 ·split at hq<;>(try (simp at hq;done))
  split at hq<;>(try (simp at hq;done))
  split at hq<;>(try (simp at hq;done))
 ·split at hq<;>(try (simp at hq;done))
  split at hq<;>(try (simp at hq;done))
  split at hq<;>(try (simp at hq;done))
  split at hq<;>(try (simp at hq;done))
theorem vY5{h:Heap}{n:Nat}{ρ:Operand→CV}{o:Op}{v:CV}(hq:opQ ty h n ρ o=some (v,none))(m:Nat):opQ ty h m ρ o=some (v,none):=by
 cases o<;>simp only[opQ]at hq⊢<;>first|exact hq|exact wYl hq m|skip
 case alloc t=>cases ht:ty t<;>simp[ht]at hq
 case box t x=>unfold boxC at hq;split at hq<;>simp at hq
 case buildSlice t l p=>obtain⟨b,_,hb⟩:=yX1 hq;simp at hb
 case makeMap t r=>
  unfold yQ3 at hq;split at hq<;>(try (simp at hq;done))
  split at hq<;>(try (simp at hq;done))
  (try (split at hq<;>simp at hq))
 case makeSlice t l k=>obtain⟨b,_,hb⟩:=yX1 hq;simp at hb
theorem vZ1{h:Heap}{n:Nat}{ρ:Operand→CV}{o:Op}{v:CV}{b:HObj}(hq:opQ ty h n ρ o=some (v,some b))(h':Heap)(m:Nat):∃v',opQ ty h' m ρ o=some (v',some b)∧(m=n→v'=v):=by
 cases o<;>simp only[opQ]at hq⊢<;>(try (exact wZl hq h' m))<;>(try (simp at hq;done))<;>(try (obtain⟨_,hb⟩:=zXe hq;simp at hb;done))
 case alloc t=>
  cases ht:ty t with
  |none=>simp[ht]at hq
  |some j=>simp[ht]at hq;obtain⟨rfl,rfl⟩:=hq;exact⟨_,rfl,fun e=>by rw[e]⟩
 case box t x=>
  unfold boxC at hq⊢;split at hq<;>simp at hq;obtain⟨rfl,rfl⟩:=hq;exact⟨_,rfl,fun e=>by rw[e]⟩
 case buildSlice t l p=>
  obtain⟨b',hq,hb⟩:=yX1 hq;simp at hb;subst hb;unfold zX3 at hq⊢
  repeat' (split at hq<;>(try (simp at hq;done)))
  all_goals
   simp at hq;obtain⟨rfl,rfl⟩:=hq;simp[mkC, *]
 case makeMap t r=>
  unfold yQ3 at hq⊢;split at hq<;>(try (simp at hq;done))
  ·simp at hq;obtain⟨rfl,rfl⟩:=hq;exact⟨_,rfl,fun e=>by rw[e]⟩
  ·split at hq<;>(try (simp at hq;done))
   split at hq<;>simp at hq;rename_i hm;obtain⟨rfl,rfl⟩:=hq
   (try simp only[hm])
   exact⟨_,rfl,fun e=>by rw[e]⟩
 case makeSlice t l k=>
  obtain⟨b',hq,hb⟩:=yX1 hq;simp at hb;subst hb;unfold zX7 at hq⊢
  repeat' (split at hq<;>(try (simp at hq;done)))
  all_goals
   rename_i hcond;simp at hq;obtain⟨rfl,rfl⟩:=hq
   (try rw[Qf hcond])
   exact⟨_,rfl,fun e=>by rw[e]⟩
 case makeFunc f a b=>unfold yW4 at hq;cases f<;>simp at hq
theorem vWw{h:Heap}{n:Nat}{ρ ρ':Operand→CV}{o:Op}(hρ:∀x∈o.operands,ρ x=ρ' x):opQ ty h n ρ o=opQ ty h n ρ' o:=by
 have hl:∀xs:List Operand,(∀x∈xs,ρ x=ρ' x)→xs.map ρ=xs.map ρ':=fun xs h=>J4 h
 have hp:∀ps:Array (Nat×Operand),(∀x∈(ps.toList.map (·.2)),ρ x=ρ' x)→(ps.toList.map fun p=>(p.1,ρ p.2))=ps.toList.map fun p=>(p.1,ρ' p.2):=fun ps h=>
  J4 fun p hp=>by rw[h p.2 (Ji.2 ⟨p,hp,rfl⟩)]
 cases o<;>simp only[Op.operands]at hρ<;>simp only[opQ]
 case call cl=>
  have ha:∀x∈cl.args.toList,ρ x=ρ' x:=fun x hx=>hρ x (by simp[Call.operands];exact .inr (by simpa using hx))
  unfold yXk;split
  ·split
   ·rename_i x t hx ht;rw[ha x (by simp[hx])]
   ·rfl
  ·split
   ·rename_i x t hx ht;rw[ha x (by simp[hx])]
   ·rfl
  ·split
   ·rename_i x xs hx;rw[ha x (by simp[hx]),hl xs fun y hy=>ha y (by simp[hx,hy])]
   ·rfl
  ·split
   ·rename_i x xs hx;rw[ha x (by simp[hx]),hl xs fun y hy=>ha y (by simp[hx,hy])]
   ·rfl
  ·rfl
 case build t ps=>rw[hp ps fun x hx=>hρ x (by simpa using hx)]
 case buildSlice t n ps=>rw[hp ps fun x hx=>hρ x (by simpa using hx)]
 case makeFunc fn first captured=>
  rw[hl first.toList fun x hx=>hρ x (by simp;exact .inl (by simpa using hx)),hl captured.toList fun x hx=>hρ x (by simp;exact .inr (by simpa using hx))]
 case makeMap t r=>cases r<;>simp_all
 case slice t x lo hi mx=>cases lo<;>cases hi<;>cases mx<;>simp_all
 all_goals (first|rfl|(simp_all;done))
theorem yQ0{x y:Option CV}(h:∀c,x=some c→y=some c){r:CV×Option HObj}(hr:rdC x=some r):rdC y=some r:=by
 obtain⟨c,o⟩:=r;obtain⟨h1,rfl⟩:=zXe hr;rw[h c h1];rfl
theorem wKy{h H:Heap}(hs:Sub h H){n:Nat}{ρ:Operand→CV}{o:Op}{r:CV×Option HObj}(hq:opQ ty h n ρ o=some r):opQ ty H n ρ o=some r:=by
 cases o<;>simp only[opQ]at hq⊢ <;>first
  |exact hq
  |exact yQ0 (fun _=>xZr hs) hq
  |exact yQ0 (fun _=>yZk hs) hq
  |exact yQ0 (fun _=>wWk hs) hq
  |exact xZz hs hq
  |exact yQ0 (fun _=>xY0 hs) hq
  |exact yQ0 (fun _=>xQw hs) hq
  |exact yQ0 (fun _=>yXe hs) hq
  |exact yQ0 (fun _=>yXb hs) hq
  |exact yQ0 (fun _=>yYl hs) hq
  |exact yQ0 (fun _=>xZ0 hs) hq
end
end Go.Eng
/- Regions in any order: plans, and slots. -/
namespace Go.Eng
set_option linter.unusedVariables false
def Closed(ops:Array Oper)(D:Nat→Bool):Prop:=∀j,D j=true→∀e∈deps ops j,D e=true
theorem PlanOkW.wWl{ops:Array Oper}{plan:List (Nat×List Nat)}{bs:Array Nat}(p:PlanOkW ops plan bs){D:Nat→Bool}(hD:Closed ops D)(hlt:∀i,D i=true→i<ops.size){j:Nat}
  (hj:∀e∈deps ops j,D e=true) {i:Nat} (h:anc bs i j=true):D i=true:=by
 have key:∀(n q j:Nat) (rs:List Nat),q<n→plan[q]?=some (j,rs)→D j=true→∀i,anc bs i j=true→D i=true:=by
  intro n;induction n with
  |zero=>intro q j rs hq;omega
  | succ n ih=>
   intro q j rs hq hp hj i hi;obtain⟨e,he,hx⟩:=p.step i j hi;have hde:=hD j hj e he;rcases hx with rfl|hx
   ·exact hde
   ·obtain⟨q',rs',hq',hp'⟩:=p.lin q j rs hp e he
    exact ih q' e rs' (by omega) hp' hde i hx
 obtain⟨e,he,hx⟩:=p.step i j h;have hde:=hj e he;rcases hx with rfl|hx
 ·exact hde
 ·obtain⟨q,rs,hq⟩:=p.mem e (hlt e hde)
  exact key (q+1) q e rs (by omega) hq hde i hx
structure Rec where
 i:Nat
 rs:List Nat
 o:Oper
 val:CV
 live:Bool
 n:Nat
 new:Option HObj
 tmps:List CV
def Rec.key(r:Rec):Nat×List Nat:=(r.i,r.rs)
def fold(L:List Rec)(T:List CV):List CV:=L.foldl (fun T r=>putC T r.o.dst r.val) T
theorem zYd(A B:List Rec)(T:List CV):fold (A++B) T=fold B (fold A T):=by simp[fold]
theorem fold_cons(r:Rec)(B:List Rec)(T:List CV):fold (r::B) T=fold B (putC T r.o.dst r.val):=rfl
theorem xZi{T:List CV}{dst:Option Tmp}{v:CV}{t:Tmp}(h:dst≠some t):(putC T dst v)[t]?=T[t]?:=by
 cases dst with
 |none=>rfl
 |some d=>simp only[putC];exact Qd (by intro e;subst e;exact h rfl)
theorem wJ5{T T':List CV}{dst:Option Tmp}{v:CV}{t:Tmp}(hl:T.length=T'.length)(h:T[t]?=T'[t]?):(putC T dst v)[t]?=(putC T' dst v)[t]?:=by
 cases dst with
 |none=>exact h
 |some d=>simp only[putC,Wt,hl,h]
theorem yZo(T:List CV)(dst:Option Tmp)(v:CV):(putC T dst v).length=T.length:=by cases dst<;>simp[putC]
theorem xWv(L:List Rec):∀T,(fold L T).length=T.length:=by
 induction L with
 |nil=>intro T;rfl
 |cons r L ih=>intro T;rw[fold_cons,ih,yZo]
theorem yKw{t:Tmp}:∀(L:List Rec) (T:List CV),(∀r∈L,r.o.dst≠some t)→(fold L T)[t]? =T[t]?
 |[],T,h=>rfl
 |r::L,T,h=>by rw[fold_cons,yKw L _ fun r' hr=>h r' (by simp[hr]),xZi (h r (by simp))]
theorem fold_congr{t:Tmp}:∀(L:List Rec) (T T':List CV),T.length=T'.length→T[t]? =T'[t]? →(fold L T)[t]? =(fold L T')[t]?
 |[],T,T',_,h=>h
 |r::L,T,T',hl,h=>by rw[fold_cons,fold_cons];exact fold_congr L _ _ (by simp[yZo,hl]) (wJ5 hl h)
theorem fold_filter{t:Tmp}(D:Rec→Bool):∀(L:List Rec) (T:List CV),(∀r∈L,r.o.dst=some t→D r=true)→(fold (L.filter D) T)[t]? =(fold L T)[t]?
 |[],T,h=>rfl
 | r::L,T,h=>by
  have ih:=@fold_filter t D L;rw[Kq];split
  ·rw[fold_cons,fold_cons];exact ih _ fun r' hr=>h r' (by simp[hr])
  ·rename_i hD
   have hne:r.o.dst≠some t:=fun e=>hD (h r (by simp) e)
   rw[fold_cons,ih _ fun r' hr=>h r' (by simp[hr])]
   exact fold_congr L _ _ (by simp[yZo]) (xZi hne).symm
theorem vWo{T:List CV}{d e:Option Tmp}{v u:CV}(h:∀t,d=some t→e≠some t):putC (putC T d v) e u=putC (putC T e u) d v:=by
 cases d with
 |none=>rfl
 |some d=>
  cases e with
  |none=>rfl
  |some e=>simp only[putC];exact List.set_comm _ _ (by intro x;subst x;exact h d rfl rfl)
theorem wJh{d:Option Tmp}{v:CV}:∀(L:List Rec) (T:List CV),(∀r∈L,∀t,d=some t→r.o.dst≠some t)→fold L (putC T d v)=putC (fold L T) d v
 |[],T,h=>rfl
 |r::L,T,h=>by
  rw[fold_cons,fold_cons,vWo (h r (by simp)),wJh L _ fun r' hr=>h r' (by simp[hr])]
section
variable {ops:Array Oper} {plan:List (Nat×List Nat)} {bs:Array Nat} {old:List Rec} {l:List (Nat×List Nat)} {D:Nat→Bool}
theorem zX8(hp:plan=old.map Rec.key++l){p:Nat}{r:Rec}(h:old[p]?=some r):plan[p]?=some (r.i,r.rs):=by
 have hlt:=(List.getElem?_eq_some_iff.1 h).1;rw[hp,Qb (by simpa using hlt)]
 simp[h,Rec.key]
theorem xZa(P:PlanOkW ops plan bs)(hp:plan=old.map Rec.key++l)(hop:∀r∈old,ops[r.i]? =some r.o)(hD:Closed ops D)(hlt:∀i,D i=true→i<ops.size){T0:List CV}{p:Nat}{r:Rec}(hr:old[p]? =some r)
  (hn:D r.i=false) (hd:∀e∈deps ops r.i,D e=true) {t:Tmp} (ht:t∈looks ops r.i):(fold (old.filter (fun r=>D r.i)) T0)[t]?=(fold (old.take p) T0)[t]?:=by
 have hpl:=(List.getElem?_eq_some_iff.1 hr).1;have hget:∀{q:Nat} {r':Rec},old[q]?=some r'→zJm ops r'.i=r'.o.dst:=fun{q r'} h=>by simp[zJm,hop r' (Ql h)]
 have hsplit:old=old.take p++r::old.drop (p+1):=by
  have h1:=Jl hpl;rw[(List.getElem?_eq_some_iff.1 hr).2]at h1;rw[←h1];exact(Ja p old).symm
 conv=>lhs;rw[hsplit]
 rw[K4,zYd,yKw]
 ·apply fold_filter
  intro r' hr' hdst;obtain⟨q,hq⟩:=List.mem_iff_getElem?.1 hr';have hqp:q<p:=by have:=(List.getElem?_eq_some_iff.1 hq).1;simp at this;omega
  rw[Jh hqp]at hq;exact P.wWl hD hlt hd (P.slots q p r'.i r.i _ _ hqp (zX8 hp hq) (zX8 hp hr) ⟨t, .inl ⟨by rw[hget hq];exact hdst, .inl ht⟩⟩)
 ·intro r' hr' hdst
  rw[K1]at hr';obtain⟨hr',hDr⟩:=hr';rcases Jm.1 hr' with rfl|hr'
  ·rw[hn]at hDr;simp at hDr
  ·obtain⟨q,hq⟩:=List.mem_iff_getElem?.1 hr'
   rw[Jr]at hq;have:=P.slots p (p+1+q) r.i r'.i _ _ (by omega) (zX8 hp hr) (zX8 hp hq) ⟨t, .inr ⟨by rw[hget hq];exact hdst,ht⟩⟩
   have:=P.wWl hD hlt (hD r'.i hDr) this;rw[hn]at this;simp at this
theorem wKh(P:PlanOkW ops plan bs)(hp:plan=old.map Rec.key++l)(hop:∀r∈old,ops[r.i]? =some r.o)(hD:Closed ops D)(hlt:∀i,D i=true→i<ops.size){T0:List CV}{p:Nat}{r:Rec}(hr:old[p]? =some r)
  (hn:D r.i=false) {D':Nat→Bool} (hD':∀j,D' j=(D j||j==r.i)):fold (old.filter (fun r=>D' r.i)) T0=putC (fold (old.filter (fun r=>D r.i)) T0) r.o.dst r.val:=by
 have hpl:=(List.getElem?_eq_some_iff.1 hr).1;have hget:∀{q:Nat} {r':Rec},old[q]?=some r'→zJm ops r'.i=r'.o.dst:=fun{q r'} h=>by simp[zJm,hop r' (Ql h)]
 have hsplit:old=old.take p++r::old.drop (p+1):=by
  have h1:=Jl hpl;rw[(List.getElem?_eq_some_iff.1 hr).2]at h1;rw[←h1];exact(Ja p old).symm
 have hA:(old.take p).filter (fun r=>D' r.i)=(old.take p).filter (fun r=>D r.i):=by
  apply List.filter_congr;intro r' hr';obtain⟨q,hq⟩:=List.mem_iff_getElem?.1 hr';have hqp:q<p:=by have:=(List.getElem?_eq_some_iff.1 hq).1;simp at this;omega
  rw[Jh hqp]at hq;have:r'.i≠r.i:=fun e=>by
   have h1:=zX8 hp hq;rw[e]at h1;have:=P.inj _ _ _ _ _ h1 (zX8 hp hr);omega
  simp[hD',this]
 have hB:(old.drop (p+1)).filter (fun r=>D' r.i)=(old.drop (p+1)).filter (fun r=>D r.i):=by
  apply List.filter_congr;intro r' hr';obtain⟨q,hq⟩:=List.mem_iff_getElem?.1 hr';rw[Jr]at hq;have:r'.i≠r.i:=fun e=>by
   have h1:=zX8 hp hq;rw[e]at h1;have:=P.inj _ _ _ _ _ h1 (zX8 hp hr);omega
  simp[hD',this]
 have e1:old.filter (fun r=>D' r.i)=(old.take p).filter (fun r=>D r.i)++r::(old.drop (p+1)).filter (fun r=>D r.i):=by
  conv=>lhs;rw[hsplit]
  rw[K4,Kq,hA,hB,Qf (by simp[hD'])]
 have e2:old.filter (fun r=>D r.i)=(old.take p).filter (fun r=>D r.i)++(old.drop (p+1)).filter (fun r=>D r.i):=by
  conv=>lhs;rw[hsplit]
  rw[K4,Kq,Qi (by simp[hn])]
 rw[e1,e2,zYd,zYd,fold_cons,wJh];intro r' hr' t ht hdst;rw[K1]at hr';obtain⟨hr',hDr⟩:=hr';obtain⟨q,hq⟩:=List.mem_iff_getElem?.1 hr';rw[Jr]at hq;have:=P.slots p (p+1+q) r.i r'.i _ _ (by omega) (zX8 hp hr) (zX8 hp hq) ⟨t, .inl ⟨by rw[hget hr];exact ht, .inr (by rw[hget hq];exact hdst)⟩⟩
 have:=P.wWl hD hlt (hD r'.i hDr) this;rw[hn]at this;simp at this
end
end Go.Eng
/- Regions in any order. -/
namespace Go.Eng
set_option linter.unusedVariables false
def xXl(c:Cfg)(h h2:Heap)(ops:Array Oper)(T:List CV)(rs:List Nat):Prop:=∀i∈rs,∀o,ops[i]? =some o→zWn ops T o=some true→
 ((∃v b,opQ c.ty h2 0 (ev c.glob T) o.op=some (v,some b))∨∃v,opQ c.ty h2 0 (ev c.glob T) o.op=some (v,none)∧∀d,o.dst=some d→∃u,T[d]?=some u∧v=u)∨
 ∀n,opQ c.ty h2 n (ev c.glob T) o.op=opQ c.ty h n (ev c.glob T) o.op
inductive Ahead (P:Program) (c:Cfg) (lit:Nat) (ops:Array Oper):List (Nat×List Nat)→List CV→Heap→Out→List CV→Heap→Prop where
 |nil (T:List CV) (h:Heap):Ahead P c lit ops [] T h .normal T h
 | skip {i:Nat} {rs:List Nat} {l:List (Nat×List Nat)} {T:List CV} {h:Heap} {o:Oper} {out:Out} {T':List CV} {h':Heap} (ho:ops[i]? =some o) (hw:zWn ops T o=some false)
   (k:Ahead P c lit ops l (putC T o.dst zWt) h out T' h'):Ahead P c lit ops ((i,rs)::l) T h out T' h'
 | quiet {i:Nat} {rs:List Nat} {l:List (Nat×List Nat)} {T:List CV} {h:Heap} {o:Oper} {out:Out} {T':List CV} {h':Heap} {v:CV} {new:Option HObj} (ho:ops[i]? =some o) (hw:zWn ops T o=some true)
   (hq:opQ c.ty h h.length (ev c.glob T) o.op=some (v,new)) (k:Ahead P c lit ops l (putC T o.dst v) (h++new.toList) out T' h'):Ahead P c lit ops ((i,rs)::l) T h out T' h'
 | loud {i:Nat} {rs:List Nat} {l:List (Nat×List Nat)} {T:List CV} {h:Heap} {o:Oper} {out:Out} {T':List CV} {h':Heap} {v:CV} {h2:Heap} {call:Who→List CV→Heap→Ans} (ho:ops[i]? =some o) (hw:zWn ops T o=some true)
   (hcall:yWh P c call) (hs:zXt c lit call h (ev c.glob T) o.op=some (.loud v h2)) (hl:zKp o.op=true) (ha:xXl c h h2 ops T rs∨h2=h)
   (k:Ahead P c lit ops l (putC T o.dst v) h2 out T' h'):Ahead P c lit ops ((i,rs)::l) T h out T' h'
 | panic {i:Nat} {rs:List Nat} {l:List (Nat×List Nat)} {T:List CV} {h:Heap} {o:Oper} {v:CV} {h2:Heap} {call:Who→List CV→Heap→Ans} (ho:ops[i]? =some o) (hw:zWn ops T o=some true)
   (hcall:yWh P c call) (hs:zXt c lit call h (ev c.glob T) o.op=some (.panic v h2)) (hl:zKp o.op=true):Ahead P c lit ops ((i,rs)::l) T h (.panic v) (T.map fun _=>CV.junk) h2
inductive QS (c:Cfg) (ops:Array Oper):List Rec→List CV→Heap→List CV→Heap→Prop where
 |nil (T:List CV) (h:Heap):QS c ops [] T h T h
 | skip {i:Nat} {rs:List Nat} {qs:List Rec} {T T1:List CV} {h h1:Heap} {o:Oper} (ho:ops[i]? =some o) (hw:zWn ops T o=some false) (k:QS c ops qs (putC T o.dst zWt) h T1 h1):
   QS c ops ({i,rs,o,val:=zWt,live:=false,n:=0,new:=none,tmps:=T}::qs) T h T1 h1
 | quiet {i:Nat} {rs:List Nat} {qs:List Rec} {T T1:List CV} {h h1:Heap} {o:Oper} {v:CV} {new:Option HObj} (ho:ops[i]? =some o) (hw:zWn ops T o=some true)
   (hq:opQ c.ty h h.length (ev c.glob T) o.op=some (v,new)) (k:QS c ops qs (putC T o.dst v) (h++new.toList) T1 h1):
   QS c ops ({i,rs,o,val:=v,live:=true,n:=h.length,new,tmps:=T}::qs) T h T1 h1
abbrev mkL(i:Nat)(rs:List Nat)(o:Oper)(v:CV)(T:List CV):Rec:={i:=i,rs:=rs,o:=o,val:=v,live:=true,n:=0,new:=none,tmps:=T}
inductive Stop (P:Program) (c:Cfg) (lit:Nat) (ops:Array Oper):List (Nat×List Nat)→List CV→Heap→Out→List CV→Heap→Prop where
 |nil (T:List CV) (h:Heap):Stop P c lit ops [] T h .normal T h
 | loud {i:Nat} {rs:List Nat} {l:List (Nat×List Nat)} {T:List CV} {h:Heap} {o:Oper} {out:Out} {T':List CV} {h':Heap} {v:CV} {h2:Heap} {call:Who→List CV→Heap→Ans} (ho:ops[i]? =some o) (hw:zWn ops T o=some true)
   (hcall:yWh P c call) (hs:zXt c lit call h (ev c.glob T) o.op=some (.loud v h2)) (hl:zKp o.op=true) (ha:xXl c h h2 ops T rs∨h2=h)
   (k:Ahead P c lit ops l (putC T o.dst v) h2 out T' h'):Stop P c lit ops ((i,rs)::l) T h out T' h'
 | panic {i:Nat} {rs:List Nat} {l:List (Nat×List Nat)} {T:List CV} {h:Heap} {o:Oper} {v:CV} {h2:Heap} {call:Who→List CV→Heap→Ans} (ho:ops[i]? =some o) (hw:zWn ops T o=some true)
   (hcall:yWh P c call) (hs:zXt c lit call h (ev c.glob T) o.op=some (.panic v h2)) (hl:zKp o.op=true):Stop P c lit ops ((i,rs)::l) T h (.panic v) (T.map fun _=>CV.junk) h2
section
variable {P:Program} {c:Cfg} {lit:Nat} {ops:Array Oper}
theorem Ahead.split{l:List (Nat×List Nat)}{T:List CV}{h:Heap}{out:Out}{T':List CV}{h':Heap}(a:Ahead P c lit ops l T h out T' h'):
  ∃qs l2 T1 h1,l=qs.map Rec.key++l2∧QS c ops qs T h T1 h1∧Stop P c lit ops l2 T1 h1 out T' h':=by
 induction a with
 |nil T h=>exact⟨[],[],T,h,rfl, .nil _ _, .nil _ _⟩
 |skip ho hw k ih=>obtain⟨qs,l2,T1,h1,rfl,q,s⟩:=ih;exact⟨_::qs,l2,T1,h1,rfl, .skip ho hw q,s⟩
 |quiet ho hw hq k ih=>obtain⟨qs,l2,T1,h1,rfl,q,s⟩:=ih;exact⟨_::qs,l2,T1,h1,rfl, .quiet ho hw hq q,s⟩
 |loud ho hw hcall hs hl ha k=>exact⟨[],_,_,_,rfl, .nil _ _, .loud ho hw hcall hs hl ha k⟩
 |panic ho hw hcall hs hl=>exact⟨[],_,_,_,rfl, .nil _ _, .panic ho hw hcall hs hl⟩
structure Good (c:Cfg) (ops:Array Oper) (D:Nat→Bool) (T0:List CV) (old:List Rec) (T:List CV) (h:Heap):Prop where
 op:∀r∈old,ops[r.i]?=some r.o
 tm:∀(p:Nat) (r:Rec),old[p]?=some r→r.tmps=fold (old.take p) T0
 fin:T=fold old T0
 want:∀r∈old,zWn ops r.tmps r.o=some r.live
 skip:∀r∈old,r.live=false→r.val=zWt∧r.new=none
 valid:∀r∈old,r.live=true→D r.i=false→∃v,opQ c.ty h r.n (ev c.glob r.tmps) r.o.op=some (v,r.new)∧∀d,r.o.dst=some d→v=r.val
 obj:∀r∈old,D r.i=false→∀b,r.new=some b→h[r.n]?=some b
 ns:∀(p q:Nat) (r r':Rec),p<q→old[p]?=some r→old[q]?=some r'→r.new.isSome=true→r'.new.isSome=true→r.n<r'.n
 nlt:∀r∈old,r.new.isSome=true→r.n<h.length
theorem Good.snoc{D:Nat→Bool}{T0 T:List CV}{old:List Rec}{h:Heap}(g:Good c ops D T0 old T h)(r:Rec){H:Heap}(hs:Sub h H)(ho:ops[r.i]? =some r.o)(ht:r.tmps=T)(hw:zWn ops T r.o=some r.live)
  (hk:r.live=false→r.val=zWt∧r.new=none) (hv:r.live=true→D r.i=false→opQ c.ty h r.n (ev c.glob T) r.o.op=some (r.val,r.new)) (hb:∀b,r.new=some b→H[r.n]?=some b) (hn:r.new.isSome=true→h.length≤r.n):
  Good c ops D T0 (old++[r]) (putC T r.o.dst r.val) H where
 op:=by intro r' hr;rcases Qy.1 hr with hr|hr;exact g.op r' hr;simp at hr;subst hr;exact ho
 tm:=by
  intro p r' hr;by_cases hp:p<old.length
  ·rw[Qb hp]at hr
   rw[Js (by omega)]
   exact g.tm p r' hr
  ·rw[Qj (by omega)]at hr
   have hp0:p-old.length=0:=by
    have:=(List.getElem?_eq_some_iff.1 hr).1;simp at this;exact this
   rw[hp0]at hr;simp at hr;subst hr;rw[ht,g.fin,show p=old.length by omega];simp
 fin:=by rw[zYd,←g.fin];rfl
 want:=by intro r' hr;rcases Qy.1 hr with hr|hr;exact g.want r' hr;simp at hr;subst hr;rw[ht];exact hw
 skip:=by intro r' hr;rcases Qy.1 hr with hr|hr;exact g.skip r' hr;simp at hr;subst hr;exact hk
 valid:=by
  intro r' hr hl hD;rcases Qy.1 hr with hr|hr
  ·obtain⟨v,h1,h2⟩:=g.valid r' hr hl hD;exact⟨v,wKy hs h1,h2⟩
  ·simp at hr;subst hr
   rw[ht];exact⟨_,wKy hs (hv hl hD),fun _ _=>rfl⟩
 obj:=by
  intro r' hr hD b hb';rcases Qy.1 hr with hr|hr
  ·exact hs _ _ (g.obj r' hr hD b hb')
  ·simp at hr;subst hr;exact hb b hb'
 ns:=by
  intro p q r1 r2 hpq h1 h2 n1 n2;by_cases hq:q<old.length
  ·rw[Qb hq]at h2
   rw[Qb (by omega)]at h1
   exact g.ns p q r1 r2 hpq h1 h2 n1 n2
  ·rw[Qj (by omega)]at h2
   have hq0:q-old.length=0:=by
    have:=(List.getElem?_eq_some_iff.1 h2).1;simp at this;exact this
   rw[hq0]at h2;simp at h2;subst h2;rw[Qb (by omega)]at h1
   have:=g.nlt r1 (Ql h1) n1;have:=hn n2;omega
 nlt:=by
  intro r' hr hn';rcases Qy.1 hr with hr|hr
  ·have h1:=g.nlt r' hr hn'
   obtain⟨x,hx⟩:∃x,h[r'.n]?=some x:=⟨h[r'.n],Qm h1⟩;exact(List.getElem?_eq_some_iff.1 (hs _ _ hx)).1
  ·simp at hr;subst hr
   cases hb':r'.new with
   |none=>rw[hb']at hn';simp at hn'
   |some b=>exact(List.getElem?_eq_some_iff.1 (hb b hb')).1
theorem Good.vYl{D:Nat→Bool}{T0:List CV}{qs:List Rec}{T T1:List CV}{h h1:Heap}(q:QS c ops qs T h T1 h1):∀{old:List Rec},Good c ops D T0 old T h→
  Good c ops D T0 (old++qs) T1 h1∧(∃x:Heap,h1=h++x∧∀o∈x,∀css,o≠.rows css)∧∀r∈qs,r.new.isSome=true→h.length≤r.n:=by
 induction q with
 |nil T h=>intro old g;exact⟨by simpa using g,⟨[],by simp,by simp⟩,by simp⟩
 |skip ho hw k ih=>
  rename_i i rs qs T T1 h h1 o;intro old g;have g':=g.snoc {i:=i,rs:=rs,o:=o,val:=zWt,live:=false,n:=0,new:=none,tmps:=T} (Sub.refl _) ho rfl hw (fun _=>⟨rfl,rfl⟩) (by simp) (by simp) (by simp)
  obtain⟨g2,hx,hn⟩:=ih g';refine⟨by simpa using g2,hx, ?_⟩
  intro r hr;rcases Jm.1 hr with rfl|hr
  ·simp
  ·exact hn r hr
 | quiet ho hw hq k ih=>
  rename_i i rs qs T T1 h h1 o v new;intro old g;have g':=g.snoc {i:=i,rs:=rs,o:=o,val:=v,live:=true,n:=h.length,new:=new,tmps:=T} (Sub.append h new.toList) ho rfl hw (by simp) (fun _ _=>hq) (fun b hb=>by simp at hb;subst hb;simp) (fun _=>Qe _)
  obtain⟨g2,⟨x,hx,hxr⟩,hn⟩:=ih g';refine⟨by simpa using g2,⟨new.toList++x,by simp[hx],fun o ho=>by
   rcases Qy.1 ho with ho|ho
   ·cases new with
    |none=>simp at ho
    |some b=>simp at ho;subst ho;exact yJm hq
   ·exact hxr o ho⟩, ?_⟩
  intro r hr;rcases Jm.1 hr with rfl|hr
  ·simp
  ·intro hs;have:=hn r hr hs;simp at this;omega
theorem xQd{g:Nat→Option CV}{T T':List CV}{x:Operand}(h:∀t,x=.tmp t→T[t]?=T'[t]?):ev g T x=ev g T' x:=by
 cases x<;>simp only[ev];simp[List.getD,h _ rfl]
theorem yKu{i:Nat}{o:Oper}(ho:ops[i]?=some o):looks ops i=o.looksAt ops:=by simp[looks,ho]
theorem zYr{o:Oper}{t:Tmp}(h:Operand.tmp t∈o.op.operands):t∈o.looksAt ops:=
 Qv _ (List.mem_filterMap.2 ⟨.tmp t,by simpa using h,rfl⟩)
theorem zJu{T T':List CV}{o:Oper}(h:∀t∈o.looksAt ops,T[t]?=T'[t]?):zWn ops T o=zWn ops T' o:=by
 unfold zWn;cases hg:o.guard with
 |none=>rfl
 | some p=>
  obtain⟨j,want⟩:=p;simp only;cases hd:(ops[j]?).bind (·.dst)with
  |none=>rfl
  |some d=>
   simp only;rw[h d (by unfold Oper.looksAt;simp[hg,hd])]
theorem wWm{h:Heap}{T:List CV}{i:Nat}{o:Oper}:∀{rs:List Nat},again c h ops T rs=true→i∈rs→ops[i]? =some o→zWn ops T o=some true→
  (∃v b,opQ c.ty h 0 (ev c.glob T) o.op=some (v,some b))∨∃v,opQ c.ty h 0 (ev c.glob T) o.op=some (v,none)∧∀d,o.dst=some d→∃u,T[d]?=some u∧v=u
 |[],_,hi,_,_=>by simp at hi
 | r::rs,ha,hi,ho,hw=>by
  simp only[again,Qc]at ha;obtain⟨h1,h2⟩:=ha;rcases Jm.1 hi with rfl|hi
  ·rw[ho]at h1
   simp only[hw]at h1;split at h1
   ·rename_i v b hq;exact .inl ⟨v,b,hq⟩
   ·rename_i v hq
    refine .inr ⟨v,hq,fun d hd=>?_⟩
    simp only[hd]at h1;split at h1
    ·rename_i u hu;exact⟨u,hu,CV.same_eq _ _ h1⟩
    ·simp at h1
   ·simp at h1
  ·exact wWm h2 hi ho hw
theorem xXl.of{h h2:Heap}{T:List CV}{rs:List Nat}(ha:again c h2 ops T rs=true):xXl c h h2 ops T rs:=fun i hi o ho hw=>.inl (wWm ha hi ho hw)
theorem vJu{h h2:Heap}{ρ:Operand→CV}{lo ro:Op}(hf:farC ρ lo ro=true){v:CV}{call:Who→List CV→Heap→Ans}(hs:zXt c lit call h ρ lo=some (.loud v h2))(n:Nat):opQ c.ty h2 n ρ ro=opQ c.ty h n ρ ro:=by
 unfold farC at hf;split at hf<;>(try (simp at hf;done))
 rename_i t a x t' a';split at hf<;>(try (simp at hf;done))
 rename_i b off b' off' ha ha';simp only[bne_iff_ne,ne_eq]at hf;have hq:opQ c.ty h h.length ρ (.store t a x)=none:=rfl;have hset:∃ob,h2=h.set b ob:=by
  unfold zXt at hs;rw[hq]at hs;simp only[opL,ha,zY6,zJd]at hs;split at hs
  ·rename_i v' h' hx
   simp only[Qa,Stp.loud.injEq]at hs;obtain⟨rfl,rfl⟩:=hs;simp only[J8]at hx;obtain⟨h3,h4,h5⟩:=hx;simp only[Je]at h5;obtain⟨_,rfl⟩:=h5;split at h4<;>(try (simp at h4;done))<;>(try (rename_i e;simp at e;done))
   rename_i b0 off0 _ e;simp only[CV.ptr.injEq]at e;obtain⟨rfl,rfl⟩:=e;split at h4<;>(try (simp at h4;done))
   split at h4<;>(try (simp at h4;done))
   simp only[Qa]at h4;exact⟨_,h4.symm⟩
  ·simp[zZj]at hs
 obtain⟨ob,rfl⟩:=hset;simp only[opQ,ha',yJs];rw[Qd hf]
theorem Good.after{plan:List (Nat×List Nat)}{bs:Array Nat}(PW:PlanOkW ops plan bs){D D':Nat→Bool}(hD:Closed ops D)(hlt:∀i,D i=true→i<ops.size)(hDD:∀i,D' i=false→D i=false)
  {T0 T:List CV} {old:List Rec} {h h2:Heap} (g:Good c ops D T0 old T h) {i:Nat} {rs:List Nat} {l:List (Nat×List Nat)} (hp:plan=old.map Rec.key++(i,rs)::l) {o:Oper} (ho:ops[i]?=some o) (hl:zKp o.op=true)
  (hd:∀e∈deps ops i,D e=true) (ha:xXl c h h2 ops T rs∨h2=h) (hlen:h.length≤h2.length) (hk:∀r∈old,D r.i=false→r.new.isSome=true→h2[r.n]?=h[r.n]?):Good c ops D' T0 old T h2 where
 op:=g.op
 tm:=g.tm
 fin:=g.fin
 want:=g.want
 skip:=g.skip
 ns:=g.ns
 nlt:=fun r hr hn=>Kt (g.nlt r hr hn) hlen
 obj:=fun r hr hDr b hb=>by rw[hk r hr (hDD _ hDr) (by simp[hb])];exact g.obj r hr (hDD _ hDr) b hb
 valid:=by
  intro r hr hlive hDr;have hDr:=hDD _ hDr;refine ha.elim (fun ha=>?_) (fun he=>by rw[he];exact g.valid r hr hlive hDr)
  obtain⟨v0,h1,hv0⟩:=g.valid r hr hlive hDr;cases hnew:r.new with
  |some b=>
   rw[hnew]at h1;obtain⟨v',h3,h4⟩:=vZ1 h1 h2 r.n;rw[h4 rfl]at h3;exact⟨v0,h3,hv0⟩
  | none=>
   rw[hnew]at h1;obtain⟨p,hpr⟩:=List.mem_iff_getElem?.1 hr;have hpl:=(List.getElem?_eq_some_iff.1 hpr).1;have hq:plan[old.length]?=some (i,rs):=by rw[hp,Qj (by simp)];simp
   have hro:=g.op r hr;rcases PW.loud2 p old.length r.i i r.rs rs hpl (zX8 hp hpr) hq (by simp[xZp,ho,hl])with hx|hx|hx
   ·have:=PW.wWl hD hlt hd hx
    rw[hDr]at this;simp at this
   ·have hst:xKk r.o.op=true:=by simpa[wW0,hro]using hx
    exact⟨v0,by rw[wJw hst h2 h];exact h1,hv0⟩
   ·have htake:T=fold (old.drop p) r.tmps:=by
     rw[g.tm p r hpr,←zYd,Ja];exact g.fin
    have hdrop:old.drop p=r::old.drop (p+1):=by
     have h1:=Jl hpl;rw[(List.getElem?_eq_some_iff.1 hpr).2]at h1;exact h1
    have hlater:∀r'∈old.drop (p+1),∀t,r'.o.dst=some t→t∉looks ops r.i∧zJm ops r.i≠some t:=by
     intro r' hr' t ht;obtain⟨k,hk'⟩:=List.mem_iff_getElem?.1 hr';rw[Jr]at hk';have hkl:=(List.getElem?_eq_some_iff.1 hk').1;refine PW.again p (p+1+k) old.length r.i r'.i i r.rs r'.rs rs (by omega) hkl (zX8 hp hpr) (zX8 hp hk') hq hx t ?_
     simp[zJm,g.op r' (Ql hk'),ht]
    have hself:∀t,r.o.dst=some t→t∉looks ops r.i:=fun t ht=>PW.again0 p old.length r.i i r.rs rs hpl (zX8 hp hpr) hq hx t (by simp[zJm,hro,ht])
    have hagree:∀t∈r.o.looksAt ops,T[t]?=r.tmps[t]?:=by
     intro t ht;rw[htake];apply yKw;intro r' hr' hdst;rw[hdrop]at hr';rcases Jm.1 hr' with rfl|hr'
     ·exact hself t hdst (by rw[yKu hro];exact ht)
     ·exact(hlater r' hr' t hdst).1 (by rw[yKu hro];exact ht)
    have hcong:∀h n,opQ c.ty h n (ev c.glob T) r.o.op=opQ c.ty h n (ev c.glob r.tmps) r.o.op:=fun h n=>vWw fun x hx=>xQd fun t ht=>by
     subst ht;exact hagree t (zYr hx)
    have hw:zWn ops T r.o=some true:=by rw[zJu hagree,g.want r hr,hlive]
    rcases ha r.i hx r.o hro hw with(⟨v,b,hb⟩|⟨v,hv,hvd⟩)|hfar
    ·rw[hcong]at hb
     obtain⟨v',h3,_⟩:=vZ1 hb h r.n;rw[h1]at h3;simp at h3
    ·rw[hcong]at hv
     refine⟨v,vY5 hv r.n,fun d hdd=>?_⟩
     obtain⟨u,hu,rfl⟩:=hvd d hdd;rw[htake,hdrop,fold_cons,yKw _ _ fun r' hr' ht=>(hlater r' hr' d ht).2 (by simp[zJm,hro,hdd])]at hu
     simp only[hdd,putC,Wt]at hu;split at hu
     ·split at hu<;>simp at hu;exact hu.symm
     ·rename_i hne;exact absurd trivial hne
    ·exact⟨v0,by rw[←hcong,hfar,hcong];exact h1,hv0⟩
theorem Good.mono{D D':Nat→Bool}(hDD:∀i,D' i=false→D i=false){T0 T:List CV}{old:List Rec}{h:Heap}(g:Good c ops D T0 old T h):Good c ops D' T0 old T h:=
 {g with valid:=fun r hr hl hD=>g.valid r hr hl (hDD _ hD),obj:=fun r hr hD=>g.obj r hr (hDD _ hD)}
theorem yK2{listed:Array Bool}{i:Nat}(h:i∈Region.ready .any ops listed):i<ops.size∧listed.getD i true=false∧∀e∈deps ops i,listed.getD e false=true:=by
 unfold Region.ready at h;simp only[K1,Wm,Qc,J3]at h;obtain⟨h1,h2,h3⟩:=h;refine⟨h1,h2, ?_⟩;obtain⟨o,ho⟩:∃o,ops[i]?=some o:=⟨ops[i],by simp⟩
 rw[ho]at h3;simp only[Ju,Wn,Array.all_eq_true_iff_forall_mem]at h3;intro e he;simp only[deps,ho,Ju,Wn,Ji,K1]at he;obtain⟨x,⟨hx,hb⟩,rfl⟩:=he;have:=h3 x (by simpa using hx)
 simpa[hb]using this
theorem vKv{listed:Array Bool}{i:Nat}(h1:i<ops.size)(h2:listed.getD i true=false)(h3:∀e∈deps ops i,listed.getD e false=true):i∈Region.ready .any ops listed:=by
 unfold Region.ready;simp only[K1,Wm,Qc,J3];refine⟨h1,h2, ?_⟩;obtain⟨o,ho⟩:∃o,ops[i]?=some o:=⟨ops[i],by simp[h1]⟩
 rw[ho];simp only[Ju,Wn,Array.all_eq_true_iff_forall_mem];intro x hx;cases hb:Region.binds .any x with
 |false=>simp
 |true=>
  simp only[Bool.not_true,Wr];refine h3 x.on ?_;simp only[deps,ho,Ju,Wn,Ji,K1];exact⟨x,⟨by simpa using hx,hb⟩,rfl⟩
def Dl(listed:Array Bool)(i:Nat):Bool:=listed.getD i false
theorem Dl_set{listed:Array Bool}{i:Nat}(hi:i<listed.size)(j:Nat):Dl (listed.setIfInBounds i true) j=(Dl listed j||j==i):=by
 unfold Dl;by_cases h:j=i
 ·subst h;simp[Array.getD,hi]
 ·have:¬i=j:=fun e=>h e.symm
  simp[this,h]
theorem xZy{α:Type}{f g:α→Bool}:∀{L:List α} {p:Nat} {r:α},L[p]? =some r→f r=true→g r=false→(∀(q:Nat) (x:α),L[q]? =some x→q≠p→f x=g x)→(L.filter f).length=(L.filter g).length+1
 | x::L,0,r,h,hf,hg,he=>by
  simp at h;subst h;have:L.filter f=L.filter g:=List.filter_congr fun y hy=>by
   obtain⟨q,hq⟩:=List.mem_iff_getElem?.1 hy;exact he (q+1) y (by simpa using hq) (by omega)
  simp[hf,hg,this]
 |x::L,p+1,r,h,hf,hg,he=>by
  have ih:=xZy (L:=L) (p:=p) (by simpa using h) hf hg fun q y hq hne=>he (q+1) y (by simpa using hq) (by omega)
  have hx:=he 0 x (by simp) (by omega)
  rw[Kq,Kq,hx];split<;>simp[ih]
variable (hty:c.ty.Ok P)
include hty
theorem vWe{ro:Option Nat}{plan:List (Nat×List Nat)}{bs:Array Nat}(PW:PlanOkW ops plan bs){N:Nat}{φ0:Phi}{St0:Stab}{H0:Heap}{w0:World}{ds:List Deferred}{T0:List CV}{out:Out}{T':List CV}{h':Heap}:
  ∀(fuel:Nat) (listed:Array Bool) (a:Act) (w:World) (φ:Phi) (St:Stab) (old:List Rec) (l:List (Nat×List Nat)) (T:List CV) (h:Heap),
  listed.size=ops.size→plan=old.map Rec.key++l→Good c ops (Dl listed) T0 old T h→Closed ops (Dl listed)→(∀p∈l,Dl listed p.1=false)→Stop P c lit ops l T h out T' h'→
  zYl c φ St w→(∀r∈old,Dl listed r.i=false→r.new.isSome=true→φ r.n=none∧H0.length≤r.n)→VRL φ St w (fold (old.filter (fun r=>Dl listed r.i)) T0) a.tmps.toList→a.defers=ds→
  Left N φ0 St0 H0 w0 h φ St w→fuel=(old.filter (fun r=>!Dl listed r.i)).length+l.length→
  wpAnyIn (Fw ro) 0 P .any ops (Post N φ0 St0 H0 w0 ds out T' h') fuel listed a w:=by
 have hltD:∀{listed:Array Bool},listed.size=ops.size→∀i,Dl listed i=true→i<ops.size:=by
  intro listed hsz i hi;rw[←hsz];rcases Nat.lt_or_ge i listed.size with h|h
  ·exact h
  ·simp[Dl,Array.getElem?_eq_none h]at hi
 have done:∀(listed:Array Bool) (a:Act) (w:World) (φ:Phi) (St:Stab) (old:List Rec) (l:List (Nat×List Nat)) (T:List CV) (h:Heap),
   Good c ops (Dl listed) T0 old T h→(∀r∈old,Dl listed r.i=true)→l=[]→Stop P c lit ops l T h out T' h'→VRL φ St w (fold (old.filter (fun r=>Dl listed r.i)) T0) a.tmps.toList→a.defers=ds→
   Left N φ0 St0 H0 w0 h φ St w→Post N φ0 St0 H0 w0 ds out T' h' .normal a w:=by
  intro listed a w φ St old l T h g hall hl hs ht hd hleft;subst hl;cases hs with|nil=>
  rw[List.filter_eq_self.2 hall,←g.fin]at ht;exact Post.plain hleft ⟨ht,hd⟩
 have stuck:∀(listed:Array Bool) (old:List Rec) (l:List (Nat×List Nat)),listed.size=ops.size→plan=old.map Rec.key++l→(∀p∈l,Dl listed p.1=false)→
   Region.ready .any ops listed=[]→(∀r∈old,Dl listed r.i=true)∧l=[]:=by
  intro listed old l hsz hp hpl hr;have all:∀(n p:Nat) (x:Nat×List Nat),p<n→plan[p]?=some x→Dl listed x.1=true:=by
   intro n;induction n with
   |zero=>intro p x hp;omega
   | succ n ih=>
    intro p x hpn hx;cases hD:Dl listed x.1 with
    |true=>rfl
    | false=>
     have hlt:=PW.lt p x.1 x.2 hx;have:x.1∈Region.ready .any ops listed:=by
      refine vKv hlt ?_ ?_
      ·have:x.1<listed.size:=by omega
       simpa[Dl,Array.getD,this]using hD
      ·intro e he
       obtain⟨q,rs',hq,hqe⟩:=PW.lin p x.1 x.2 hx e he;exact ih q (e,rs') (by omega) hqe
     rw[hr]at this;simp at this
  constructor
  ·intro r hrr
   obtain⟨p,hpr⟩:=List.mem_iff_getElem?.1 hrr;exact all (p+1) p _ (by omega) (zX8 hp hpr)
  ·cases l with
   |nil=>rfl
   |cons x l=>
    have h1:plan[old.length]?=some x:=by rw[hp,Qj (by simp)];simp
    have h2:=all _ _ x (Nat.lt_succ_self _) h1;rw[hpl x (by simp)]at h2;simp at h2
 intro fuel;induction fuel with
 | zero=>
  intro listed a w φ St old l T h hsz hp g hcl hpl hs hg hphi ht hd hleft hf;have hl:l=[]:=by cases l with|nil=>rfl|cons=>simp at hf
  have hall:∀r∈old,Dl listed r.i=true:=by
   intro r hr;cases hD:Dl listed r.i with
   |true=>rfl
   |false=>
    have:r∈old.filter (fun r=>!Dl listed r.i):=K1.2 ⟨hr,by simp[hD]⟩
    have:=List.length_pos_of_mem this;omega
  refine⟨?_,done listed a w φ St old l T h g hall hl hs ht hd hleft⟩;rw[List.eq_nil_iff_forall_not_mem];intro i hi;obtain⟨h1,h2,_⟩:=yK2 hi;obtain⟨p,rs,hpi⟩:=PW.mem i h1
  have hmem:(i,rs)∈plan:=Ql hpi;rw[hp,hl,Jq]at hmem;obtain⟨r,hr,hk⟩:=Ji.1 hmem;have:=hall r hr;simp[Rec.key]at hk;rw[hk.1]at this;have hsz':i<listed.size:=by omega
  simp[Dl,Array.getD,hsz']at this h2;rw[h2]at this;simp at this
 | succ fuel ih=>
  intro listed a w φ St old l T h hsz hp g hcl hpl hs hg hphi ht hd hleft hf;refine⟨fun hr=>?_,fun i hi=>?_⟩
  ·obtain⟨h1,h2⟩:=stuck listed old l hsz hp hpl hr
   exact done listed a w φ St old l T h g h1 h2 hs ht hd hleft
  obtain⟨hi1,hi2,hdeps⟩:=yK2 hi;have hil:i<listed.size:=by omega
  have hiD:Dl listed i=false:=by simpa[Dl,Array.getD,hil]using hi2
  have hD':∀j,Dl (listed.setIfInBounds i true) j=(Dl listed j||j==i):=Dl_set hil;have hDD:∀j,Dl (listed.setIfInBounds i true) j=false→Dl listed j=false:=fun j hj=>by rw[hD']at hj;simp at hj;exact hj.1
  have hcl':Closed ops (Dl (listed.setIfInBounds i true)):=by
   intro j hj e he;rw[hD']at hj⊢;simp only[Kp,beq_iff_eq]at hj;rcases hj with hj|rfl
   ·simp[hcl j hj e he]
   ·have:Dl listed e=true:=hdeps e he
    simp[this]
  obtain⟨p,rs,hpi⟩:=PW.mem i hi1;by_cases hpo:p<old.length
  ·-- a quiet one, not done yet
   obtain⟨r,hr⟩:∃r,old[p]?=some r:=⟨old[p],Qm hpo⟩;have hrm:=Ql hr;have hk:=zX8 hp hr;rw[hpi]at hk;simp at hk;obtain⟨rfl,rfl⟩:=hk;have hop:=g.op r hrm;have hag:∀t∈r.o.looksAt ops,(fold (old.filter (fun r=>Dl listed r.i)) T0)[t]?=r.tmps[t]?:=fun t ht'=>by
    rw[g.tm p r hr];exact xZa PW hp g.op hcl (hltD hsz) hr hiD hdeps (by rw[yKu hop];exact ht')
   have hput:=fun(T0:List CV)=>wKh PW hp g.op hcl (hltD hsz) (T0:=T0) hr hiD hD'
   have hw:zWn ops (fold (old.filter (fun r=>Dl listed r.i)) T0) r.o=some r.live:=by rw[zJu hag];exact g.want r hrm
   have hfuel:fuel=(old.filter (fun r'=>!Dl (listed.setIfInBounds r.i true) r'.i)).length+l.length:=by
    have:=xZy (f:=fun r=>!Dl listed r.i) (g:=fun r'=>!Dl (listed.setIfInBounds r.i true) r'.i) hr (by simp[hiD]) (by simp[hD']) (by
     intro q x hq hne;have:x.i≠r.i:=fun e=>by
      have h1:=zX8 hp hq;rw[e]at h1;exact hne (PW.inj _ _ _ _ _ h1 hpi)
     simp[hD',this])
    omega
   have hpl':∀p∈l,Dl (listed.setIfInBounds r.i true) p.1=false:=by
    intro x hx;rw[hD',hpl x hx];have:x.1≠r.i:=fun e=>by
     obtain⟨q,hq⟩:=List.mem_iff_getElem?.1 hx;have h1:plan[old.length+q]?=some x:=by rw[hp,Qj (by simp)];simpa using hq
     have:=PW.inj (old.length+q) p r.i x.2 r.rs (by rw[h1,←e]) hpi
     omega
    simp[this]
   unfold wpOpIn;rw[hop];simp only;rw[zX6 ht hw];cases hlive:r.live with
   |false=>
    simp only[Jv,if_false];obtain⟨hv,hn⟩:=g.skip r hrm hlive;refine⟨fun _ _=>trivial, ?_⟩
    refine ih _ _ w φ St old l T h (by simpa using hsz) hp (g.mono hDD) hcl' hpl' hs hg (fun r' hr' hD=>hphi r' hr' (hDD _ hD)) ?_ (by rw[←hd];cases r.o.dst<;>rfl) hleft hfuel
    rw[hput T0,hv];exact zKy ht r.o.dst zKj
   | true=>
    simp only[if_true];obtain⟨v,hq,hvd⟩:=g.valid r hrm hlive hiD;have hρ:∀x∈r.o.op.operands,VR φ St w (ev c.glob r.tmps x) (a.eval x):=by
     intro x hx;have:=yXf hg ht x
     rwa [xQd (T':=r.tmps) fun t ht'=>by subst ht';exact hag t (zYr hx)]at this
    have hputv:∀{φ':Phi} {w':World} {u:Value},Mono φ St w φ' St w'→VR φ' St w' v u→VRL φ' St w' (fold (old.filter (fun r'=>Dl (listed.setIfInBounds r.i true) r'.i)) T0) (a.put r.o.dst u).tmps.toList:=by
     intro φ' w' u m hu;rw[hput T0];cases hdst:r.o.dst with
     |none=>exact ht.mono m
     |some d=>
      rw[←hvd d hdst];have:=zKy (ht.mono m) (some d) hu;exact this
    have hdf:∀u,(a.put r.o.dst u).defers=ds:=fun u=>by rw[←hd];cases r.o.dst<;>rfl
    cases hnew:r.new with
    |none=>
     rw[hnew]at hq;refine yXx hty (vY5 hq h.length) hleft.rel (Sub.refl _) (by simp) hρ ?_
     intro φ' w' u R' F' hφ' hu;have l1:Left N φ St h w h φ' St w':=⟨R',F',Keep.refl _ _⟩;refine ih _ _ w' φ' St old l T h (by simpa using hsz) hp (g.mono hDD) hcl' hpl' hs (hg.mono F'.toMono) (fun r' hr' hD hs'=>?_) (hputv F'.toMono hu) (hdf u) (hleft.trans l1) hfuel
     obtain⟨h1,h2⟩:=hphi r' hr' (hDD _ hD) hs';have:=g.nlt r' hr' hs';exact⟨by rw[hφ' _ (by omega)];exact h1,h2⟩
    | some b=>
     rw[hnew]at hq;obtain⟨hφn,hHn⟩:=hphi r hrm hiD (by simp[hnew])
     refine yXx hty hq hleft.rel (Sub.refl _) (fun b' hb'=>⟨hφn,by simp at hb';subst hb';exact g.obj r hrm hiD _ hnew⟩) hρ ?_
     intro φ' w' u R' F' hφ' hu;have l1:Left N φ0 St0 H0 w0 h φ' St w':=⟨R',hleft.frm.trans F' hHn,hleft.keep⟩;refine ih _ _ w' φ' St old l T h (by simpa using hsz) hp (g.mono hDD) hcl' hpl' hs (hg.mono F'.toMono) (fun r' hr' hD hs'=>?_) (hputv F'.toMono hu) (hdf u) l1 hfuel
     obtain⟨h1,h2⟩:=hphi r' hr' (hDD _ hD) hs';have hne:r'.n≠r.n:=by
      obtain⟨q,hq'⟩:=List.mem_iff_getElem?.1 hr';have hqp:q≠p:=fun e=>by
       subst e;rw[hr]at hq';simp at hq';subst hq';rw[hD']at hD;simp at hD
      rcases Nat.lt_or_gt_of_ne hqp with hlt|hlt
      ·have:=g.ns q p r' r hlt hq' hr hs' (by simp[hnew]);omega
      ·have:=g.ns p q r r' hlt hr hq' (by simp[hnew]) hs';omega
     exact⟨by rw[hφ' _ hne];exact h1,h2⟩
  ·-- the next loud one
   have hpl0:plan[p]?=l[p-old.length]?:=by rw[hp,Qj (by simpa using hpo)];simp
   have hget0:∀x l',l=x::l'→plan[old.length]?=some x:=fun x l' e=>by rw[hp,Qj (by simp),e];simp
   have first:∀i0 rs0 l' (o:Oper),l=(i0,rs0)::l'→ops[i0]?=some o→zKp o.op=true→i=i0∧rs=rs0∧p=old.length:=by
    intro i0 rs0 l' o e ho hlo;have h0:=hget0 _ _ e;by_cases hpe:p=old.length
    ·rw[hpe,h0]at hpi;simp at hpi;exact⟨hpi.1.symm,hpi.2.symm,hpe⟩
    ·have ha:=PW.loud1 old.length p i0 i rs0 rs (by omega) h0 hpi (by simp[xZp,ho,hlo])
     have:=PW.wWl hcl (hltD hsz) hdeps ha;rw[hpl (i0,rs0) (by simp[e])]at this;simp at this
   have agree:∀(o:Oper) (v:CV) (l':List (Nat×List Nat)),l=(i,rs)::l'→ops[i]?=some o→∀t∈o.looksAt ops,(fold (old.filter (fun r=>Dl listed r.i)) T0)[t]?=T[t]?:=by
    intro o v l' e ho t ht';have hop:∀r∈old++[(mkL i rs o v T)],ops[Rec.i r]?=some (Rec.o r):=by
     intro r hr;rcases Qy.1 hr with hr|hr
     ·exact g.op r hr
     ·simp at hr;subst hr;exact ho
    have:=xZa (old:=old++[(mkL i rs o v T)]) (l:=l') PW (by rw[hp,e];simp[Rec.key]) hop hcl (hltD hsz) (T0:=T0) (p:=old.length)
     (r:=(mkL i rs o v T)) (by simp) hiD hdeps (t:=t) (by rw[yKu ho];exact ht')
    rw[K4,List.take_left']at this
    ·rw[Kq,Qi (by simp[hiD])]at this
     simp only[List.filter_nil,Jq]at this;rw[this,←g.fin]
    ·rfl
   unfold wpOpIn;cases hs with
   |nil=>simp at hpl0;have:=(List.getElem?_eq_some_iff.1 hpi).1;omega
   | panic ho hw hcall hst hlo=>
    rename_i i0 rs0 l' o v call;obtain⟨rfl,rfl,rfl⟩:=first _ _ _ _ rfl ho hlo
    have hag:=agree o v l' rfl ho;rw[ho];simp only;rw[zX6 ht (by rw[zJu hag];exact hw)]
    simp only[if_true];have hρ:∀x∈o.op.operands,VR φ St w (ev c.glob T x) (a.eval x):=by
     intro x hx;have:=yXf hg ht x
     rwa [xQd (T':=T) fun t ht'=>by subst ht';exact hag t (zYr hx)]at this
    refine wKq hcall hst hleft.rel hg hρ ?_;intro φ' St' w' u l1 hu;exact Post.plain (hleft.trans l1) ⟨⟨u,rfl,hu⟩,VRL.junk (by rw[g.fin,xWv];have:=ht.length;rw[xWv]at this;exact this),hd⟩
   | loud ho hw hcall hst hlo ha k=>
    rename_i i0 rs0 l' o v h2 call;obtain⟨rfl,rfl,rfl⟩:=first _ _ _ _ rfl ho hlo
    have hag:=agree o v l' rfl ho;rw[ho];simp only;rw[zX6 ht (by rw[zJu hag];exact hw)]
    simp only[if_true];have hρ:∀x∈o.op.operands,VR φ St w (ev c.glob T x) (a.eval x):=by
     intro x hx;have:=yXf hg ht x
     rwa [xQd (T':=T) fun t ht'=>by subst ht';exact hag t (zYr hx)]at this
    refine vW7 hty hcall hst hleft.rel hg hρ ?_;intro φ' St' w' u l1 hu;obtain⟨qs,l2,T1,h1,rfl,hqs,hstop⟩:=k.split;have hiD':Dl (listed.setIfInBounds i true) i=true:=by rw[hD'];simp
    have g1:=g.after PW hcl (hltD hsz) hDD hp ho hlo hdeps ha l1.keep.1 fun r hr hDr hn=>l1.keep.2 _ (g.nlt r hr hn) (hphi r hr hDr hn).1
    have g2:=g1.snoc (mkL i rs o v T) (Sub.refl h2) ho rfl hw (by simp) (fun _ hx=>by simp[hiD']at hx) (by simp) (by simp)
    obtain⟨g3,⟨x,hx,hxr⟩,hnq⟩:=Good.vYl hqs g2;have hp3:plan=((old++[(mkL i rs o v T)])++qs).map Rec.key++l2:=by rw[hp];simp[Rec.key]
    have hlat:∀(y:Nat×List Nat),y∈qs.map Rec.key++l2→Dl listed y.1=false∧y.1≠i:=by
     intro y hy;refine⟨hpl y (by simp;exact .inr (by simpa using hy)),fun e=>?_⟩
     obtain⟨q,hq⟩:=List.mem_iff_getElem?.1 hy;have h1:plan[old.length+1+q]?=some y:=by
      rw[hp,Qj (by simp;omega)]
      rw[show old.length+1+q-(old.map Rec.key).length=q+1 by simp;omega]
      simpa using hq
     have:=PW.inj (old.length+1+q) old.length i y.2 rs (by rw[h1,←e]) hpi
     omega
    have hlatq:∀r∈qs,Dl listed r.i=false∧r.i≠i:=fun r hr=>hlat r.key (Qv _ (Ji.2 ⟨r,hr,rfl⟩))
    have hlatD:∀r∈qs,Dl (listed.setIfInBounds i true) r.i=false:=fun r hr=>by rw[hD'];simp[hlatq r hr]
    have hold:∀r∈old,r.i≠i:=fun r hr e=>by
     obtain⟨q,hq⟩:=List.mem_iff_getElem?.1 hr;have h1:=zX8 hp hq;rw[e]at h1;have:=PW.inj _ _ _ _ _ h1 hpi;have:=(List.getElem?_eq_some_iff.1 hq).1;omega
    subst hx;refine ih _ _ w' φ' St' _ l2 T1 _ (by simpa using hsz) hp3 g3 hcl' (fun y hy=>by rw[hD'];simp[hlat y (Q7 _ hy)]) hstop (hg.mono l1.frm.toMono) ?_ ?_ (by rw[←hd];cases o.dst<;>rfl) ?_ ?_
    ·intro r hr hDr hn
     rw[Qy,Qy]at hr;rcases hr with(hr|hr)|hr
     ·obtain⟨e1,e2⟩:=hphi r hr (hDD _ hDr) hn
      exact⟨l1.frm.idNew _ (g.nlt r hr hn) e1,e2⟩
     ·simp at hr;subst hr;simp at hn
     ·have hb:=hnq r hr hn
      have e1:=hleft.keep.1;have e2:=l1.keep.1;refine⟨?_,by omega⟩
      cases hφ:φ' r.n with
      |none=>rfl
      |some e=>have:=l1.rel.dom _ _ hφ;omega
    ·have hsp:=wKh (old:=(old++[(mkL i rs o v T)])++qs) (l:=l2) PW hp3 g3.op hcl (hltD hsz) (T0:=T0) (p:=old.length)
      (r:=(mkL i rs o v T)) (by simp) hiD hD'
     rw[hsp];have hfl:((old++[(mkL i rs o v T)])++qs).filter (fun r=>Dl listed r.i)=old.filter (fun r=>Dl listed r.i):=by
      rw[K4,K4,Kq,Qi (by simp[hiD])]
      have:qs.filter (fun r=>Dl listed r.i)=[]:=List.filter_eq_nil_iff.2 fun r hr=>by simp[(hlatq r hr).1]
      rw[this];simp
     rw[hfl];exact zKy (ht.mono l1.frm.toMono) o.dst hu
    ·have l2':=hleft.trans l1
     exact⟨l2'.rel.longer x hxr,l2'.frm,l2'.keep.append' x⟩
    ·have e1:((old++[(mkL i rs o v T)])++qs).filter (fun r=>!Dl (listed.setIfInBounds i true) r.i)=old.filter (fun r=>!Dl listed r.i)++qs:=by
      rw[K4,K4,Kq,Qi (by simp[hiD'])]
      have h1:qs.filter (fun r=>!Dl (listed.setIfInBounds i true) r.i)=qs:=List.filter_eq_self.2 fun r hr=>by simp[hlatD r hr]
      have h2:old.filter (fun r=>!Dl (listed.setIfInBounds i true) r.i)=old.filter (fun r=>!Dl listed r.i):=List.filter_congr fun r hr=>by simp[hD',hold r hr]
      rw[h1,h2];simp
     rw[e1];simp at hf⊢;omega
end
end Go.Eng
/- What each kind of code does, one behind the other. -/
namespace Go.Eng
set_option linter.unusedVariables false
section
variable {P:Program} {ro:Option Nat}
theorem yKz(m:Machine):m.fenced P (Fw ro):=fenced_wide P m
def xZq(ro:Option Nat)(P:Program)(c:Code)(Q:Exit→Act→World→Prop)(a:Act)(w:World):Prop:=
 ∀(b:Frame) (k:List Item) (cs:List Frame),b.roundOf=ro→∃e a' w',Q e a' w'∧ArrivesIn (Machine.fenced P (Fw ro)) P (lone (b.atR a (.code c::.inLoop c::k)) cs w) b k cs e a' w'
def yJc(ro:Option Nat)(P:Program)(c cur:Code)(Q:Exit→Act→World→Prop)(a:Act)(w:World):Prop:=
 ∀(b:Frame) (k:List Item) (cs:List Frame),b.roundOf=ro→∃e a' w',Q e a' w'∧ArrivesIn (Machine.fenced P (Fw ro)) P (lone (b.atR a (.code cur::.inScope c::k)) cs w) b k cs e a' w'
theorem wW1{b:Frame}{a:Act}{k:List Item}{cs:List Frame}{w:World}{c:Code}:step P (lone (b.atR a (.code (.scope c)::k)) cs w)=.next (lone (b.atR a (.code c::.inScope c::k)) cs w):=
 step_lone_go (by simp[stepG,stepG.exec,Frame.atR])
theorem xKl{b:Frame}{a:Act}{k:List Item}{cs:List Frame}{w:World}{c:Code}:step P (lone (b.atR a (.inScope c::k)) cs w)=.next (lone (b.atR a k) cs w):=
 step_lone_go (by simp[stepG,stepG.exec,Frame.atR])
variable {Q:Exit→Act→World→Prop} {a:Act} {w:World}
theorem xYk{c:Code}(h:xZq ro P c Q a w):(Code.loop c).wpIn (Fw ro) 0 P Q a w:=by
 intro b k cs hro _ _;obtain⟨e,a',w',hq,harr⟩:=h b k cs hro;exact⟨e,a',w',hq, .of_steps (.one (yKz _) stepR_loop) harr⟩
theorem wQv{c:Code}(h:c.wpIn (Fw ro) 0 P (Exit.then (xZq ro P c Q) Q) a w):xZq ro P c Q a w:=by
 intro b k cs hro;obtain⟨e,a₁,w₁,hq,harr⟩:=h b (.inLoop c::k) cs hro trivial (vWd _ _);cases e with
 |normal=>
  obtain⟨e₂,a₂,w₂,hq₂,harr₂⟩:=hq b k cs hro;exact⟨e₂,a₂,w₂,hq₂, .of_steps (StepsIn.trans harr (.one (yKz _) stepR_inLoop)) harr₂⟩
 |exit id=>exact⟨_,a₁,w₁,hq, .pass (x:=.inLoop c) rfl (fun _ _=>.inl (by simp)) harr⟩
 |goto l=>exact⟨_,a₁,w₁,hq, .pass (x:=.inLoop c) rfl (fun _ _=>.inl (by simp)) harr⟩
 |ret=>exact⟨_,a₁,w₁,hq, .pass (x:=.inLoop c) rfl (fun _ _=>.inl (by simp)) harr⟩
 |panic ch=>exact⟨_,a₁,w₁,hq, .pass (x:=.inLoop c) rfl (fun _ _=>.inl (by simp)) harr⟩
 |outgrown=>exact⟨_,a₁,w₁,hq, .pass (x:=.inLoop c) rfl (fun _ _=>.inl (by simp)) harr⟩
theorem xZ8{c:Code}(h:yJc ro P c c Q a w):(Code.scope c).wpIn (Fw ro) 0 P Q a w:=by
 intro b k cs hro _ _;obtain⟨e,a',w',hq,harr⟩:=h b k cs hro;exact⟨e,a',w',hq, .of_steps (.one (yKz _) wW1) harr⟩
def Exit.wK9(ro:Option Nat)(P:Program)(c:Code)(Q:Exit→Act→World→Prop):Exit→Act→World→Prop
 | .goto l,a,w=>match findLabel c l with
  |some rest=>yJc ro P c rest Q a w
  |none=>Q (.goto l) a w
 |e,a,w=>Q e a w
theorem xZd{c cur:Code}(h:cur.wpIn (Fw ro) 0 P (Exit.wK9 ro P c Q) a w):yJc ro P c cur Q a w:=by
 intro b k cs hro;obtain⟨e,a₁,w₁,hq,harr⟩:=h b (.inScope c::k) cs hro trivial (vWd _ _);cases e with
 |normal=>exact⟨.normal,a₁,w₁,hq,StepsIn.trans harr (.one (yKz _) xKl)⟩
 |exit id=>
  have hx:exitTo id (.inScope c::k)=exitTo id k:=by simp[exitTo]
  exact⟨.exit id,a₁,w₁,hq,fun k' hk=>harr.1 k' (by rw[hx];exact hk),fun hr hk=>harr.2 hr (by rw[hx];exact hk)⟩
 | goto l=>
  simp only[Exit.wK9]at hq;split at hq
  ·rename_i rest hf
   obtain⟨e₂,a₂,w₂,hq₂,harr₂⟩:=hq b k cs hro;exact⟨e₂,a₂,w₂,hq₂, .of_steps (harr.1 _ (by simp[gotoIn,hf])) harr₂⟩
  ·rename_i hf
   have hx:gotoIn l (.inScope c::k)=gotoIn l k:=by simp[gotoIn,hf]
   exact⟨.goto l,a₁,w₁,hq,fun k' hk=>harr.1 k' (by rw[hx];exact hk),fun hr hk=>harr.2 hr (by rw[hx];exact hk)⟩
 |ret=>exact⟨_,a₁,w₁,hq,harr⟩
 |panic ch=>exact⟨_,a₁,w₁,hq,harr⟩
 |outgrown=>exact⟨_,a₁,w₁,hq,harr⟩
end
section
variable {P:Program} {N:Nat} {φ:Phi} {St:Stab} {H:Heap} {w:World} {c:Cfg}
def SumOk(P:Program)(c:Cfg)(f:FuncId)(F:Heap→List CV→Option (CV×Heap)):Prop:=
 yYr P f∧∀N φ St H w args us v H',Rel N φ St H w→zYl c φ St w→VRL φ St w args us→F H args=some (v,H')→Calls P f us.toArray w (yZa N φ St H w .ret [v] H')
structure Cfg.Ok (P:Program) (c:Cfg):Prop where
 ty:c.ty.Ok P
 code : ∀ f xf, c.code f = some xf → ∃ fn, P.funcs[f]? = some fn ∧ (fn.name == "runtime.NumGoroutine") = false ∧ fn.body = some xf.body.code ∧ fn.ntmps = xf.ntmps ∧ fn.results.toList = xf.results ∧ xf.body.ok
 sum:∀f F,c.sum f=some F→SumOk P c f F
 mixed:P.follows .mixedOrders=true
 glob:∀i v,c.glob i=some v→zWc v=true
 keep:∀f,c.keep f=true→∃F,c.sum f=some F∧∀H args v H',F H args=some (v,H')→H'=H
theorem yXh {f : FuncId} {fn : Func} {b : Code} (h : P.funcs[f]? = some fn) (hn : (fn.name == "runtime.NumGoroutine") = false) (hb : fn.body = some b) : yYr P f := by
 intro args w;have hn' : ¬ fn.name = "runtime.NumGoroutine" := by simpa using hn
 simp[callFunc,h,hn',hb]
def zQm(P:Program)(c:Cfg)(rd:Option Nat)(x:X)(tmps:List CV)(H:Heap)(out:Out)(tmps':List CV)(H':Heap):Prop:=
 ∀N φ St w a ro,Rel N φ St H w→zYl c φ St w→RdOk φ rd ro→VRL φ St w tmps a.tmps.toList→x.code.wpIn (Fw ro) 0 P (Post N φ St H w a.defers out tmps' H') a w
def zQj(P:Program)(c:Cfg)(rd:Option Nat)(b:X)(tmps:List CV)(H:Heap)(out:Out)(tmps':List CV)(H':Heap):Prop:=
 ∀N φ St w a ro,Rel N φ St H w→zYl c φ St w→RdOk φ rd ro→VRL φ St w tmps a.tmps.toList→xZq ro P b.code (Post N φ St H w a.defers out tmps' H') a w
def zZw(P:Program)(c:Cfg)(rd:Option Nat)(b cur:X)(tmps:List CV)(H:Heap)(out:Out)(tmps':List CV)(H':Heap):Prop:=
 ∀N φ St w a ro,Rel N φ St H w→zYl c φ St w→RdOk φ rd ro→VRL φ St w tmps a.tmps.toList→yJc ro P b.code cur.code (Post N φ St H w a.defers out tmps' H') a w
def zXb(P:Program)(c:Cfg)(rd:Option Nat)(ops:Array Oper)(l:List Nat)(tmps:List CV)(H:Heap)(out:Out)(tmps':List CV)(H':Heap):Prop:=
 ∀N φ St w a ro,Rel N φ St H w→zYl c φ St w→RdOk φ rd ro→VRL φ St w tmps a.tmps.toList→wpOpsIn (Fw ro) 0 P ops (Post N φ St H w a.defers out tmps' H') l a w
theorem Post.normal{ds:List Deferred}{tmps:List CV}{H':Heap}{e:Exit}{a:Act}{w':World}(h:Post N φ St H w ds .normal tmps H' e a w'):
  e=.normal∧∃φ' St',Left N φ St H w H' φ' St' w'∧∃ms,Marks w.heap.size φ' w' ms∧VRL φ' St' w' tmps a.tmps.toList∧a.defers=ms++ds:=by
 obtain⟨φ',St',l,ms,hm,o⟩:=h;cases e<;>simp[yZf]at o;exact⟨rfl,φ',St',l,ms,hm,o⟩
theorem wJ4(hc:c.Ok P){lit:Nat}{ops:Array Oper}{plan:List (Nat×List Nat)}{tmps:List CV}{out:Out}{tmps':List CV}{H':Heap}(hp:vZ2 ops plan)
  (ha:Ahead P c lit ops plan tmps H out tmps' H') {ro:Option Nat} {a:Act} (R:Rel N φ St H w) (hg:zYl c φ St w) (ht:VRL φ St w tmps a.tmps.toList) (t:Nat):
  wpOpsIn (Fw ro) 0 P ops (Post N φ St H w a.defers out tmps' H') (Region.schedule true ops t) a w:=by
 obtain⟨bs,PW⟩:=hp;obtain⟨qs,l2,T1,h1,rfl,hqs,hstop⟩:=ha.split;simp only[Region.schedule,Bool.true_or,if_true,Region.linearise];refine wpAnyIn_sound ops.size t _ a w ?_
 have hD0:∀i,Dl (Array.replicate ops.size false) i=false:=fun i=>by
  unfold Dl;by_cases hi:i<ops.size<;>simp[Array.getD,hi]
 have g0:Good c ops (Dl (Array.replicate ops.size false)) tmps [] tmps H:=
  ⟨by simp,by simp,rfl,by simp,by simp,by simp,by simp,by simp,by simp⟩
 obtain⟨g1,⟨x,rfl,hxr⟩,hn⟩:=Good.vYl hqs g0;simp only[K2]at g1;refine vWe hc.ty PW ops.size _ a w φ St qs l2 T1 _ (by simp) rfl g1 (fun j hj=>by rw[hD0]at hj;simp at hj) (fun p _=>hD0 _) hstop hg ?_ ?_ rfl ⟨R.longer x hxr,Frm.refl _ _ _ _,Keep.append _ _ _⟩ ?_
 ·intro r hr _ hs
  have:=hn r hr hs;refine⟨?_,this⟩;cases hφ:φ r.n with
  |none=>rfl
  |some e=>have:=R.dom _ _ hφ;omega
 ·rw[List.filter_eq_nil_iff.2 fun r _=>by simp[hD0]];exact ht
 ·rw[List.filter_eq_self.2 fun r _=>by simp[hD0]]
  have:=PW.len;simp at this;omega
theorem Left.drew(R:Rel N φ St H w):Left N φ St H w H φ St {w with drawn:=w.drawn+1}:=⟨R.drew.1,Frm.drew _ _ _ _,Keep.refl _ _⟩
def xY3(ts:Array Value):ResultVar→Sem Value
 | .tmp t=>pure (ts.getD t undef)
 | .cell a t=>do loadVar t (←asAddr (ts.getD a undef))
theorem xQ1(hc:c.Ok P)(R:Rel N φ St H w){tmps:List CV}{ts:Array Value}(ht:VRL φ St w tmps ts.toList):∀{rs:List ResultVar} {cs:List CV},zXj c.ty H tmps rs=some cs→
  ∃vs,(rs.mapM (xY3 ts)).run P w=.ok vs w∧VRL φ St w cs vs
 |[],cs,h=>by simp[zXj]at h;subst h;exact⟨[],rfl, .nil⟩
 | r::rs,cs,h=>by
  have hget:∀t,VR φ St w (tmps.getD t zWt) (ts.getD t undef):=fun t=>yXf (c:={c with glob:=fun _=>none}) (a:=⟨ts,[]⟩) (fun i v hv=>by simp at hv) ht (.tmp t)
  simp only[zXj]at h;split at h<;>(try (simp at h;done))
  rename_i x hx;split at h<;>(try (simp at h;done))
  rename_i xs hxs;simp at h;subst h;obtain⟨vs,h1,h2⟩:=xQ1 hc R ht hxs;have:∃v,(xY3 ts r).run P w=.ok v w∧VR φ St w x v:=by
   cases r with
   |tmp t=>simp[yJg]at hx;subst hx;exact⟨_,rfl,by simpa using hget t⟩
   | cell a t=>
    simp only[yJg]at hx;obtain⟨v,g1,g2⟩:=wK6 hc.ty R hx (hget a);refine⟨v, ?_,g2⟩;have hgen:∀p:Value,(Instr.loadAt t p).run P w=.ok v w→(do loadVar t (←asAddr p):Sem Value).run P w=.ok v w:=by
     intro p g1;unfold Instr.loadAt Instr.sureAddr at g1;unfold asAddr;cases p<;>(try (simp at g1;done))
     rename_i q;cases q<;>simp at g1⊢;exact g1
    exact hgen _ g1
  obtain⟨v,g1,g2⟩:=this;refine⟨v::vs, ?_, .cons _ _ _ _ g2 h2⟩;rw[K7];simp only[Sem.run_bind,g1,Result.andThen_ok,h1];rfl
theorem wJ2(fn:Func)(ts:Array Value):results fn ts=(do
  let vs←fn.results.mapM (xY3 ts)
  pure (if h:vs.size=1 then vs[0]else .tuple vs)):=by
 unfold results;congr 1
theorem yXr(hc:c.Ok P)(R:Rel N φ St H w){tmps:List CV}{ts:Array Value}(ht:VRL φ St w tmps ts.toList){fn:Func}{rs:List ResultVar}{cs:List CV}(hr:fn.results.toList=rs)(h:zXj c.ty H tmps rs=some cs):
  ∃v,(results fn ts).run P w=.ok v w∧VR φ St w (oneOf cs) v:=by
 obtain⟨vs,h1,h2⟩:=xQ1 hc R ht h;have hm:(fn.results.mapM (xY3 ts)).run P w=.ok vs.toArray w:=by
  rw[Array.mapM_eq_mapM_toList,hr];change Sem.run P (List.mapM (xY3 ts) rs>>=fun a=>pure a.toArray) w=_
  simp[h1]
 rw[wJ2];rw[Sem.run_bind];rw[hm];simp only[Result.andThen_ok];cases h2 with
 |nil=>exact⟨_,rfl, .tuple [] [] .nil⟩
 |cons c1 v1 cs vs g1 g2=>
  cases g2 with
  |nil=>exact⟨v1,by simp,g1⟩
  |cons c2 v2 cs vs g2 g3=>exact⟨.tuple (v1::v2::vs).toArray,by simp, .tuple _ _ (.cons _ _ _ _ g1 (.cons _ _ _ _ g2 g3))⟩
theorem Post.then{ds:List Deferred}{out:Out}{tmps:List CV}{H':Heap}{e:Exit}{a:Act}{w':World}{K:Act→World→Prop}(hne:out≠ .normal)(h:Post N φ St H w ds out tmps H' e a w'):
  Exit.then K (Post N φ St H w ds out tmps H') e a w':=by
 cases e<;>first|exact h|skip
 obtain⟨φ',St',l,ms,hm,o⟩:=h;cases out<;>simp[yZf]at o hne
variable {ro:Option Nat}
theorem Post.of_wp{x:Code}{φ':Phi}{St':Stab}{H' H'':Heap}{w':World}{ds ms:List Deferred}{out:Out}{tmps:List CV}{a:Act}(l:Left N φ St H w H' φ' St' w')(hm:Marks w.heap.size φ' w' ms)(hd:a.defers=ms++ds)
  (p:x.wpIn (Fw ro) 0 P (Post N φ' St' H' w' a.defers out tmps H'') a w'):x.wpIn (Fw ro) 0 P (Post N φ St H w ds out tmps H'') a w':=by
 rw[hd]at p;exact wpIn_mono p fun e a w h=>Post.trans l hm h
theorem Post.zK4{x:Code}{φ':Phi}{St':Stab}{H' H'':Heap}{w':World}{ds ms:List Deferred}{out:Out}{tmps:List CV}{a:Act}(l:Left N φ St H w H' φ' St' w')(hm:Marks w.heap.size φ' w' ms)(hd:a.defers=ms++ds)
  (p:xZq ro P x (Post N φ' St' H' w' a.defers out tmps H'') a w'):xZq ro P x (Post N φ St H w ds out tmps H'') a w':=by
 rw[hd]at p;exact fun b k cs hro=>let⟨e,a',w'',q,r⟩:=p b k cs hro;⟨e,a',w'',Post.trans l hm q,r⟩
theorem Post.vK4{x y:Code}{φ':Phi}{St':Stab}{H' H'':Heap}{w':World}{ds ms:List Deferred}{out:Out}{tmps:List CV}{a:Act}(l:Left N φ St H w H' φ' St' w')(hm:Marks w.heap.size φ' w' ms)(hd:a.defers=ms++ds)
  (p:yJc ro P x y (Post N φ' St' H' w' a.defers out tmps H'') a w'):yJc ro P x y (Post N φ St H w ds out tmps H'') a w':=by
 rw[hd]at p;exact fun b k cs hro=>let⟨e,a',w'',q,r⟩:=p b k cs hro;⟨e,a',w'',Post.trans l hm q,r⟩
theorem zYm {F :Fence}{n:Nat}{ops:Array Oper}{Q Q':Exit→Act→World→Prop}(hq:∀e a w,Q e a w→Q' e a w):∀(l:List Nat) (a:Act) (w:World),wpOpsIn F n P ops Q l a w→wpOpsIn F n P ops Q' l a w:=by
  intro l;induction l with
  |nil=>intro a w h;exact hq _ _ _ h
  | cons i l ih=>
    intro a w h;unfold wpOpsIn at h⊢;split
    ·rename_i ho;simp only[ho]at h;exact ih _ _ h
    · rename_i o ho
      simp only[ho]at h;split
      · rename_i hw
        simp only[hw,if_true]at h;refine⟨h.1, ?_⟩;have h:=h.2;generalize (o.semAt F.round a.eval).run P w=r at h⊢;cases r with
        | ok n w'=>
          cases n<;>simp only[Oper.uponIn]at h⊢<;>first|exact ih _ _ h|exact h.elim|skip
          · refine⟨h.1,h.2.mono fun e w'' he=> ?_⟩
            cases e with
            |returned v=>exact ih _ _ he
            |panicked ch=>exact hq _ _ _ he
            |outgrown=>obtain⟨a0,w0,h0⟩:=he;exact⟨a0,w0,hq _ _ _ h0⟩
          all_goals first
            |exact⟨h.1,h.2.mono fun v w'' he=>ih _ _ he⟩
            | (refine⟨h.1,h.2.mono fun e w'' he=> ?_⟩
               cases e with
               |returned v=>exact ih _ _ he
               |panicked ch=>exact hq _ _ _ he
               |outgrown=>obtain⟨a0,w0,h0⟩:=he;exact⟨a0,w0,hq _ _ _ h0⟩)
        |halt x w'=>cases x<;>simp only[Oper.uponIn]at h⊢<;>first|exact hq _ _ _ h|exact h.elim
      · rename_i hw
        simp only[hw]at h;exact⟨h.1,ih _ _ h.2⟩
theorem Post.yYj{ops:Array Oper}{l:List Nat}{φ':Phi}{St':Stab}{H' H'':Heap}{w':World}{ds:List Deferred}{out:Out}{tmps:List CV}{a:Act}(l':Left N φ St H w H' φ' St' w')(hd:a.defers=ds)
  (p:wpOpsIn (Fw ro) 0 P ops (Post N φ' St' H' w' a.defers out tmps H'') l a w'):wpOpsIn (Fw ro) 0 P ops (Post N φ St H w ds out tmps H'') l a w':=by
 rw[hd]at p;exact zYm (fun e a w h=>Post.vYg l' h) _ _ _ p
theorem zQ1(a:Act)(d:Option Tmp)(v:Value):(a.put d v).defers=a.defers:=by cases d<;>rfl
variable {rd:Option Nat} {tmps tmps':List CV} {H':Heap} {out:Out}
theorem zQm.skip:zQm P c rd .skip tmps H .normal tmps H:=fun N φ St w a ro R hg hr ht=>wpIn_skip (Post.plain (Left.refl R) ⟨ht,rfl⟩)
theorem zQm.label{l:Nat}:zQm P c rd (.label l) tmps H .normal tmps H:=fun N φ St w a ro R hg hr ht=>wpIn_label (Post.plain (Left.refl R) ⟨ht,rfl⟩)
theorem zQm.exit{l:Nat}:zQm P c rd (.exit l) tmps H (.exit l) tmps H:=fun N φ St w a ro R hg hr ht=>wpIn_exit (Post.plain (Left.refl R) ⟨rfl,ht,rfl⟩)
theorem zQm.goto{l:Nat}:zQm P c rd (.goto l) tmps H (.goto l) tmps H:=fun N φ St w a ro R hg hr ht=>wpIn_goto (Post.plain (Left.refl R) ⟨rfl,ht,rfl⟩)
theorem zQm.ret:zQm P c rd .ret tmps H .ret tmps H:=fun N φ St w a ro R hg hr ht=>wpIn_ret (Post.plain (Left.refl R) ⟨ht,rfl⟩)
theorem zQm.seq{x y:X}{t1:List CV}{h1:Heap}(hx:zQm P c rd x tmps H .normal t1 h1)(hy:zQm P c rd y t1 h1 out tmps' H'):zQm P c rd (.seq x y) tmps H out tmps' H':=by
 intro N φ St w a ro R hg hr ht;refine wpIn_seq (wpIn_mono (hx N φ St w a ro R hg hr ht) fun e a1 w1 p=>?_)
 obtain⟨rfl,φ1,St1,l1,ms,hm,ht1,hd1⟩:=p.normal;exact Post.of_wp l1 hm hd1 (hy N φ1 St1 w1 a1 ro l1.rel (hg.mono l1.frm.toMono) (hr.mono l1.frm.toMono) ht1)
theorem zQm.xKq{x y:X}(ho:out≠.normal)(hx:zQm P c rd x tmps H out tmps' H'):zQm P c rd (.seq x y) tmps H out tmps' H':=
 fun N φ St w a ro R hg hr ht=>wpIn_seq (wpIn_mono (hx N φ St w a ro R hg hr ht) fun e a1 w1 p=>p.then ho)
theorem zQm.cond_true{o:Operand}{x y:X}(ho:ev c.glob tmps o=.bool true)(hx:zQm P c rd x tmps H out tmps' H'):zQm P c rd (.cond o x y) tmps H out tmps' H':=by
 intro N φ St w a ro R hg hr ht;have hv:=yXf hg ht o;rw[ho]at hv;generalize hgv:a.eval o=gv at hv;cases hv;exact wpIn_cond_true hgv (hx N φ St w a ro R hg hr ht)
theorem zQm.cond_false{o:Operand}{x y:X}(ho:ev c.glob tmps o=.bool false)(hy:zQm P c rd y tmps H out tmps' H'):zQm P c rd (.cond o x y) tmps H out tmps' H':=by
 intro N φ St w a ro R hg hr ht;have hv:=yXf hg ht o;rw[ho]at hv;generalize hgv:a.eval o=gv at hv;cases hv;exact wpIn_cond_false hgv (hy N φ St w a ro R hg hr ht)
def Out.inBlock(id:Nat):Out→Out
 | .exit i=>if i=id then .normal else .exit i
 |o=>o
theorem zQm.block{id:Nat}{x:X}(hx:zQm P c rd x tmps H out tmps' H'):zQm P c rd (.block id x) tmps H (out.inBlock id) tmps' H':=by
 intro N φ St w a ro R hg hr ht;refine wpIn_block (wpIn_mono (hx N φ St w a ro R hg hr ht) fun e a1 w1 p=>?_)
 obtain⟨φ1,St1,l1,ms,hm,hout⟩:=p;cases out<;>cases e<;>simp only[yZf]at hout
 case exit.exit i j=>
  obtain⟨rfl,ht1,hd1⟩:=hout;simp only[Exit.inBlock,Out.inBlock];split
  ·exact⟨φ1,St1,l1,ms,hm,ht1,hd1⟩
  ·exact⟨φ1,St1,l1,ms,hm,rfl,ht1,hd1⟩
 all_goals exact⟨φ1,St1,l1,ms,hm,hout⟩
theorem zQm.loop{x:X}(hx:zQj P c rd x tmps H out tmps' H'):zQm P c rd (.loop x) tmps H out tmps' H':=
 fun N φ St w a ro R hg hr ht=>xYk (hx N φ St w a ro R hg hr ht)
theorem zQj.more{x:X}{t1:List CV}{h1:Heap}(hx:zQm P c rd x tmps H .normal t1 h1)(hy:zQj P c rd x t1 h1 out tmps' H'):zQj P c rd x tmps H out tmps' H':=by
 intro N φ St w a ro R hg hr ht;refine wQv (wpIn_mono (hx N φ St w a ro R hg hr ht) fun e a1 w1 p=>?_)
 obtain⟨rfl,φ1,St1,l1,ms,hm,ht1,hd1⟩:=p.normal;exact Post.zK4 l1 hm hd1 (hy N φ1 St1 w1 a1 ro l1.rel (hg.mono l1.frm.toMono) (hr.mono l1.frm.toMono) ht1)
theorem zQj.leave{x:X}(ho:out≠.normal)(hx:zQm P c rd x tmps H out tmps' H'):zQj P c rd x tmps H out tmps' H':=
 fun N φ St w a ro R hg hr ht=>wQv (wpIn_mono (hx N φ St w a ro R hg hr ht) fun e a1 w1 p=>p.then ho)
theorem zQm.scope{x:X}(hx:zZw P c rd x x tmps H out tmps' H'):zQm P c rd (.scope x) tmps H out tmps' H':=
 fun N φ St w a ro R hg hr ht=>xZ8 (hx N φ St w a ro R hg hr ht)
theorem zZw.jump{b cur rest:X}{l:Nat}{t1:List CV}{h1:Heap}(hx:zQm P c rd cur tmps H (.goto l) t1 h1)(hf:yWi b l=some rest)(hy:zZw P c rd b rest t1 h1 out tmps' H'):zZw P c rd b cur tmps H out tmps' H':=by
 intro N φ St w a ro R hg hr ht;refine xZd (wpIn_mono (hx N φ St w a ro R hg hr ht) fun e a1 w1 p=>?_)
 obtain⟨φ1,St1,l1,ms,hm,hout⟩:=p;cases e<;>simp only[yZf]at hout;obtain⟨rfl,ht1,hd1⟩:=hout;simp only[Exit.wK9,wZz,hf,Ju];exact Post.vK4 l1 hm hd1 (hy N φ1 St1 w1 a1 ro l1.rel (hg.mono l1.frm.toMono) (hr.mono l1.frm.toMono) ht1)
theorem zZw.leave{b cur:X}(ho:∀l,out=.goto l→yWi b l=none)(hx:zQm P c rd cur tmps H out tmps' H'):zZw P c rd b cur tmps H out tmps' H':=by
 intro N φ St w a ro R hg hr ht;refine xZd (wpIn_mono (hx N φ St w a ro R hg hr ht) fun e a1 w1 p=>?_)
 obtain⟨φ1,St1,l1,ms,hm,hout⟩:=p;cases out<;>cases e<;>simp only[yZf]at hout
 case goto.goto i j=>
  obtain⟨rfl,ht1,hd1⟩:=hout;simp only[Exit.wK9,wZz,ho i rfl,Option.map_none];exact⟨φ1,St1,l1,ms,hm,rfl,ht1,hd1⟩
 all_goals exact⟨φ1,St1,l1,ms,hm,hout⟩
theorem zQm.region{id:Nat}{ops:Array Oper}{plan:List (Nat×List Nat)}(hx:zXb P c rd ops (List.range ops.size) tmps H out tmps' H'):zQm P c rd (.region id ops false plan) tmps H out tmps' H':=
 fun N φ St w a ro R hg hr ht=>wpIn_region (hx N φ St w a ro R hg hr ht)
theorem zQm.wXi(hc:c.Ok P){lit:Nat}{id:Nat}{ops:Array Oper}{plan:List (Nat×List Nat)}(hp:vZ2 ops plan)(ha:Ahead P c lit ops plan tmps H out tmps' H'):zQm P c rd (.region id ops true plan) tmps H out tmps' H':=by
 intro N φ St w a ro R hg hr ht;refine wpIn_region_draw fun t=>?_
 rw[hc.mixed];have hl:=Left.drew R;have:=wJ4 (ro:=ro) hc hp ha hl.rel (hg.mono hl.frm.toMono) (ht.mono hl.frm.toMono) t;exact zYm (fun e a w p=>Post.vYg hl p) _ _ _ this
theorem zXb.nil{ops:Array Oper}:zXb P c rd ops [] tmps H .normal tmps H:=fun N φ St w a ro R hg hr ht=>Post.plain (Left.refl R) ⟨ht,rfl⟩
theorem zXb.none{ops:Array Oper}{i:Nat}{l:List Nat}(ho:ops[i]?=none)(hx:zXb P c rd ops l tmps H out tmps' H'):zXb P c rd ops (i::l) tmps H out tmps' H':=by
 intro N φ St w a ro R hg hr ht;simp only[wpOpsIn,ho];exact hx N φ St w a ro R hg hr ht
theorem zXb.skip{ops:Array Oper}{i:Nat}{l:List Nat}{o:Oper}(ho:ops[i]?=some o)(hw:zWn ops tmps o=some false)(hx:zXb P c rd ops l (putC tmps o.dst zWt) H out tmps' H'):zXb P c rd ops (i::l) tmps H out tmps' H':=by
 intro N φ St w a ro R hg hr ht;simp only[wpOpsIn,ho];rw[zX6 ht hw];exact⟨fun _ _=>trivial,Post.yYj (Left.refl R) (zQ1 _ _ _) (hx N φ St w (a.put o.dst undef) ro R hg hr (zKy ht o.dst zKj))⟩
theorem zXb.quiet(hc:c.Ok P){ops:Array Oper}{i:Nat}{l:List Nat}{o:Oper}{v:CV}{new:Option HObj}(ho:ops[i]? =some o)(hw:zWn ops tmps o=some true)(hq:opQ c.ty H H.length (ev c.glob tmps) o.op=some (v,new))
  (hx:zXb P c rd ops l (putC tmps o.dst v) (H++new.toList) out tmps' H'):zXb P c rd ops (i::l) tmps H out tmps' H':=by
 intro N φ St w a ro R hg hr ht;simp only[wpOpsIn,ho];rw[zX6 ht hw];refine yXx hc.ty hq (R.longer new.toList (fun o ho=>by
  cases new with
  |none=>simp at ho
  |some b=>simp at ho;subst ho;exact yJm hq)) (Sub.append _ _) (fun b hb=>⟨R.yJn,by subst hb;simp⟩) (fun x _=>yXf hg ht x) ?_
 intro φ1 w1 u R1 F1 _ hu;have l1:Left N φ St H w (H++new.toList) φ1 St w1:=⟨R1,F1,Keep.append _ _ _⟩;exact Post.yYj l1 (zQ1 _ _ _) (hx N φ1 St w1 _ ro R1 (hg.mono F1.toMono) (hr.mono F1.toMono) (zKy (ht.mono F1.toMono) o.dst hu))
theorem zXb.loud(hc:c.Ok P){call:Who→List CV→Heap→Ans}(hcall:yWh P c call){lit:Nat}{ops:Array Oper}{i:Nat}{l:List Nat}{o:Oper}{v:CV}{h1:Heap}(ho:ops[i]? =some o)(hw:zWn ops tmps o=some true)
  (hs:zXt c lit call H (ev c.glob tmps) o.op=some (.loud v h1)) (hx:zXb P c rd ops l (putC tmps o.dst v) h1 out tmps' H'):zXb P c rd ops (i::l) tmps H out tmps' H':=by
 intro N φ St w a ro R hg hr ht;simp only[wpOpsIn,ho];rw[zX6 ht hw];refine vW7 hc.ty hcall hs R hg (fun x _=>yXf hg ht x) ?_
 intro φ1 St1 w1 u l1 hu;exact Post.yYj l1 (zQ1 _ _ _) (hx N φ1 St1 w1 _ ro l1.rel (hg.mono l1.frm.toMono) (hr.mono l1.frm.toMono) (zKy (ht.mono l1.frm.toMono) o.dst hu))
theorem zXb.panic{call:Who→List CV→Heap→Ans}(hcall:yWh P c call){lit:Nat}{ops:Array Oper}{i:Nat}{l:List Nat}{o:Oper}{v:CV}{h1:Heap}(ho:ops[i]? =some o)(hw:zWn ops tmps o=some true)
  (hs:zXt c lit call H (ev c.glob tmps) o.op=some (.panic v h1)):zXb P c rd ops (i::l) tmps H (.panic v) tmps h1:=by
 intro N φ St w a ro R hg hr ht;simp only[wpOpsIn,ho];rw[zX6 ht hw];refine wKq hcall hs R hg (fun x _=>yXf hg ht x) ?_
 intro φ1 St1 w1 u l1 hu;exact Post.plain l1 ⟨⟨u,rfl,hu⟩,ht.mono l1.frm.toMono,rfl⟩
end
end Go.Eng
/- Calls, and loops over functions. -/
namespace Go.Eng
set_option linter.unusedVariables false
section
variable {P:Program} {N:Nat} {φ:Phi} {St:Stab} {H:Heap} {w:World} {c:Cfg}
theorem Rel.elsewhere(R:Rel N φ St H w){w':World}(hs:w.heap.size≤w'.heap.size)(hold:∀r b e,φ b=some e→e.has r→w'.heap[r]? =w.heap[r]?)(hst:∀r j,St r j→w'.cell? ⟨r,j,none⟩=w.cell? ⟨r,j,none⟩):
  Rel N φ St H w'∧Mono φ St w φ St w':=by
 have m:Mono φ St w φ St w':=⟨fun _=>.refl _,fun _ _ h=>h,hst⟩
 refine⟨⟨R.dom,R.dead, ?_, ?_, ?_,R.inj, ?_,R.stOwn,R.stTail,Kf R.start hs,R.void,fun b rs hb=>(R.rows b rs hb).step m (fun r hr=>hold r b _ hb hr) (fun _ _ _ h=>h),R.rdom⟩,m⟩
 ·intro b r base size hb
  obtain⟨h1,cs,a,e,h2,h3,h4,h5,h6⟩:=R.own b r base size hb;exact⟨h1,cs,a,e,h2,by rw[hold r b _ hb rfl];exact h3,h4,h5,fun j c hc=>let⟨v,a,b⟩:=h6 j c hc;⟨v,a,b.mono m⟩⟩
 ·intro k r used u size hb
  obtain⟨h1,h2,h3,a,e,h4,h5⟩:=R.tail k r used u size hb;exact⟨h1,h2,h3,a,e,by rw[hold r k _ hb rfl];exact h4,h5⟩
 ·intro b r hb
  obtain⟨h1,o,O,h2,h3,h4⟩:=R.obj b r hb;exact⟨h1,o,O,h2,by rw[hold r b _ hb rfl];exact h3,h4.mono m⟩
 ·intro r j hs';have:=R.stLt r j hs';omega
theorem Rel.vZu(R:Rel N φ St H w)(O:Obj):Rel N φ St H (w.alloc O)∧Frm H.length φ St w φ St (w.alloc O):=by
 have⟨R',m⟩:=R.elsewhere (w':=w.alloc O) (by simp) (fun r b e hb he=>zX1 w O r (R.lt hb he).2) (fun r j hs=>World.cell?_alloc_lt w O ⟨r,j,none⟩ (R.stLt r j hs))
 exact⟨R',Frm.quiet m (by simp) (fun r hr _=>zX1 w O r hr) rfl rfl rfl⟩
theorem Left.vYf{φ0:Phi}{St0:Stab}{H0:Heap}{w0:World}(l:Left N φ0 St0 H0 w0 H φ St w){r:Nat}(hr:w0.heap.size≤r)(hw:w.heap[r]? =some (.deferred (some [])))(hno:∀b e,φ b=some e→¬e.has r):
    Left N φ0 St0 H0 w0 H φ St (w.putObj r (.deferred none))∧Mono φ St w φ St (w.putObj r (.deferred none)):=by
  have hrl:r<w.heap.size:=(Array.getElem?_eq_some_iff.1 hw).1;have hother:∀k,k≠r→(w.putObj r (.deferred none)).heap[k]?=w.heap[k]?:=fun k hk=>World.putObj_heap_other hk
  have hcell:∀k j,(w.putObj r (.deferred none)).cell? ⟨k,j,none⟩=w.cell? ⟨k,j,none⟩:=by
    intro k j;by_cases hk:k=r
    · subst hk
      simp only[World.cell?,World.putObj_heap_same hrl,hw]
    ·exact World.cell?_of_block (w:=w) (a:=⟨k,j,none⟩) (hother k hk)
  have⟨R',m⟩:=l.rel.elsewhere (w':=w.putObj r (.deferred none)) (by simp) (fun k b e hb he=>hother k fun e'=>hno b e hb (e'▸he)) (fun k j _=>hcell k j)
  refine⟨⟨R', ?_,l.keep⟩,m⟩;have f:=l.frm
  exact { toMono:=f.toMono.trans m,size:=by simpa using f.size,stNew:=f.stNew,blkNew:=f.blkNew,keepBlk:=fun k hk hn=>by rw[hother k (by omega)];exact f.keepBlk k hk hn,
          idNew:=f.idNew,os:=f.os,output:=f.output,tape:=f.tape}
theorem yW7{φ0:Phi}{St0:Stab}{H0:Heap}{w0:World}{fn:Func}{tmps:Array Value}{Rr:Ending→World→Prop}{u:FrameMode}(hu:u≠ .run):∀(ms:List Deferred) (w:World),
  Left N φ0 St0 H0 w0 H φ St w→Marks w0.heap.size φ w ms→(∀w',Left N φ0 St0 H0 w0 H φ St w'→Mono φ St w φ St w'→LeavesInM (Fw none) 0 P fn tmps Rr [] u w')→LeavesInM (Fw none) 0 P fn tmps Rr ms u w:=by
 intro ms;induction ms with
 |nil=>intro w l _ k;exact k w l (.refl _ _ _)
 | cons d ms ih=>
  intro w l hm k;obtain⟨r,rfl,h2,h3,h4⟩:=hm.1 d (by simp)
  have⟨l',m⟩:=l.vYf h2 h3 h4;refine⟨hu, .inl ⟨r,_,rfl,run_takeDeferred h3,ih _ l' ⟨fun d' hd'=>?_,(Jz.1 hm.2).2⟩ fun w' l2 m2=>k w' l2 (m.trans m2)⟩⟩
  obtain⟨r',e1,e2,e3,e4⟩:=hm.1 d' (by simp[hd'])
  have hne:r'≠r:=fun e=>by
   have:=(Jz.1 hm.2).1 d' hd';rw[e1,e]at this;exact this rfl
  exact⟨r',e1,e2,by rw[World.putObj_heap_other hne];exact e3,e4⟩
theorem zQo.body(hc:c.Ok P){f:FuncId}{fd:XFunc}(hfd:c.code f=some fd){args t cs:List CV}{H':Heap}{o:Out}(ho:o= .normal∨o= .ret)
  (hx:fd.body.ok→zQm P c none fd.body (args++List.replicate (fd.ntmps-args.length) zWt) H o t H') (hres:zXj c.ty H' t fd.results=some cs):zQo P c (.fn f) args H .ret [oneOf cs] H':=by
 obtain⟨fn',hf,hn,hb,hnt,hrs,hok⟩:=hc.code f fd hfd;refine⟨yXh hf hn hb,fun N φ St w us R hg hu=>callsIn_wide (n:=0)|>.1 (callsIn_of_wp_marks (F:=Fw none) hf hb trivial ?_)⟩
 have hul:=hu.length;have ht0:VRL φ St w (args++List.replicate (fd.ntmps-args.length) zWt) (us.toArray++Array.replicate (fn'.ntmps-us.toArray.size) undef).toList:=by
  simp only[Wp,Wi,Kj];rw[hnt,←hul];exact hu.append (VRL.replicate _ zKj)
 refine wpIn_mono (hx hok N φ St w {tmps:=us.toArray++Array.replicate (fn'.ntmps-us.toArray.size) undef,defers:=[]} none R hg trivial ht0) fun e a1 w1 p=>?_
 obtain⟨φ1,St1,l1,ms,hm,hout⟩:=p;have key:VRL φ1 St1 w1 t a1.tmps.toList→a1.defers=ms++[]→LeavesInM (Fw none) 0 P fn' a1.tmps (yZa N φ St H w .ret [oneOf cs] H') a1.defers .returning w1:=by
  intro ht1 hd1;rw[hd1,Jq];refine yW7 (by simp) ms w1 l1 hm fun w' l2 m2=>?_
  obtain⟨v,hv1,hv2⟩:=yXr hc l2.rel (ht1.mono m2) hrs hres;exact⟨v,hv1,φ1,St1,l2,_,rfl,rfl,hv2⟩
 rcases ho with rfl|rfl<;>cases e<;>simp only[yZf]at hout
 ·exact key hout.1 hout.2
 ·exact key hout.1 hout.2
theorem zQo.wYq(hc:c.Ok P){f:FuncId}{fd:XFunc}(hfd:c.code f=some fd){args t:List CV}{H':Heap}{v:CV}
  (hx:fd.body.ok→zQm P c none fd.body (args++List.replicate (fd.ntmps-args.length) zWt) H (.panic v) t H'):zQo P c (.fn f) args H (.panic v) [] H':=by
 obtain⟨fn',hf,hn,hb,hnt,hrs,hok⟩:=hc.code f fd hfd;refine⟨yXh hf hn hb,fun N φ St w us R hg hu=>callsIn_wide (n:=0)|>.1 (callsIn_of_wp_marks (F:=Fw none) hf hb trivial ?_)⟩
 have hul:=hu.length;have ht0:VRL φ St w (args++List.replicate (fd.ntmps-args.length) zWt) (us.toArray++Array.replicate (fn'.ntmps-us.toArray.size) undef).toList:=by
  simp only[Wp,Wi,Kj];rw[hnt,←hul];exact hu.append (VRL.replicate _ zKj)
 refine wpIn_mono (hx hok N φ St w {tmps:=us.toArray++Array.replicate (fn'.ntmps-us.toArray.size) undef,defers:=[]} none R hg trivial ht0) fun e a1 w1 p=>?_
 obtain⟨φ1,St1,l1,ms,hm,hout⟩:=p;cases e<;>simp only[yZf]at hout;obtain⟨⟨u,rfl,hu⟩,_,hd⟩:=hout;show LeavesInM (Fw none) 0 P fn' a1.tmps _ a1.defers (.panicking _) w1
 rw[hd,Jq];refine yW7 (by simp) ms w1 l1 hm fun w' l2 m2=>?_
 exact⟨φ1,St1,l2,_,u,rfl,rfl,hu.mono m2⟩
theorem zQo.sum(hc:c.Ok P){f:FuncId}{F:Heap→List CV→Option (CV×Heap)}(hF:c.sum f=some F){args:List CV}{v:CV}{H':Heap}(hr:F H args=some (v,H')):zQo P c (.fn f) args H .ret [v] H':=
 let⟨h1,h2⟩:=hc.sum f F hF
 ⟨h1,fun N φ St w us R hg hu=>h2 N φ St H w args us v H' R hg hu hr⟩
theorem yJr(R:Rel N φ St H w){l:Nat}{f:FuncId}{ts:List CV}{ps:Array Tmp}{a b:X}{st:LoopState}{pend:Option Jump}(hl:H[l]? =some (.loop f ts ps a b st pend)){r:Nat}(hφ:φ l=some (.obj r)):
  ∃g dr tv,w.heap[r]?=some (.loop {state:=st,pending:=pend.map Jump.code,fn:=g,tmps:=tv.toArray,params:=ps,assign:=a.code,body:=b.code,defers:=dr})∧VRL φ St w ts tv∧a.ok∧b.ok:=by
 obtain⟨_,o,O,h1,h2,h3⟩:=R.obj l r hφ;rw[hl]at h1;simp at h1;subst h1;cases h3 with
 |loop _ _ _ tv _ _ _ _ _ dr ht ha hb=>exact⟨_,dr,tv,h2,ht,ha,hb⟩
theorem yX3(R:Rel N φ St H w){l:Nat}{f:FuncId}{ts:List CV}{ps:Array Tmp}{a b:X}{st:LoopState}{pend:Option Jump}(hl:H[l]?=some (.loop f ts ps a b st pend)){r:Nat}(h:φ l=some (.obj r)∨φ l=some .dead):φ l=some (.obj r):=by
 rcases h with h|h
 ·exact h
 ·have:=R.dead l h;rw[hl]at this;simp at this
theorem Left.loop(P:Program)(R:Rel N φ St H w){l r:Nat}(hφ:φ l=some (.obj r)){f g:FuncId}{ts:List CV}{tv:List Value}{ps:Array Tmp}{a b:X}(st:LoopState)(pend:Option Jump)(dr:Nat)(ht:VRL φ St w ts tv)(ha:a.ok)(hb:b.ok)
  {O:Loop} (hw:w.heap[r]?=some (.loop O)):Left N φ St H w (H.set l (.loop f ts ps a b st pend)) φ St (w.putObj r (.loop {state:=st,pending:=pend.map Jump.code,fn:=g,tmps:=tv.toArray,params:=ps,assign:=a.code,body:=b.code,defers:=dr})):=by
 obtain⟨w',h1,h2,h3⟩:=R.putObj (P:=P) hφ (.loop f ts ps a b st pend) (.loop {state:=st,pending:=pend.map Jump.code,fn:=g,tmps:=tv.toArray,params:=ps,assign:=a.code,body:=b.code,defers:=dr}) (.loop f g ts tv ps a b st pend dr ht ha hb);rw[run_setObj_loop _ hw]at h1
 simp at h1;subst h1;exact⟨h2,h3,Keep.set (by rw[hφ];simp) _⟩
theorem vJs{φ:Phi}{St:Stab}{w:World}:∀(ps:List Tmp) (args ts:List CV) (us:List Value) (tv:Array Value),VRL φ St w args us→VRL φ St w ts tv.toList→
  VRL φ St w ((ps.zip args).foldl (fun T p=>T.set p.1 p.2) ts) ((ps.zip us).foldl (fun(tmps:Array Value) (p:Tmp×Value)=>tmps.setIfInBounds p.1 p.2) tv).toList:=by
 intro ps;induction ps with
 |nil=>intro args ts us tv _ ht;simpa using ht
 | cons p ps ih=>
  intro args ts us tv ha ht;cases ha with
  |nil=>simpa using ht
  |cons c v cs vs h hs=>
   simp only[List.zip_cons_cons,List.foldl_cons];refine ih cs _ vs _ hs ?_;simpa using ht.set p h
theorem zQo.round{l:Nat}{f:FuncId}{ts args:List CV}{ps:Array Tmp}{a b:X}{pend:Option Jump}(hl:H[l]? =some (.loop f ts ps a b .ready pend))(hn:args.length=ps.size){t1 t2 vs:List CV}{h1 h2 h3 h4:Heap}{o:Out}
  (ha:a.ok→zQm P c (some l) a ((ps.toList.zip args).foldl (fun T p=>T.set p.1 p.2) ts) H .normal t1 h1) (hb:wJp l h1=some h2) (hx:b.ok→zQm P c (some l) b t1 h2 o t2 h3) (he:endC l o h3=some (.ret,vs,h4)):
  zQo P c (.yl l) args H .ret vs h4:=by
 intro N φ St w us r R hg hu hφ;obtain⟨g,dr,tv,hw,htv,hoka,hokb⟩:=yJr R hl hφ;have hsz:us.toArray.size=ps.size:=by have:=hu.length;simp;omega
 refine⟨_,_,_,_,run_yield hw hsz, ?_⟩;refine roundIn_of_wpIn (F:=Fence.wide) trivial ?_;have hfold:VRL φ St w ((ps.toList.zip args).foldl (fun T p=>T.set p.1 p.2) ts) ((ps.zip us.toArray).foldl (fun(tmps:Array Value) (x:Tmp×Value)=>match x with|(t,a)=>tmps.setIfInBounds t a) tv.toArray).toList:=by
  have:=vJs ps.toList args ts us tv.toArray hu (by simpa using htv)
  rw[←Array.foldl_toList];simpa[Array.toList_zip]using this
 refine wpIn_mono (ha hoka N φ St w {tmps:=_,defers:=[]} (some r) R hg (.inl hφ) hfold) fun e a1 w1 p=>?_
 obtain⟨rfl,φ1,St1,l1,ms,hm,ht1,hd1⟩:=p.normal;unfold wJp at hb;split at hb<;>(try (simp at hb;done))
 rename_i f1 ts1 ps1 a1' b1' pend1 hl1;simp at hb;subst hb;have hφ1:φ1 l=some (.obj r):=by
  have e:=l1.frm.ext l;rw[hφ]at e;exact yX3 l1.rel hl1 e.obj
 obtain⟨g1,dr1,tv1,hw1,htv1,hoka1,hokb1⟩:=yJr l1.rel hl1 hφ1;refine⟨_,run_beginRound hw1 rfl, ?_⟩;have l2:=Left.loop P l1.rel hφ1 (f:=f1) (g:=g1) (ps:=ps1) .busy pend1 dr1 htv1 hoka1 hokb1 hw1
 have l12:=l1.trans l2;refine wpIn_mono (hx hokb N φ1 St1 _ a1 (some r) l2.rel (hg.mono l12.frm.toMono) (.inl hφ1) (ht1.mono l2.frm.toMono)) fun e a2 w3 p=>?_
 obtain⟨φ3,St3,l3,ms3,hm3,hout⟩:=p;have l13:=l12.trans l3;unfold endC at he;split at he<;>(try (simp at he;done))
 rename_i f3 ts3 ps3 a3 b3 st3 pend3 jmp hl3 hj;simp at he;obtain⟨rfl,rfl⟩:=he;have hφ3:φ3 l=some (.obj r):=by
  have e:=l13.frm.ext l;rw[hφ]at e;exact yX3 l13.rel hl3 e.obj
 obtain⟨g3,dr3,tv3,hw3,htv3,hoka3,hokb3⟩:=yJr l13.rel hl3 hφ3;have fin:∀(jc:Option Code),jc=jmp.map Jump.code→∃v w',(Instr.endRound r jc).run P w3=.ok v w'∧yZa N φ St H w .ret [.bool jmp.isNone] (h3.set l (.loop f3 ts3 ps3 a3 b3 (if jmp.isNone then .ready else .done) jmp)) (.returned v) w':=by
  intro jc hjc;subst hjc;have l4:=Left.loop P l13.rel hφ3 (f:=f3) (g:=g3) (ps:=ps3) (if jmp.isNone then .ready else .done) jmp dr3 htv3 hoka3 hokb3 hw3
  refine⟨_,_,run_endRound _ hw3,φ3,St3, ?_,_,rfl,rfl, ?_⟩
  ·have:=l13.trans l4
   simpa using this
  ·simp only[Option.isNone_map];exact .bool _
 cases o<;>cases e<;>simp only[yZf]at hout<;>simp[Out.jump]at hj<;>subst hj
 ·exact fin none rfl
 ·obtain⟨rfl,_⟩:=hout;exact fin (some (.exit _)) rfl
 ·obtain⟨rfl,_⟩:=hout;exact fin (some (.goto _)) rfl
 ·exact fin (some .ret) rfl
theorem zQo.wXg{l:Nat}{f:FuncId}{ts:List CV}{ps:Array Tmp}{a b:X}{st:LoopState}{pend:Option Jump}(hl:H[l]? =some (.loop f ts ps a b st pend)):
  ∃o,H[l]?=some o∧∀N φ St w,Rel N φ St H w→φ l≠some .dead:=
 ⟨_,hl,fun N φ St w R hd=>by have:=R.dead l hd;rw[hl]at this;simp at this⟩
theorem Jump.wp{ro:Option Nat}{j:Jump}{Q:Exit→Act→World→Prop}{a:Act}{w:World}(h:∀e,(match j with| .ret=>e=.ret| .exit id=>e=.exit id| .goto l=>e=.goto l)→Q e a w):j.code.wpIn (Fw ro) 0 P Q a w:=by
 cases j with
 |ret=>exact wpIn_ret (h .ret rfl)
 |exit id=>exact wpIn_exit (h (.exit id) rfl)
 |goto l=>exact wpIn_goto (h (.goto l) rfl)
theorem zQm.vWk{rd:Option Nat}{g:Operand}{ps:Array Tmp}{a b:X}{tmps:List CV}(hfn:FuncId)(hin:inLoop rd H=true){gf:FuncId}{first captured:List CV}(hg0:ev c.glob tmps g= .func gf first captured){o:Out}{vs:List CV}{h1:Heap}
  (hcall:zQo P c (.fn gf) (first++[.yield H.length]++captured) (H++[.loop hfn tmps ps a b .ready none]) o vs h1) (hoka:a.ok) (hokb:b.ok) {out:Out} {h2:Heap}
  (hend:(o=.ret∧yX7 H.length tmps h1=some (out,tmps,h2))∨∃v,o=.panic v∧out=.panic v∧h2=h1):zQm P c rd (.rangeFunc g ps a b) tmps H out tmps h2:=by
 intro N φ St w act ro R hg hr ht;refine wpIn_rangeFunc fun fn _=>?_
 have hgv:=yXf hg ht g;rw[hg0]at hgv;have enter:∃(l:Nat) (mark:List Deferred) (w₁:World) (φ1:Phi),(Instr.enterLoop fn act.tmps ps a.code b.code (Fw ro).round).run P w= .ok (l,mark) w₁∧
   Left N φ St H w (H++[.loop hfn tmps ps a b .ready none]) φ1 St w₁∧φ1 H.length=some (.obj l)∧Marks w.heap.size φ1 w₁ mark:=by
  cases ro with
  | none=>
   obtain⟨R0,F0⟩:=R.vZu (.deferred (some []));have hrel:ObjRel φ St (w.alloc (.deferred (some []))) (.loop hfn tmps ps a b .ready none) (.loop {state:=.ready,pending:=none,fn,tmps:=act.tmps,params:=ps,assign:=a.code,body:=b.code,defers:=w.heap.size}):=by
    have:=ObjRel.loop (φ:=φ) (St:=St) (w:=w.alloc (.deferred (some []))) hfn fn tmps act.tmps.toList ps a b .ready none w.heap.size (ht.mono F0.toMono) hoka hokb;simpa using this
   obtain⟨R1,F1⟩:=R0.push (.obj (w.alloc (.deferred (some []))).heap.size) (.loop hfn tmps ps a b .ready none) (.loop {state:=.ready,pending:=none,fn,tmps:=act.tmps,params:=ps,assign:=a.code,body:=b.code,defers:=w.heap.size}) (fun _=>Iff.rfl) (by simp) (by simp) (by simp) (fun r hr=>hrel)
   refine⟨_,_,_,_,run_enterLoop_outer fn act.tmps ps a.code b.code,⟨R1,F0.trans F1 (Qe _),Keep.append _ _ _⟩,by simp[Phi.push],⟨fun d hd=>?_,by simp⟩⟩
   simp at hd;subst hd;refine⟨_,rfl,Qe _, ?_,fun b' e hb' he=>?_⟩
   ·rw[zX1 _ _ _ (by simp),zYt]
   ·unfold Phi.push at hb'
    split at hb'
    ·simp at hb';subst hb';simp[Ent.has]at he
    ·have:=(R.lt hb' he).2;omega
  | some l0=>
   cases rd with
   |none=>exact absurd hr (by simp[RdOk])
   | some bl=>
    simp only[inLoop]at hin;split at hin<;>(try (simp at hin;done))
    rename_i f0 ts0 ps0 a0 b0 st0 pd0 hl0;have hφ0:=yX3 R hl0 hr;obtain⟨g0,dr0,tv0,hw0,_⟩:=yJr R hl0 hφ0;have hrel:ObjRel φ St w (.loop hfn tmps ps a b .ready none) (.loop {state:=.ready,pending:=none,fn,tmps:=act.tmps,params:=ps,assign:=a.code,body:=b.code,defers:=dr0}):=by
     have:=ObjRel.loop (φ:=φ) (St:=St) (w:=w) hfn fn tmps act.tmps.toList ps a b .ready none dr0 ht hoka hokb;simpa using this
    obtain⟨R1,F1⟩:=R.push (.obj w.heap.size) (.loop hfn tmps ps a b .ready none) (.loop {state:=.ready,pending:=none,fn,tmps:=act.tmps,params:=ps,assign:=a.code,body:=b.code,defers:=dr0}) (fun _=>Iff.rfl) (by simp) (by simp) (by simp) (fun r hr=>hrel)
    refine⟨w.heap.size,[],_,_, ?_,⟨R1,F1,Keep.append _ _ _⟩,by simp[Phi.push], .nil _ _ _⟩
    show Sem.run P (Instr.enterLoop fn act.tmps ps a.code b.code (some l0)) w=_;unfold Instr.enterLoop;simp only[Sem.run_bind,run_getLoop hw0,Result.andThen,Sem.run_pure,run_newObj_alloc]
 obtain⟨l,mark,w₁,φ1,he,l1,hφl,hmk⟩:=enter;generalize hgv':act.eval g=gv at hgv;cases hgv with|func _ _ _ us cs hus hcs=>
 obtain⟨hent,hC⟩:=hcall;have hargs:VRL φ1 St w₁ (first++[.yield H.length]++captured) (us++[Value.func (.yield l) #[] #[]]++cs):=
  ((hus.mono l1.frm.toMono).append (.cons _ _ _ _ (.yield _ _ hφl) .nil)).append (hcs.mono l1.frm.toMono)
 refine⟨l,mark,w₁,{target:=.fn (.func gf) cs.toArray,args:=(us++[Value.func (.yield l) #[] #[]]).toArray},w₁,gf,(us++[Value.func (.yield l) #[] #[]]++cs).toArray,w₁,he, ?_,fun _ _=>trivial, ?_,by simp[Fw,Fence.wide], ?_⟩
 ·have hy:act.eval (.const (.func (.yield l) #[] #[]))= .func (.yield l) #[] #[]:=rfl
  have ha:(rangeCall g l).args.map act.eval=#[.func (.yield l) #[] #[]]:=by simp[hy]
  simp only[resolve,ha];simp only[hgv',Deferred.ofValue,Sem.run_pure];congr 2;apply Ke;simp
 ·simp only[invoke]
  rw[hent];congr 2;apply Ke;simp
 ·refine yJ1 ((hC N φ1 St w₁ _ l1.rel (hg.mono l1.frm.toMono) hargs).mono ?_)
  intro e w3 hp;cases e with
  |outgrown=>exact hp.elim
  | panicked ch=>
   obtain⟨φ3,St3,l3,c1,v,ho,rfl,hv⟩:=hp;rcases hend with⟨ho',_⟩|⟨v',ho',rfl,rfl⟩
   ·rw[ho']at ho;simp at ho
   ·rw[ho']at ho;simp at ho;subst ho
    exact⟨φ3,St3,l1.trans l3,mark,hmk.step l3.frm,⟨v,rfl,hv⟩,ht.mono (l1.trans l3).frm.toMono,rfl⟩
  | returned v=>
   obtain⟨φ3,St3,l3,c1,ho,_,hv⟩:=hp;have hend:yX7 H.length tmps h1=some (out,tmps,h2):=by
    rcases hend with⟨_,hend⟩|⟨v',ho',_,_⟩
    ·exact hend
    ·rw[ho']at ho;simp at ho
   unfold yX7 at hend;split at hend<;>(try (simp at hend;done))
   rename_i f3 ts3 ps3 a3 b3 st3 pend3 hl3;have hφ3:φ3 H.length=some (.obj l):=by
    have e:=l3.frm.ext H.length;rw[hφl]at e;exact yX3 l3.rel hl3 e.obj
   obtain⟨g3,dr3,tv3,hw3,htv3,hoka3,hokb3⟩:=yJr l3.rel hl3 hφ3;split at hend<;>(try (simp at hend;done))
   rename_i hnb;have l4:=Left.loop P l3.rel hφ3 (f:=f3) (g:=g3) (ps:=ps3) .exhausted pend3 dr3 htv3 hoka3 hokb3 hw3;have l14:=(l1.trans l3).trans l4;have hm4:=(hmk.step l3.frm).step l4.frm
   simp at hend;obtain⟨hout,rfl⟩:=hend;refine⟨_,_,run_endLoop hw3 hnb, ?_⟩;cases pend3 with
   |none=>
    simp at hout;subst hout;exact⟨φ3,St3,l14,mark,hm4,ht.mono l14.frm.toMono,rfl⟩
   |some j=>
    simp at hout;subst hout;refine Jump.wp fun e he'=>?_
    cases j<;>simp only at he'<;>subst he'
    ·exact⟨φ3,St3,l14,mark,hm4,ht.mono l14.frm.toMono,rfl⟩
    ·exact⟨φ3,St3,l14,mark,hm4,rfl,ht.mono l14.frm.toMono,rfl⟩
    ·exact⟨φ3,St3,l14,mark,hm4,rfl,ht.mono l14.frm.toMono,rfl⟩
end
end Go.Eng
/- Values that hang on no place, and what is taken out of the clean heap. -/
namespace Go.Eng
set_option linter.unusedVariables false
def Phi0:Phi:=fun _=>none
theorem zKm{xs ys:List CV}:zQ2 (xs++ys)=(zQ2 xs&&zQ2 ys):=by
 induction xs with
 |nil=>simp[zQ2]
 |cons x xs ih=>simp[zQ2,ih,Bool.and_assoc]
theorem zXf{c:CV}(h:zWc c=true):zQ2 c.flat=true:=by
 cases c<;>simp_all[CV.flat,zQ2,zWc]
theorem xXs{xs:List CV}(h:zQ2 xs=true):zQ2 (xs.flatMap CV.flat)=true:=by
 induction xs with
 |nil=>rfl
 |cons x xs ih=>
  simp only[zQ2,Qc]at h;simp only[Qo,zKm,Qc];exact⟨zXf h.1,ih h.2⟩
section
variable {φ φ':Phi} {St St':Stab} {w:World}
theorem At.more{a:Addr}{vs:List Value}(hst:∀r j,St r j→St' r j)(h:At St w a vs):At St' w a vs:=⟨h.1,fun j v hv=>⟨hst _ _ (h.2 j v hv).1,(h.2 j v hv).2⟩⟩
theorem VR.pure{c:CV}{v:Value}(hst:∀r j,St r j→St' r j)(h:VR φ St w c v):zWc c=true→VR φ' St' w c v:=by
 refine VR.rec (motive_1:=fun c v _=>zWc c=true→VR φ' St' w c v) (motive_2:=fun c v _=>zQ2 c=true→VRL φ' St' w c v) ?junk ?bool ?int ?str ?nilptr ?ptr ?ptrDead ?rop ?slice ?sref ?srefDead ?gref ?grefDead ?gptr ?gptrDead ?map ?mapDead
  ?nilmap ?func ?yield ?yieldDead ?nilfunc ?iface ?niliface ?agg ?tuple ?nil ?cons h
 case junk=>exact fun _ _=>.junk _
 case bool=>exact fun _ _=>.bool _
 case int=>exact fun _ _ _=>.int _ _
 case str=>exact fun s t h _=>.str s t h
 case nilptr=>exact fun _=>.nilptr
 case ptr=>intros;simp[zWc]at *
 case ptrDead=>intros;simp[zWc]at *
 case rop=>intro c a vs hat _ ih hp;exact .rop c a vs (hat.more hst) (ih (zXf (by simpa[zWc]using hp)))
 case slice=>
  intro esz xs tok full a cap vs hat _ hsz hcap hfull htok ih hp;simp only[zWc,Qc,Option.isNone_iff_eq_none]at hp;obtain⟨rfl,hp⟩:=hp;exact .slice esz xs none full a cap vs (hat.imp id fun⟨a',e,h⟩=>⟨a',e,h.more hst⟩) (ih (xXs hp)) hsz hcap hfull trivial
 case sref=>intros;simp[zWc]at *
 case srefDead=>intros;simp[zWc]at *
 case gref=>intros;simp[zWc]at *
 case grefDead=>intros;simp[zWc]at *
 case gptr=>intros;simp[zWc]at *
 case gptrDead=>intros;simp[zWc]at *
 case map=>intros;simp[zWc]at *
 case mapDead=>intros;simp[zWc]at *
 case nilmap=>exact fun _=>.nilmap
 case func=>intro f xs ys us vs _ _ hu hv hp;simp only[zWc,Qc]at hp;exact .func f xs ys us vs (hu hp.1) (hv hp.2)
 case yield=>intros;simp[zWc]at *
 case yieldDead=>intros;simp[zWc]at *
 case nilfunc=>exact fun _=>.nilfunc
 case iface=>intro t c v _ ih hp;exact .iface t c v (ih (by simpa[zWc]using hp))
 case niliface=>exact fun _=>.niliface
 case agg=>intro cs vs _ ih hp;exact .agg cs vs (ih (by simpa[zWc]using hp))
 case tuple=>intro cs vs _ ih hp;exact .tuple cs vs (ih (by simpa[zWc]using hp))
 case nil=>exact fun _=>.nil
 case cons=>intro c v cs vs _ _ ih ihs hp;simp only[zQ2,Qc]at hp;exact .cons c v cs vs (ih hp.1) (ihs hp.2)
theorem VRL.pure{cs:List CV}{vs:List Value}(hst:∀r j,St r j→St' r j)(h:VRL φ St w cs vs)(hp:zQ2 cs=true):VRL φ' St' w cs vs:=by
 induction cs generalizing vs with
 |nil=>cases h;exact .nil
 |cons c cs ih=>
  simp only[zQ2,Qc]at hp;cases h with|cons _ v _ vs h hs=>exact .cons _ _ _ _ (h.pure hst hp.1) (ih hs hp.2)
end
def wZu(φ:Phi)(H:Heap)(r j:Nat):Prop:=∃(b:Nat) (rs:List Row) (css:List (List CV)) (k:Nat) (row:Row) (cs:List CV) (base lim:Nat),φ b=some (.rows rs)∧H[b]?=some (.rows css)∧rs[k]?=some row∧css[k]?=some cs∧row.blk=some (r,base,lim)∧base≤j∧j<base+cs.length
theorem wZu.ent{φ:Phi}{H:Heap}{r j:Nat}(h:wZu φ H r j):∃b rs,φ b=some (.rows rs)∧(Ent.rows rs).has r:=by
 obtain⟨b,rs,css,k,row,cs,base,lim,h1,h2,h3,h4,h5,_⟩:=h;exact⟨b,rs,h1,row,Ql h3,base,lim,h5⟩
def Froz(φ:Phi)(St:Stab)(H:Heap):Stab:=fun r j=>St r j∨(∃b base size cs,φ b=some (.own r base size)∧H[b]?=some (.cells cs)∧base≤j∧j<base+cs.length)∨wZu φ H r j
theorem Froz.of{φ:Phi}{St:Stab}{H:Heap}:∀r j,St r j→Froz φ St H r j:=fun _ _ h=>.inl h
section
variable {P:Program} {N:Nat} {φ:Phi} {St:Stab} {H:Heap} {w:World}
theorem yKx{c:CV}(h:c.one=true):c.flat=[c]:=by cases c<;>simp_all[CV.one,CV.flat]
def OutC(φ:Phi)(St:Stab)(H:Heap)(w:World)(cs cs':List CV):Prop:=
 cs'.length=cs.length∧cs'.all CV.one=true∧zQ2 cs'=true∧∀us,VRL φ St w cs us→VRL Phi0 (Froz φ St H) w cs' us
theorem OutC.append{as as' bs bs':List CV}(h:OutC φ St H w as as')(k:OutC φ St H w bs bs'):OutC φ St H w (as++bs) (as'++bs'):=by
 obtain⟨a1,a2,a3,a4⟩:=h;obtain⟨b1,b2,b3,b4⟩:=k;refine⟨by simp[a1,b1],by simp[a2,b2],by simp[zKm,a3,b3],fun us hu=>?_⟩
 have e:us=us.take as.length++us.drop as.length:=(Ja _ _).symm;have h1:=hu.take as.length;have h2:=hu.drop as.length;simp at h1 h2;rw[e];exact(a4 _ h1).append (b4 _ h2)
theorem OutC.nil:OutC φ St H w [] []:=⟨rfl,rfl,rfl,fun us hu=>by cases hu;exact .nil⟩
end
end Go.Eng
/- Calls that hang on no place. -/
namespace Go.Eng
set_option linter.unusedVariables false
section
variable {P:Program} {c:Cfg}
def zW2(P:Program)(c:Cfg)(f:FuncId)(args:List CV)(v:CV):Prop:=
 yYr P f∧∀(St:Stab) (w:World) (us:List Value),(∀r j,St r j→r<w.heap.size)→zYl c Phi0 St w→VRL Phi0 St w args us→
  Calls P f us.toArray w fun e w'=>∃u St',e=.returned u∧Frm 0 Phi0 St w Phi0 St' w'∧(∀r j,St' r j→r<w'.heap.size)∧VR Phi0 St' w' v u
def zZa(c:Cfg):Prop:=∀i v,c.glob i=some v→zWc v=true
theorem Rel.xYw{St:Stab}{w:World}(h:∀r j,St r j→r<w.heap.size):Rel w.heap.size Phi0 St [] w:=
 ⟨by simp[Phi0],by simp[Phi0],by simp[Phi0],by simp[Phi0],by simp[Phi0],by simp[Phi0],h,by simp[Phi0],by simp[Phi0],Qe _,by simp[Phi0],by simp[Phi0],by simp⟩
theorem zW2.call{f:FuncId}{args:List CV}{v:CV}(h:zW2 P c f args v)(hg:zZa c)(ha:zQ2 args=true)(hv:zWc v=true)(H:Heap):zQo P c (.fn f) args H .ret [v] H:=by
  obtain⟨hent,hC⟩:=h;refine⟨hent,fun N φ St w us R hgr hu=>(hC St w us R.stLt (fun i v hi=>(hgr i v hi).pure (fun _ _ h=>h) (hg i v hi)) (hu.pure (fun _ _ h=>h) ha)).mono ?_⟩
  rintro e w' ⟨u,St',rfl,f,hst,hvr⟩;have hcase:∀r j,St' r j→St r j∨w.heap.size≤r:=fun r j h=>by
    rcases f.stNew r j h with h|h|⟨b,e,hb,_⟩
    ·exact .inl h
    ·exact .inr h
    ·simp[Phi0]at hb
  have hheap:∀r,r<w.heap.size→w'.heap[r]?=w.heap[r]?:=fun r hr=>f.keepBlk r hr (by simp[Phi0])
  have m:Mono φ St w φ St' w':=⟨fun _=>.refl _,f.st,f.keep⟩
  refine⟨φ,St',⟨?_, ?_,Keep.refl _ _⟩,v,rfl,rfl,hvr.pure (fun _ _ h=>h) hv⟩
  · refine⟨R.dom,R.dead, ?_, ?_, ?_,R.inj,hst, ?_, ?_,Kf R.start f.size,R.void,fun b rs hb=>(R.rows b rs hb).step m (fun r hr=>hheap r (R.lt hb hr).2) (fun r j hr h=>(hcase r j h).resolve_right (fun x=>by have:=(R.lt hb hr).2;omega)),R.rdom⟩
    · intro b r base size hb
      obtain⟨h1,cs,a,e,h2,h3,h4,h5,h6⟩:=R.own b r base size hb;exact⟨h1,cs,a,e,h2,by rw[hheap r (R.lt hb rfl).2];exact h3,h4,h5,fun j c hc=>let⟨v,a,b⟩:=h6 j c hc;⟨v,a,b.mono m⟩⟩
    · intro k r used u size hb
      obtain⟨h1,h2,h3,a,e,h4,h5⟩:=R.tail k r used u size hb;exact⟨h1,h2,h3,a,e,by rw[hheap r (R.lt hb rfl).2];exact h4,h5⟩
    · intro b r hb
      obtain⟨h1,o,O,h2,h3,h4⟩:=R.obj b r hb;exact⟨h1,o,O,h2,by rw[hheap r (R.lt hb rfl).2];exact h3,h4.mono m⟩
    · intro b r base size j hb hs
      rcases hcase r j hs with hs|hs
      ·exact R.stOwn b r base size j hb hs
      ·have:=(R.lt hb rfl).2;omega
    · intro k r used u size j hb hs
      rcases hcase r j hs with hs|hs
      ·exact R.stTail k r used u size j hb hs
      ·have:=(R.lt hb rfl).2;omega
  · exact { toMono:=m,size:=f.size,stNew:=fun r j h=>(hcase r j h).imp id .inl,blkNew:=fun b e r hb he=> .inl ⟨b,e,hb,he⟩,keepBlk:=fun r hr _=>hheap r hr,
            idNew:=fun _ _ h=>h,os:=f.os,output:=f.output,tape:=f.tape}
end
end Go.Eng
/- A call that was gone through in an empty place, in a larger one: what it makes stands behind what is there. -/
namespace Go.Eng
set_option linter.unusedVariables false
mutual
def CV.shift(n:Nat):CV→CV
 | .ptr b off=>.ptr (n+b) off
 | .rop v=>.rop (v.shift n)
 | .slice esz xs tok full=>.slice esz (CV.shifts n xs) (match tok with
  |some k=>some (n+k)
  |none=>none) full
 | .sref esz b off len cap ex=>.sref esz (n+b) off len cap ex
 | .gref esz b k off len gen=>.gref esz (n+b) k off len gen
 | .gptr b k off gen=>.gptr (n+b) k off gen
 | .map b=>.map (n+b)
 | .func f xs ys=>.func f (CV.shifts n xs) (CV.shifts n ys)
 | .yield l=>.yield (n+l)
 | .iface t v=>.iface t (v.shift n)
 | .agg cs=>.agg (CV.shifts n cs)
 | .tuple cs=>.tuple (CV.shifts n cs)
 |v=>v
def CV.shifts(n:Nat):List CV→List CV
 |[]=>[]
 |v::vs=>v.shift n::CV.shifts n vs
end
theorem CV.zWg(n:Nat):∀vs:List CV,CV.shifts n vs=vs.map (CV.shift n)
 |[]=>rfl
 |v::vs=>by simp[CV.shifts,CV.zWg n vs]
theorem CV.zK1(n:Nat)(v:CV):(v.shift n).flat=v.flat.map (CV.shift n):=by
 cases v<;>simp[CV.shift,CV.flat,CV.zWg]
theorem CV.xJw(n:Nat)(xs:List CV):(CV.shifts n xs).flatMap CV.flat=CV.shifts n (xs.flatMap CV.flat):=by
 rw[CV.zWg,CV.zWg];induction xs with
 |nil=>rfl
 |cons x xs ih=>simp only[Qg,Qo,Qw,ih,CV.zK1]
theorem VR.shift{φ φ':Phi}{St:Stab}{w:World}{n:Nat}(hφ:∀b e,φ b=some e→φ' (n+b)=some e){c:CV}{v:Value}(h:VR φ St w c v):VR φ' St w (c.shift n) v:=by
 refine VR.rec (motive_1:=fun c v _=>VR φ' St w (c.shift n) v) (motive_2:=fun c v _=>VRL φ' St w (CV.shifts n c) v) ?junk ?bool ?int ?str ?nilptr ?ptr ?ptrDead ?rop ?slice ?sref ?srefDead ?gref ?grefDead ?gptr ?gptrDead ?map ?mapDead
  ?nilmap ?func ?yield ?yieldDead ?nilfunc ?iface ?niliface ?agg ?tuple ?nil ?cons h
 case junk=>exact fun _=>.junk _
 case bool=>exact fun _=>.bool _
 case int=>exact fun _ _=>.int _ _
 case str=>exact fun s t h=>.str s t h
 case nilptr=>exact .nilptr
 case ptr=>intro b off r base size h;exact .ptr _ _ _ _ _ (hφ _ _ h)
 case ptrDead=>intro b off a h;exact .ptrDead _ _ _ (hφ _ _ h)
 case rop=>
  intro c a vs hat _ hvs;refine .rop _ a vs hat ?_;rw[CV.zK1,←CV.zWg];exact hvs
 case slice=>
  intro esz xs tok full a cap vs hat _ hsz hcap hfull htok hvs;have hl:(CV.shifts n xs).length=xs.length:=by rw[CV.zWg,Qh]
  simp only[CV.shift];rw[←hl];refine .slice esz _ _ full a cap vs (hat.imp (fun h=>by rw[h];rfl) id) (by rw[CV.xJw];exact hvs) ?_ (by rw[hl];exact hcap) (fun h=>by rw[hl];exact hfull h) ?_
  ·intro x hx
   rw[CV.zWg]at hx;obtain⟨y,hy,rfl⟩:=Ji.1 hx;rw[CV.zK1,Qh];exact hsz y hy
  ·rw[hl]
   cases tok with
   |none=>trivial
   | some k=>
    obtain⟨h1,h2,h3⟩:=htok;cases hk:φ k with
    |none=>exact absurd hk h1
    |some e=>
     have e1:=hφ k e hk;refine⟨by simp only[e1];simp,fun u hu=>?_,fun r used u size hu=>?_⟩
     ·simp only[e1]at hu;exact h2 u (by rw[hk];exact hu)
     ·simp only[e1]at hu;exact h3 r used u size (by rw[hk];exact hu)
 case sref=>intro esz b off len cap ex r base size rcap h h1 h2 h3 h4;exact .sref _ _ _ _ _ _ _ _ _ _ (hφ _ _ h) h1 h2 h3 h4
 case srefDead=>intro esz b off len cap ex a rcap h;exact .srefDead _ _ _ _ _ _ _ _ (hφ _ _ h)
 case gref=>intro esz b k off len gen rs a cap h hcap hrow;exact .gref _ _ _ _ _ _ rs a cap (hφ _ _ h) hcap hrow
 case grefDead=>intro esz b k off len gen a cap h hcap;exact .grefDead _ _ _ _ _ _ _ _ (hφ _ _ h) hcap
 case gptr=>intro b k off gen rs p h hk hrow;exact .gptr _ _ _ _ rs p (hφ _ _ h) hk hrow
 case gptrDead=>intro b k off gen p h;exact .gptrDead _ _ _ _ _ (hφ _ _ h)
 case map=>intro b r h;exact .map _ _ (hφ _ _ h)
 case mapDead=>intro b r h;exact .mapDead _ _ (hφ _ _ h)
 case nilmap=>exact .nilmap
 case func=>intro f xs ys us vs _ _ hu hv;exact .func f _ _ us vs hu hv
 case yield=>intro l r h;exact .yield _ _ (hφ _ _ h)
 case yieldDead=>intro l r h;exact .yieldDead _ _ (hφ _ _ h)
 case nilfunc=>exact .nilfunc
 case iface=>intro t c v _ h;exact .iface t _ v h
 case niliface=>exact .niliface
 case agg=>intro cs vs _ h;exact .agg _ vs h
 case tuple=>intro cs vs _ h;exact .tuple _ vs h
 case nil=>exact .nil
 case cons=>intro c v cs vs _ _ h hs;exact .cons _ v _ vs h hs
def HObj.shift(n:Nat):HObj→HObj
 | .cells cs=>.cells (CV.shifts n cs)
 | .rows css=>.rows (css.map (CV.shifts n))
 |o=>o
def HObj.simple:HObj→Bool
 | .map _=>false
 | .loop ..=>false
 |_=>true
section
variable {P:Program} {c:Cfg}
def Phi.join(n:Nat)(φ φ':Phi):Phi:=fun b=>if b<n then φ b else φ' (b-n)
theorem Phi.xJj{n:Nat}{φ φ':Phi}{b:Nat}(h:b<n):Phi.join n φ φ' b=φ b:=Qf h
theorem Phi.wXy{n:Nat}{φ φ':Phi}(b:Nat):Phi.join n φ φ' (n+b)=φ' b:=by
 unfold Phi.join;rw[Qi (by omega),Ki]
theorem Phi.join_some{n:Nat}{φ φ':Phi}{b:Nat}{e:Ent}(h:Phi.join n φ φ' b=some e):(b<n∧φ b=some e)∨∃k,b=n+k∧φ' k=some e:=by
 unfold Phi.join at h;split at h
 ·rename_i hb;exact .inl ⟨hb,h⟩
 ·rename_i hb;exact .inr ⟨b-n,by omega,h⟩
def zZk(P:Program)(c:Cfg)(f:FuncId)(args:List CV)(v:CV)(O:Heap):Prop:=
 yYr P f∧∀(St:Stab) (w:World) (us:List Value),(∀r j,St r j→r<w.heap.size)→zYl c Phi0 St w→VRL Phi0 St w args us→
  Calls P f us.toArray w fun e w'=>∃u φ' St',e=.returned u∧Frm 0 Phi0 St w φ' St' w'∧Rel w.heap.size φ' St' O w'∧VR φ' St' w' v u
theorem Rel.join{N:Nat}{φ φ':Phi}{St St':Stab}{H O:Heap}{w w':World}(R:Rel N φ St H w)(f:Frm 0 Phi0 St w φ' St' w')(R':Rel w.heap.size φ' St' O w')(ho:O.all HObj.simple=true):
  Rel N (Phi.join H.length φ φ') St' (H++O.map (HObj.shift H.length)) w'∧Mono φ St w (Phi.join H.length φ φ') St' w':=by
 have hheap:∀r,r<w.heap.size→w'.heap[r]?=w.heap[r]?:=fun r hr=>f.keepBlk r hr (by simp[Phi0])
 have hcase:∀r j,St' r j→St r j∨w.heap.size≤r:=fun r j h=>by
  rcases f.stNew r j h with h|h|⟨b,e,hb,_⟩
  ·exact .inl h
  ·exact .inr h
  ·simp[Phi0]at hb
 have hnew:∀b e r,φ' b=some e→e.has r→w.heap.size≤r:=fun b e r hb he=>(R'.lt hb he).1
 have ext:∀b,Ent.le (φ b) (Phi.join H.length φ φ' b):=fun b=>by
  by_cases hb:b<H.length
  ·rw[Phi.xJj hb];exact .refl _
  ·have:φ b=none:=by
    cases hx:φ b with
    |none=>rfl
    |some e=>exact absurd (R.dom _ _ hx) hb
   rw[this];exact .fresh _
 have m:Mono φ St w (Phi.join H.length φ φ') St' w':=⟨ext,f.st,f.keep⟩;have hlo:∀{b e},φ b=some e→b<H.length:=fun{b e} h=>R.dom b e h
 have hg:∀{b},b<H.length→(H++O.map (HObj.shift H.length))[b]?=H[b]?:=fun{b} h=>Qb h
 have hg2:∀k,(H++O.map (HObj.shift H.length))[H.length+k]?=(O[k]?).map (HObj.shift H.length):=fun k=>by
  rw[Qj (by omega),Ki,Qt]
 have hφ:∀b e,φ' b=some e→Phi.join H.length φ φ' (H.length+b)=some e:=fun b e h=>by rw[Phi.wXy];exact h
 refine⟨⟨?_, ?_, ?_, ?_, ?_, ?_,R'.stLt, ?_, ?_,Kf R.start f.size, ?_, ?_, ?_⟩,m⟩
 ·intro b e h
  rcases Phi.join_some h with⟨hb,_⟩|⟨k,rfl,hk⟩
  ·simp;omega
  ·have:=R'.dom k e hk;simp;omega
 ·intro b h
  rcases Phi.join_some h with⟨hb,h1⟩|⟨k,rfl,hk⟩
  ·rw[hg hb];exact R.dead b h1
  ·rw[hg2,R'.dead k hk];rfl
 ·intro b r base size h
  rcases Phi.join_some h with⟨hb,h1⟩|⟨k,rfl,hk⟩
  ·obtain⟨h2,cs,a,e,h3,h4,h5,h6,h7⟩:=R.own b r base size h1
   exact⟨h2,cs,a,e,by rw[hg hb];exact h3,by rw[hheap r (R.lt h1 rfl).2];exact h4,h5,h6,fun j c hc=>let⟨v,a,b⟩:=h7 j c hc;⟨v,a,b.mono m⟩⟩
  ·obtain⟨h2,cs,a,e,h3,h4,h5,h6,h7⟩:=R'.own k r base size hk
   refine⟨Kf R.start h2,CV.shifts H.length cs,a,e,by rw[hg2,h3];rfl,h4,h5,by rw[CV.zWg,Qh];exact h6,fun j c hc=>?_⟩
   rw[CV.zWg,Qt]at hc;cases hcs:cs[j]? with
   |none=>rw[hcs]at hc;simp at hc
   |some c0=>
    rw[hcs]at hc;simp at hc;subst hc;obtain⟨v,e1,e2⟩:=h7 j c0 hcs;exact⟨v,e1,e2.shift hφ⟩
 ·intro b r used u size h
  rcases Phi.join_some h with⟨hb,h1⟩|⟨k,rfl,hk⟩
  ·obtain⟨h2,h3,h4,a,e,h5,h6⟩:=R.tail b r used u size h1
   exact⟨h2,by rw[hg hb];exact h3,h4,a,e,by rw[hheap r (R.lt h1 rfl).2];exact h5,h6⟩
  ·obtain⟨h2,h3,h4,a,e,h5,h6⟩:=R'.tail k r used u size hk
   exact⟨Kf R.start h2,by rw[hg2,h3];rfl,h4,a,e,h5,h6⟩
 ·intro b r h
  rcases Phi.join_some h with⟨hb,h1⟩|⟨k,rfl,hk⟩
  ·obtain⟨h2,o,O',h3,h4,h5⟩:=R.obj b r h1
   exact⟨h2,o,O',by rw[hg hb];exact h3,by rw[hheap r (R.lt h1 rfl).2];exact h4,h5.mono m⟩
  ·obtain⟨h2,o,O',h3,h4,h5⟩:=R'.obj k r hk
   have:=Qq.1 ho o (Ql h3);cases h5<;>simp[HObj.simple]at this
 ·intro b b' e e' r h h' he he'
  rcases Phi.join_some h with⟨hb,h1⟩|⟨k,rfl,hk⟩<;>rcases Phi.join_some h' with⟨hb',h1'⟩|⟨k',rfl,hk'⟩
  ·exact R.inj b b' e e' r h1 h1' he he'
  ·have a1:=(R.lt h1 he).2;have a2:=hnew k' e' r hk' he';omega
  ·have a1:=(R.lt h1' he').2;have a2:=hnew k e r hk he;omega
  ·rw[R'.inj k k' e e' r hk hk' he he']
 ·intro b r base size j h hs
  rcases Phi.join_some h with⟨hb,h1⟩|⟨k,rfl,hk⟩
  ·rcases hcase r j hs with hs|hs
   ·exact R.stOwn b r base size j h1 hs
   ·have:=(R.lt h1 rfl).2;omega
  ·exact R'.stOwn k r base size j hk hs
 ·intro b r used u size j h hs
  rcases Phi.join_some h with⟨hb,h1⟩|⟨k,rfl,hk⟩
  ·rcases hcase r j hs with hs|hs
   ·exact R.stTail b r used u size j h1 hs
   ·have:=(R.lt h1 rfl).2;omega
  ·exact R'.stTail k r used u size j hk hs
 ·intro b u h
  rcases Phi.join_some h with⟨hb,h1⟩|⟨k,rfl,hk⟩
  ·rw[hg hb];exact R.void b u h1
  ·rw[hg2,(R'.void k u hk).1];exact⟨rfl,(R'.void k u hk).2⟩
 ·intro b rs h
  rcases Phi.join_some h with⟨hb,h1⟩|⟨k,rfl,hk⟩
  ·rw[hg hb]
   exact(R.rows b rs h1).step m (fun r hr=>hheap r (R.lt h1 hr).2) (fun r j hr h=>(hcase r j h).resolve_right (fun x=>by have:=(R.lt h1 hr).2;omega))
  ·obtain⟨css,g1,g2,g3,g4⟩:=R'.rows k rs hk
   refine⟨css.map (CV.shifts H.length),by rw[hg2,g1];rfl,by rw[Qh];exact g2,fun i row cs hr hc=>?_,g4⟩
   rw[Qt]at hc;cases hcs:css[i]? with
   |none=>rw[hcs]at hc;simp at hc
   | some c0=>
    rw[hcs]at hc;simp at hc;subst hc;obtain⟨q2,q0,g3'⟩:=g3 i row c0 hr hcs;refine⟨by rw[CV.zWg,Qh];exact q2,q0,fun r base lim hb=>?_⟩
    obtain⟨q1,q3,⟨arr,elem,q4,q5,q6,q7⟩,q8⟩:=g3' r base lim hb;refine⟨Kf R.start q1,q3,⟨arr,elem,q4,q5,q6,fun j c hc=>?_⟩,q8⟩
    rw[CV.zWg,Qt]at hc;cases hcj:c0[j]? with
    |none=>rw[hcj]at hc;simp at hc
    |some c1=>
     rw[hcj]at hc;simp at hc;subst hc;obtain⟨v,e1,e2⟩:=q7 j c1 hcj;exact⟨v,e1,e2.shift hφ⟩
 ·intro b css hx
  by_cases hb:b<H.length
  ·rw[hg hb]at hx
   obtain⟨rs,hrs⟩:=R.rdom b css hx;exact⟨rs,by rw[Phi.xJj hb];exact hrs⟩
  ·obtain⟨k,rfl⟩:∃k,b=H.length+k:=⟨b-H.length,by omega⟩
   rw[hg2,J8]at hx;obtain⟨o,ho1,ho2⟩:=hx;cases o with
   |rows css0=>
    obtain⟨rs,hrs⟩:=R'.rdom k css0 ho1;exact⟨rs,hφ k _ hrs⟩
   |_=>simp[HObj.shift]at ho2
end
end Go.Eng
/- The evaluator says what the machine does. -/
namespace Go.Eng
set_option linter.unusedVariables false
section
variable {P:Program} {c:Cfg}
def Job.ok:Job→Prop
 | .code x=>x.ok
 | .round b=>b.ok
 | .scope b cur=>b.ok∧cur.ok
 | .ops _ draw _=>draw=false
 | .call _ _=>True
end
end Go.Eng
/- Deferred calls that recover. -/
namespace Go.Eng
set_option linter.unusedVariables false
section
variable {P:Program} {N:Nat} {φ:Phi} {St:Stab} {H:Heap} {w:World} {c:Cfg}
def wWq(φ:Phi)(St:Stab)(w:World):Option CV→FrameMode→Prop
 |none,u=>u=.returning
 |some cv,u=>∃v,u=.panicking [{v,recovered:=false}]∧VR φ St w cv v
theorem wWq.run{pan:Option CV}{u:FrameMode}(h:wWq φ St w pan u):u≠.run:=by
 cases pan with
 |none=>rw[show u=.returning from h];simp
 |some cv=>obtain⟨v,rfl,_⟩:=h;simp
def vZ6(P:Program)(c:Cfg)(g:FuncId)(args:List CV)(pan:Option CV)(H H':Heap):Prop:=
 yYr P g∧∀N φ St w us u,Rel N φ St H w→zYl c φ St w→VRL φ St w args us→wWq φ St w pan u→
  CallsDIn (Fw none) 0 P g us.toArray u w fun e u' w'=>(∃v,e=.returned v)∧settle u'=.returning∧∃φ' St',Left N φ St H w H' φ' St' w'
theorem zJy{φ0:Phi}{St0:Stab}{H0:Heap}{w0:World}{fn:Func}{tmps:Array Value}{Rr:Ending→World→Prop}{u:FrameMode}(hu:u≠ .run){ds:List Deferred}{m:Nat}(hm0:w0.heap.size≤m):∀(ms:List Deferred) (w:World),
  Left N φ0 St0 H0 w0 H φ St w→Marks m φ w ms→(∀w',Left N φ0 St0 H0 w0 H φ St w'→Mono φ St w φ St w'→(∀r,r<m→w'.heap[r]?=w.heap[r]?)→LeavesInM (Fw none) 0 P fn tmps Rr ds u w')→LeavesInM (Fw none) 0 P fn tmps Rr (ms++ds) u w:=by
 intro ms;induction ms with
 |nil=>intro w l _ k;exact k w l (.refl _ _ _) fun _ _=>rfl
 | cons d ms ih=>
  intro w l hm k;obtain⟨r,rfl,h2,h3,h4⟩:=hm.1 d (by simp)
  have⟨l',m'⟩:=l.vYf (Kf hm0 h2) h3 h4;refine⟨hu, .inl ⟨r,_,rfl,run_takeDeferred h3,ih _ l' ⟨fun d' hd'=>?_,(Jz.1 hm.2).2⟩ fun w' l2 m2 hk=>k w' l2 (m'.trans m2) fun x hx=>(hk x hx).trans (World.putObj_heap_other (by omega))⟩⟩
  obtain⟨r',e1,e2,e3,e4⟩:=hm.1 d' (by simp[hd'])
  have hne:r'≠r:=fun e=>by
   have:=(Jz.1 hm.2).1 d' hd';rw[e1,e]at this;exact this rfl
  exact⟨r',e1,e2,by rw[World.putObj_heap_other hne];exact e3,e4⟩
theorem Marks.same{m k:Nat}{φ1:Phi}{w1:World}{φ:Phi}{w w':World}{ms:List Deferred}(h1:Marks m φ1 w1 ms)(hk:w1.heap.size≤k)(h:Marks m φ w ms)(hs:∀r,r<k→w'.heap[r]?=w.heap[r]?):Marks m φ w' ms:=
 ⟨fun d hd=>by
  obtain⟨r,e1,e2,e3,e4⟩:=h.1 d hd;obtain⟨r',f1,_,f3,_⟩:=h1.1 d hd;have hr:r'=r:=by rw[e1]at f1;simpa using f1.symm
  subst hr;have:=(Array.getElem?_eq_some_iff.1 f3).1;exact⟨r',e1,e2,by rw[hs r' (by omega)];exact e3,e4⟩,h.2⟩
def EndIs:Exit→FrameMode→Prop
 | .normal,u=>u=.returning
 | .ret,u=>u=.returning
 | .panic ch,u=>u=.panicking ch
 |_,_=>False
def yQq(P:Program)(c:Cfg)(x:X)(tmps:List CV)(H:Heap)(tmps':List CV)(H':Heap):Prop:=
 ∀N φ St w a,Rel N φ St H w→zYl c φ St w→VRL φ St w tmps a.tmps.toList→x.code.wpIn (Fw none) 0 P (fun e a1 w1=>∃u,EndIs e u∧∀fn Rr,
  (∀φ' St' w2,Left N φ St H w H' φ' St' w2→VRL φ' St' w2 tmps' a1.tmps.toList→LeavesInM (Fw none) 0 P fn a1.tmps Rr a.defers .returning w2)→LeavesInM (Fw none) 0 P fn a1.tmps Rr a1.defers u w1) a w
theorem yQq.uWn{x:X}{tmps tmps':List CV}{H':Heap}{out:Out}(ho:out=.normal∨out=.ret)(hx:zQm P c none x tmps H out tmps' H'):yQq P c x tmps H tmps' H':=by
 intro N φ St w a R hg ht;refine wpIn_mono (hx N φ St w a none R hg trivial ht) fun e a1 w1 p=>?_
 obtain⟨φ1,St1,l1,ms,hm,hout⟩:=p;have key:VRL φ1 St1 w1 tmps' a1.tmps.toList→a1.defers=ms++a.defers→∀fn Rr,(∀φ' St' w2,Left N φ St H w H' φ' St' w2→VRL φ' St' w2 tmps' a1.tmps.toList→LeavesInM (Fw none) 0 P fn a1.tmps Rr a.defers .returning w2)→LeavesInM (Fw none) 0 P fn a1.tmps Rr a1.defers .returning w1:=by
  intro h1 h2 fn Rr k;rw[h2];exact zJy (by simp) (Qe _) ms w1 l1 hm fun w' l2 m2 _=>k φ1 St1 w' l2 (h1.mono m2)
 rcases ho with rfl|rfl<;>cases e<;>simp only[yZf]at hout
 ·exact⟨_,rfl,key hout.1 hout.2⟩
 ·exact⟨_,rfl,key hout.1 hout.2⟩
theorem yQq.seq{x y:X}{tmps t1 tmps':List CV}{h1 H':Heap}(hx:zQm P c none x tmps H .normal t1 h1)(hy:yQq P c y t1 h1 tmps' H'):yQq P c (.seq x y) tmps H tmps' H':=by
 intro N φ St w a R hg ht;refine wpIn_seq (wpIn_mono (hx N φ St w a none R hg trivial ht) fun e a1 w1 p=>?_)
 obtain⟨rfl,φ1,St1,l1,ms,hm,ht1,hd1⟩:=p.normal;refine wpIn_mono (hy N φ1 St1 w1 a1 l1.rel (hg.mono l1.frm.toMono) ht1) fun e2 a2 w2 p2=>?_
 obtain⟨u,hu,hk⟩:=p2;refine⟨u,hu,fun fn Rr k=>hk fn Rr fun φ2 St2 w3 l2 ht2=>?_⟩
 rw[hd1];exact zJy (by simp) (Qe _) ms w3 (l1.trans l2) (hm.step l2.frm) fun w' l' m' _=>k φ2 St2 w' l' (ht2.mono m')
def wWa(ρ:Operand→CV)(o:Op):Option (FuncId×List CV×List CV):=
 match o with
 | .defer cl=>match cl.callee with
  | .value f=>match ρ f with
   | .func g first captured=>some (g,first++cl.args.toList.map ρ,captured)
   |_=>none
  |_=>none
 |_=>none
theorem vX0{ρ:Operand→CV}{ρv:Operand→Value}{o:Oper}{g:FuncId}{as cs:List CV}(hd:wWa ρ o.op=some (g,as,cs))(hρ:∀x∈o.op.operands,VR φ St w (ρ x) (ρv x)):
  ∃us vs,(execOp ρv o).run P w=.ok (.defer {target:=.fn (.func g) vs.toArray,args:=us.toArray}) w∧VRL φ St w as us∧VRL φ St w cs vs:=by
 unfold wWa at hd;split at hd<;>(try (simp at hd;done))
 rename_i cl hop;split at hd<;>(try (simp at hd;done))
 rename_i f hcal;split at hd<;>(try (simp at hd;done))
 rename_i g0 first captured hf
 simp only[Qa,Je]at hd;obtain⟨rfl,rfl,rfl⟩:=hd;have harg:∀x∈cl.args.toList,VR φ St w (ρ x) (ρv x):=fun x hx=>hρ x (by rw[hop];simp[Op.operands,Call.operands];exact .inr (by simpa using hx))
 have hfv:VR φ St w (ρ f) (ρv f):=hρ f (by rw[hop];simp[Op.operands,Call.operands,hcal])
 rw[hf]at hfv;generalize hgv:ρv f=gv at hfv;cases hfv with|func _ _ _ us vs h1 h2=>
 refine⟨us++cl.args.toList.map ρv,vs, ?_,h1.append (VRL.ops harg),h2⟩;unfold execOp;simp only[hop,resolve,hcal,hgv,Deferred.ofValue,Sem.run_bind,Sem.run_pure,Result.andThen_ok]
 congr 3;congr 1;apply Ke;simp
theorem wWs {F :Fence}{n:Nat}{ops:Array Oper}{Q:Exit→Act→World→Prop}:∀(l l':List Nat) (a:Act) (w:World),wpOpsIn F n P ops (fun e a w=>match e with
    | .normal=>wpOpsIn F n P ops Q l' a w
    |e=>Q e a w) l a w→wpOpsIn F n P ops Q (l++l') a w:=by
  intro l;induction l with
  |nil=>intro l' a w h;exact h
  | cons i l ih=>
    intro l' a w h;simp only[List.cons_append];unfold wpOpsIn at h⊢;split
    ·rename_i ho;simp only[ho]at h;exact ih _ _ _ h
    · rename_i o ho
      simp only[ho]at h;split
      · rename_i hw
        simp only[hw,if_true]at h;refine⟨h.1, ?_⟩;have h:=h.2;have lets:∀(Q':Exit→Act→World→Prop),LetsOut (fun e a w=>match e with
            | .normal=>wpOpsIn F n P ops Q l' a w
            |e=>Q' e a w)→LetsOut Q':=fun Q' ⟨a,w,h⟩=>⟨a,w,h⟩
        generalize (o.semAt F.round a.eval).run P w=r at h⊢;cases r with
        | ok n w'=>
          cases n<;>simp only[Oper.uponIn]at h⊢<;>first|exact ih _ _ _ h|exact h.elim|skip
          all_goals first
            |exact⟨h.1,h.2.mono fun v w'' he=>ih _ _ _ he⟩
            | (refine⟨h.1,h.2.mono fun e w'' he=> ?_⟩
               cases e with
               |returned v=>exact ih _ _ _ he
               |panicked ch=>exact he
               |outgrown=>exact lets _ he)
        |halt x w'=>cases x<;>simp only[Oper.uponIn]at h⊢<;>first|exact h|exact h.elim
      · rename_i hw
        simp only[hw]at h;exact⟨h.1,ih _ _ _ h.2⟩
def vZ3:Out→Option CV→Prop
 | .normal,p=>p=none
 | .ret,p=>p=none
 | .panic v,p=>p=some v
 |_,_=>False
theorem yQq.defer(hc:c.Ok P){id:Nat}{ops:Array Oper}{plan:List (Nat×List Nat)}{y:X}{k:Nat}{o:Oper}{tmps t1 t2:List CV}{h1 h2 h3:Heap}{out:Out}{pan:Option CV}{g:FuncId}{as cs:List CV}
  (hsz:ops.size=k+1) (ho:ops[k]?=some o) (hgd:o.guard=none) (hpre:zXb P c none ops (List.range k) tmps H .normal t1 h1) (hd:wWa (ev c.glob t1) o.op=some (g,as,cs))
  (hy:zQm P c none y (putC t1 o.dst zWt) h1 out t2 h2) (hout:vZ3 out pan) (hdf:vZ6 P c g (as++cs) pan h2 h3):yQq P c (.seq (.region id ops false plan) y) tmps H t2 h3:=by
 intro N φ St w a R hg ht;refine wpIn_seq (wpIn_region ?_);rw[hsz,List.range_succ];refine wWs _ _ _ _ (zYm ?_ _ _ _ (hpre N φ St w a none R hg trivial ht));intro e a1 w1 p
 obtain⟨rfl,φ1,St1,l1,ms,hm,ht1,hd1⟩:=p.normal;simp only;simp only[wpOpsIn,ho];have hw:Region.wanted o (yielded ops a1.tmps)=true:=by simp[Region.wanted,hgd]
 rw[Qf hw];refine⟨fun _ _=>trivial, ?_⟩
 obtain⟨us,vs,hrun,hus,hvs⟩:=vX0 (P:=P) (w:=w1) (ρv:=a1.eval) hd (fun x _=>yXf (hg.mono l1.frm.toMono) ht1 x)
 have hsem:o.semAt (Fw none).round a1.eval=execOp a1.eval o:=rfl;rw[hsem,hrun,Oper.uponIn_defer];show(y.code).wpIn _ _ _ _ _ _;have hg1:=hg.mono l1.frm.toMono
 refine wpIn_mono (hy N φ1 St1 w1 ({a1 with defers:={target:= .fn (.func g) vs.toArray,args:=us.toArray}::a1.defers}.put o.dst undef) none l1.rel hg1 trivial (by
  have:=zKy ht1 o.dst zKj;have e:({a1 with defers:={target:=.fn (.func g) vs.toArray,args:=us.toArray}::a1.defers}:Act).put o.dst undef={(a1.put o.dst undef)with defers:={target:=.fn (.func g) vs.toArray,args:=us.toArray}::a1.defers}:=by cases o.dst<;>rfl
  rw[e];simpa using this)) fun e2 a2 w2 p2=>?_
 obtain⟨φ2,St2,l2,ms2,hm2,hout2⟩:=p2;rw[zQ1]at hout2;simp only at hout2;have key:∀u,wWq φ2 St2 w2 pan u→VRL φ2 St2 w2 t2 a2.tmps.toList→a2.defers=ms2++({target:= .fn (.func g) vs.toArray,args:=us.toArray}::a1.defers)→∀fn Rr,
   (∀φ' St' w3,Left N φ St H w h3 φ' St' w3→VRL φ' St' w3 t2 a2.tmps.toList→LeavesInM (Fw none) 0 P fn a2.tmps Rr a.defers .returning w3)→LeavesInM (Fw none) 0 P fn a2.tmps Rr a2.defers u w2:=by
  intro u hu ht2 hd2 fn Rr k;rw[hd2];refine zJy hu.run l1.frm.size ms2 w2 (l1.trans l2) hm2 fun w3 l3 m3 hs3=>?_
  have hu3:wWq φ2 St2 w3 pan u:=by
   cases pan with
   |none=>exact hu
   |some cv=>obtain⟨v,e,hv⟩:=hu;exact⟨v,e,hv.mono m3⟩
  have hargs:VRL φ2 St2 w3 (as++cs) (us++vs):=((hus.append hvs).mono l2.frm.toMono).mono m3;refine⟨hu.run, .inr ⟨by simp[Fw,Fence.wide], .func g,vs.toArray,g,(us++vs).toArray,rfl, ?_,fun _ _=>trivial, ?_⟩⟩
  ·simp only[invoke]
   rw[hdf.1];congr 2;apply Ke;simp
  ·refine(hdf.2 N φ2 St2 w3 _ u l3.rel ((hg1.mono l2.frm.toMono).mono m3) hargs hu3).mono ?_
   rintro e u' w4 ⟨⟨v,rfl⟩,hs,φ4,St4,l4⟩;simp only;rw[hs,hd1];exact zJy (by simp) (Qe _) ms w4 (l3.trans l4) ((hm.same (Qe _) (hm.step l2.frm) hs3).step l4.frm) fun w' l' m' _=>k φ4 St4 w' l' (((ht2.mono m3).mono l4.frm.toMono).mono m')
 cases out<;>cases e2<;>simp only[yZf]at hout2<;>simp only[vZ3]at hout
 ·exact⟨_,rfl,key _ (by rw[hout];rfl) hout2.1 hout2.2⟩
 ·exact⟨_,rfl,key _ (by rw[hout];rfl) hout2.1 hout2.2⟩
 ·obtain⟨⟨v,rfl,hv⟩,h2,h3⟩:=hout2
  exact⟨_,rfl,key _ (by rw[hout];exact⟨v,rfl,hv⟩) h2 h3⟩
def vQn(c:Cfg)(o:Oper)(T:List CV)(h:Heap):Option (List CV×Heap):=
 match o.guard with
 |some _=>none
 | none=>match opQ c.ty h h.length (ev c.glob T) o.op with
  |some (v,new)=>some (putC T o.dst v,h++new.toList)
  |none=>match opL c.ty 1 h (ev c.glob T) o.op with
   |some (v,h')=>some (putC T o.dst v,h')
   |none=>none
def runS(c:Cfg)(ops:Array Oper):List Nat→List CV→Heap→Option (List CV×Heap)
 |[],T,h=>some (T,h)
 | i::l,T,h=>match ops[i]? with
  |none=>none
  |some o=>match vQn c o T h with
   |some (T',h')=>runS c ops l T' h'
   |none=>none
def SOk(P:Program)(c:Cfg)(x:X)(T:List CV)(h:Heap)(T':List CV)(h':Heap):Prop:=
 ∀N φ St w a cs,Rel N φ St h w→zYl c φ St w→VRL φ St w T a.tmps.toList→a.defers=[]→
  x.code.wpSIn (Fw none) 0 P (fun e a1 cs1 w1=>e=.normal∧cs1=cs∧a1.defers=[]∧∃φ' St',Left N φ St h w h' φ' St' w1∧VRL φ' St' w1 T' a1.tmps.toList) a cs w
theorem vWb(hc:c.Ok P){ops:Array Oper}{Q:Exit→Act→List Frame→World→Prop}:∀(l:List Nat) (T:List CV) (h:Heap) (T':List CV) (h':Heap),runS c ops l T h=some (T',h')→
  ∀{N φ St w a cs},Rel N φ St h w→zYl c φ St w→VRL φ St w T a.tmps.toList→a.defers=[]→
   (∀φ' St' w' a',Left N φ St h w h' φ' St' w'→VRL φ' St' w' T' a'.tmps.toList→a'.defers=[]→Q .normal a' cs w')→wpOpsSIn (Fw none) 0 P ops Q l a cs w:=by
 intro l;induction l with
 |nil=>
  intro T h T' h' he N φ St w a cs R hg ht hd k;simp only[runS,Qa,Je]at he;obtain⟨rfl,rfl⟩:=he;exact k φ St w a (Left.refl R) ht hd
 | cons i l ih=>
  intro T h T' h' he N φ St w a cs R hg ht hd k;simp only[runS]at he;split at he<;>(try (simp at he;done))
  rename_i o ho;split at he<;>(try (simp at he;done))
  rename_i T1 h1 hs;have hgd:o.guard=none:=by
   unfold vQn at hs;split at hs<;>(try (simp at hs;done))
   assumption
  unfold wpOpsSIn;simp only[ho];refine⟨fun _ _=>trivial, ?_⟩
  have hw:Region.wanted o (yielded ops a.tmps)=true:=by simp[Region.wanted,hgd]
  rw[Qf hw];unfold vQn at hs;rw[hgd]at hs;simp only at hs;have hρ:∀x∈o.op.operands,VR φ St w (ev c.glob T x) (a.eval x):=fun x _=>yXf hg ht x
  split at hs
  ·rename_i v new hq
   simp only[Qa,Je]at hs;obtain⟨rfl,rfl⟩:=hs;have R0:=R.longer new.toList (fun o ho css=>by
    cases new with
    |none=>simp at ho
    |some b=>simp at ho;subst ho;exact yJm hq css)
   obtain⟨u,w1,φ1,g1,g2,g3,g4,g5⟩:=vYo (P:=P) hc.ty (o:=o) R0 (Sub.append h new.toList) hq (fun b hb=>⟨R.yJn,by subst hb;simp⟩) hρ (fun _=>rfl)
   rw[g1];simp only;have l1:Left N φ St h w (h++new.toList) φ1 St w1:=⟨g2,g4,Keep.append _ _ _⟩;exact ih _ _ _ _ he g2 (hg.mono g4.toMono) (zKy (ht.mono g4.toMono) o.dst g3) (by rw[zQ1];exact hd) fun φ' St' w' a' l2=>k φ' St' w' a' (l1.trans l2)
  ·split at hs<;>(try (simp at hs;done))
   rename_i v h2 hl;simp only[Qa,Je]at hs;obtain⟨rfl,rfl⟩:=hs;have hk:=wQu R hl hρ;obtain⟨x,w1,φ1,St1,g1,g2,g3,g4⟩:=vYp (P:=P) hc.ty (o:=o) R hl hρ;have l1:Left N φ St h w h2 φ1 St1 w1:=⟨g3,g4,hk⟩
   rw[g1];rcases g2 with⟨rfl,rfl⟩|⟨u,rfl,hu⟩
   ·simp only
    exact ih _ _ _ _ he g3 (hg.mono g4.toMono) (zKy (ht.mono g4.toMono) o.dst zKj) (by rw[zQ1];exact hd) fun φ' St' w' a' l2=>k φ' St' w' a' (l1.trans l2)
   ·simp only
    exact ih _ _ _ _ he g3 (hg.mono g4.toMono) (zKy (ht.mono g4.toMono) o.dst hu) (by rw[zQ1];exact hd) fun φ' St' w' a' l2=>k φ' St' w' a' (l1.trans l2)
theorem SOk.skip{T:List CV}{h:Heap}:SOk P c .skip T h T h:=fun N φ St w a cs R hg ht hd=>wpSIn_of_wpIn rfl (wpIn_skip ⟨rfl,rfl,hd,φ,St,Left.refl R,ht⟩)
theorem SOk.region(hc:c.Ok P){id:Nat}{ops:Array Oper}{plan:List (Nat×List Nat)}{T T':List CV}{h h':Heap}(hr:runS c ops (List.range ops.size) T h=some (T',h')):SOk P c (.region id ops false plan) T h T' h':=
 fun N φ St w a cs R hg ht hd=>wpSIn_region (vWb hc _ _ _ _ _ hr R hg ht hd fun φ' St' w' a' l ht' hd'=>⟨rfl,rfl,hd',φ',St',l,ht'⟩)
theorem SOk.seq{x y:X}{T T1 T':List CV}{h h1 h':Heap}(hx:SOk P c x T h T1 h1)(hy:SOk P c y T1 h1 T' h'):SOk P c (.seq x y) T h T' h':=by
 intro N φ St w a cs R hg ht hd;refine wpSIn_seq ?_;intro b k hb hr hF hroom;obtain⟨e,a1,cs1,w1,hl,⟨rfl,rfl,hd1,φ1,St1,l1,ht1⟩,harr⟩:=hx N φ St w a cs R hg ht hd b k hb hr hF hroom
 refine⟨_,a1,cs1,w1,hl, ?_,harr⟩;intro b k hb hr hF hroom;obtain⟨e,a2,cs2,w2,hl2,⟨rfl,rfl,hd2,φ2,St2,l2,ht2⟩,harr2⟩:=hy N φ1 St1 w1 a1 cs1 l1.rel (hg.mono l1.frm.toMono) ht1 hd1 b k hb hr hF hroom
 exact⟨_,a2,cs2,w2,hl2,⟨rfl,rfl,hd2,φ2,St2,l1.trans l2,ht2⟩,harr2⟩
theorem SOk.cond_true{o:Operand}{x y:X}{T T':List CV}{h h':Heap}(ho:ev c.glob T o=.bool true)(hx:SOk P c x T h T' h'):SOk P c (.cond o x y) T h T' h':=by
 intro N φ St w a cs R hg ht hd;have hv:=yXf hg ht o;rw[ho]at hv;generalize hgv:a.eval o=gv at hv;cases hv;exact wpSIn_cond (t:=true) hgv (hx N φ St w a cs R hg ht hd)
theorem SOk.cond_false{o:Operand}{x y:X}{T T':List CV}{h h':Heap}(ho:ev c.glob T o=.bool false)(hy:SOk P c y T h T' h'):SOk P c (.cond o x y) T h T' h':=by
 intro N φ St w a cs R hg ht hd;have hv:=yXf hg ht o;rw[ho]at hv;generalize hgv:a.eval o=gv at hv;cases hv;exact wpSIn_cond (t:=false) hgv (hy N φ St w a cs R hg ht hd)
def isRecover(o:Op):Bool:=match o with
 | .call cl=>match cl.callee with
  | .builtin .recover=>true
  |_=>false
 |_=>false
theorem wXj{ρv:Operand→Value}{o:Oper}(hr:isRecover o.op=true):(execOp ρv o).run P w=.ok .recover w:=by
 unfold isRecover at hr;split at hr<;>(try (simp at hr;done))
 rename_i cl hop;split at hr<;>(try (simp at hr;done))
 rename_i hcal;unfold execOp;simp[hop,resolve,hcal,invoke,builtin]
def panC:Option CV→CV
 |none=>.niliface
 |some v=>v
theorem vZ6.of(hc:c.Ok P){g:FuncId}{gd:XFunc}(hgd:c.code g=some gd)(hres:gd.results=[]){id:Nat}{ops:Array Oper}{plan:List (Nat×List Nat)}{y:X}(hb:gd.body= .seq (.region id ops false plan) y){o0:Oper}{l:List Nat}
  (hl:List.range ops.size=0::l) (ho:ops[0]?=some o0) (hg0:o0.guard=none) (hr:isRecover o0.op=true) {args:List CV} {pan:Option CV} {H:Heap} {T1 T2:List CV} {h1 h2:Heap}
  (hrun:runS c ops l (putC (args++List.replicate (gd.ntmps-args.length) zWt) o0.dst (panC pan)) H=some (T1,h1)) (hy:SOk P c y T1 h1 T2 h2):vZ6 P c g args pan H h2:=by
 obtain⟨fn',hf,hn,hbd,hnt,hrs,hok⟩:=hc.code g gd hgd;refine⟨yXh hf hn hbd,fun N φ St w us u R hg hu hm=>?_⟩
 refine callsDIn_of_wpSIn (F:=Fw none) hf hbd trivial fun c0 cs hc0=>?_
 rw[hb];refine wpSIn_seq (wpSIn_region ?_);rw[hl];unfold wpOpsSIn;simp only[ho];refine⟨fun _ _=>trivial, ?_⟩
 have hul:=hu.length;have ht0:VRL φ St w (args++List.replicate (gd.ntmps-args.length) zWt) (us.toArray++Array.replicate (fn'.ntmps-us.toArray.size) undef).toList:=by
  simp only[Wp,Wi,Kj];rw[hnt,←hul];exact hu.append (VRL.replicate _ zKj)
 have hw:Region.wanted o0 (yielded ops (us.toArray++Array.replicate (fn'.ntmps-us.toArray.size) undef))=true:=by simp[Region.wanted,hg0]
 rw [Qf hw,wXj hr];simp only;have fin:∀(u':FrameMode) (cv:CV) (v:Value),settle u'= .returning→VR φ St w cv v→panC pan=cv→
   wpOpsSIn (Fw none) 0 P ops (Exit.thenS (y.code.wpSIn (Fw none) 0 P (bodyPostS P fn' c0 cs fun e u' w'=>(∃v,e= .returned v)∧settle u'= .returning∧∃φ' St',Left N φ St H w h2 φ' St' w'))
    (bodyPostS P fn' c0 cs fun e u' w'=>(∃v,e=.returned v)∧settle u'=.returning∧∃φ' St',Left N φ St H w h2 φ' St' w')) l
    (({tmps:=us.toArray++Array.replicate (fn'.ntmps-us.toArray.size) undef,defers:=[]}:Act).put o0.dst v) ({c0 with mode:=u'}::cs) w:=by
  intro u' cv v hs hv he;subst he;refine vWb hc _ _ _ _ _ hrun R hg (zKy ht0 o0.dst hv) (by rw[zQ1]) fun φ1 St1 w1 a1 l1 ht1 hd1=>?_
  show(y.code).wpSIn _ _ _ _ _ _ _;intro b k hb hr hF hroom;obtain⟨e,a2,cs2,w2,hl2,⟨rfl,rfl,hd2,φ2,St2,l2,ht2⟩,harr2⟩:=hy N φ1 St1 w1 a1 _ l1.rel (hg.mono l1.frm.toMono) ht1 hd1 b k hb hr hF hroom
  obtain⟨rv,hrv,_⟩:=yXr hc l2.rel ht2 (fn:=fn') (rs:=[]) (cs:=[]) (by rw[hrs,hres]) rfl
  exact⟨.normal,a2,_,w2,hl2,⟨hd2,u',rfl,rv,hrv,⟨_,rfl⟩,hs,φ2,St2,l1.trans l2⟩,harr2⟩
 cases pan with
 |none=>
  have hu':u=.returning:=hm;have hrec:recoverD (c0::cs)=none:=by simp only[recoverD,hc0,hu']
  rw[hrec];simp only;have:=fin .returning .niliface .nilIface rfl .niliface rfl;have e:({c0 with mode:=.returning}:Frame)=c0:=by rw[←hu',←hc0]
  rw[e]at this;exact this
 |some cv=>
  obtain⟨v,hu',hv⟩:=hm;have hrec:recoverD (c0::cs)=some (v,{c0 with mode:=.panicking [{v,recovered:=true}]}::cs):=by simp only[recoverD,hc0,hu']
  rw[hrec];simp only;exact fin _ cv v rfl hv rfl
theorem zQo.bodyD(hc:c.Ok P){f:FuncId}{fd:XFunc}(hfd:c.code f=some fd){args t cs:List CV}{H':Heap}
  (hx:fd.body.ok→yQq P c fd.body (args++List.replicate (fd.ntmps-args.length) zWt) H t H') (hres:zXj c.ty H' t fd.results=some cs):zQo P c (.fn f) args H .ret [oneOf cs] H':=by
 obtain⟨fn',hf,hn,hb,hnt,hrs,hok⟩:=hc.code f fd hfd;refine⟨yXh hf hn hb,fun N φ St w us R hg hu=>callsIn_wide (n:=0)|>.1 (callsIn_of_wp_marks (F:=Fw none) hf hb trivial ?_)⟩
 have hul:=hu.length;have ht0:VRL φ St w (args++List.replicate (fd.ntmps-args.length) zWt) (us.toArray++Array.replicate (fn'.ntmps-us.toArray.size) undef).toList:=by
  simp only[Wp,Wi,Kj];rw[hnt,←hul];exact hu.append (VRL.replicate _ zKj)
 refine wpIn_mono (hx hok N φ St w {tmps:=us.toArray++Array.replicate (fn'.ntmps-us.toArray.size) undef,defers:=[]} R hg ht0) fun e a1 w1 p=>?_
 obtain⟨u,hu1,hk⟩:=p;have key:=hk fn' (yZa N φ St H w .ret [oneOf cs] H') fun φ2 St2 w2 l2 ht2=>by
  obtain⟨v,hv1,hv2⟩:=yXr hc l2.rel ht2 hrs hres;exact⟨v,hv1,φ2,St2,l2,_,rfl,rfl,hv2⟩
 cases e<;>simp only[EndIs]at hu1
 ·subst hu1;exact key
 ·subst hu1;exact key
 ·subst hu1;exact key
end
end Go.Eng
/- zWk: how they are made, and how they are looked at. -/
namespace Go.Eng
set_option linter.unusedVariables false
def wKa(ops:Array Oper)(i j:Nat):Bool:=
 (match zJm ops i with
 |some d=>(looks ops j).contains d||zJm ops j==some d
 |none=>false)||
 (match zJm ops j with
 |some d=>(looks ops i).contains d
 |none=>false)
theorem vQh{ops:Array Oper}{i j:Nat}(h:touch ops i j):wKa ops i j=true:=by
 obtain⟨d,⟨h1,h2⟩|⟨h1,h2⟩⟩:=h
 ·unfold wKa;rw[h1]
  rcases h2 with h2|h2
  ·simp[h2]
  ·simp[h2]
 ·unfold wKa;rw[h1];simp[h2]
def wQe{α:Type}(f:α→α→Bool):List α→Bool
 |[]=>true
 |x::xs=>xs.all (f x)&&wQe f xs
theorem yQg{α:Type}{f:α→α→Bool}:∀{L:List α} {p q:Nat} {x y:α},wQe f L=true→p<q→L[p]? =some x→L[q]? =some y→f x y=true
 |[],p,q,x,y,h,hpq,hx,hy=>by simp at hx
 |a::L,0,q+1,x,y,h,hpq,hx,hy=>by
  simp only[wQe,Qc,Qq]at h;simp at hx;subst hx;exact h.1 y (Ql (by simpa using hy))
 |a::L,p+1,q+1,x,y,h,hpq,hx,hy=>by
  simp only[wQe,Qc]at h;exact yQg (p:=p) (q:=q) h.2 (by omega) (by simpa using hx) (by simpa using hy)
def linB(ops:Array Oper)(seen:List Nat):List (Nat×List Nat)→Bool
 |[]=>true
 |(j,_)::l=>(deps ops j).all seen.contains&&linB ops (j::seen) l
theorem wK8{ops:Array Oper}:∀{L:List (Nat×List Nat)} {seen:List Nat} {p j:Nat} {rs:List Nat},linB ops seen L=true→L[p]? =some (j,rs)→∀e∈deps ops j,e∈seen∨∃(q:Nat) (rs':List Nat),q<p∧L[q]? =some (e,rs')
 |[],seen,p,j,rs,h,hp,e,he=>by simp at hp
 |(k,rk)::L,seen,0,j,rs,h,hp,e,he=>by
  simp only[linB,Qc,Qq]at h;simp at hp;obtain⟨rfl,rfl⟩:=hp;exact .inl (by simpa using h.1 e he)
 | (k,rk)::L,seen,p+1,j,rs,h,hp,e,he=>by
  simp only[linB,Qc]at h;rcases wK8 h.2 (by simpa using hp) e he with hx|⟨q,rs',hq,hqe⟩
  ·rcases Jm.1 hx with rfl|hx
   ·exact .inr ⟨0,rk,by omega,by simp⟩
   ·exact .inl hx
  ·exact .inr ⟨q+1,rs',by omega,by simpa using hqe⟩
def bitsOf(bs:Array Nat)(es:List Nat):Nat:=es.foldl (fun s e=>s|||(2^e|||bs.getD e 0)) 0
theorem testBit_fold(bs:Array Nat)(i:Nat):∀(es:List Nat) (s:Nat),(es.foldl (fun s e=>s|||(2^e|||bs.getD e 0)) s).testBit i=true→s.testBit i=true∨∃e∈es,e=i∨(bs.getD e 0).testBit i=true
 |[],s,h=>.inl h
 | e::es,s,h=>by
  rcases testBit_fold bs i es _ h with h|⟨x,hx,hy⟩
  ·rw[Nat.testBit_or,Nat.testBit_or,Kp,Kp]at h
   rcases h with h|h|h
   ·exact .inl h
   ·rw[Nat.testBit_two_pow]at h;exact .inr ⟨e,by simp, .inl (by simpa using h)⟩
   ·exact .inr ⟨e,by simp, .inr h⟩
  ·exact .inr ⟨x,by simp[hx],hy⟩
def xZc(ops:Array Oper)(i:Nat):List (Nat×List Nat)→Bool
 |[]=>true
 | (w,_)::pre=>if w=i then(match zJm ops i with
   |some d=>!(looks ops i).contains d
   |none=>true)
  else(match zJm ops w with
   |some d=>!(looks ops i).contains d&&zJm ops i !=some d
   |none=>true)&&xZc ops i pre
def wWn(ops:Array Oper)(pre:List (Nat×List Nat)):List (Nat×List Nat)→Bool
 |[]=>true
 |(j,rs)::l=>rs.all (fun i=>xZc ops i pre)&&wWn ops ((j,rs)::pre) l
def uWc(ops:Array Oper)(plan:List (Nat×List Nat))(bs:Array Nat):Bool:=
 plan.length==ops.size&&plan.all (fun p=>decide (p.1<ops.size))&&wQe (fun x y=>x.1 !=y.1) plan&&(List.range ops.size).all (fun i=>plan.any fun p=>p.1==i)&&linB ops [] plan&&
 (bs.size==ops.size&&(List.range ops.size).all fun j=>bs.getD j 0==bitsOf bs (deps ops j))&&
 wQe (fun x y=>!wKa ops x.1 y.1||anc bs x.1 y.1) plan&&wQe (fun x y=>!xZp ops x.1||anc bs x.1 y.1) plan&&
 wQe (fun x y=>!xZp ops y.1||(anc bs x.1 y.1||wW0 ops x.1||y.2.contains x.1)) plan&&wWn ops [] plan
theorem xZ7{ops:Array Oper}:∀{L pre:List (Nat×List Nat)} {q j i:Nat} {rs:List Nat},wWn ops pre L=true→L[q]? =some (j,rs)→i∈rs→xZc ops i ((L.take q).reverse++pre)=true
 |[],pre,q,j,i,rs,h,hq,hi=>by simp at hq
 |(k,rk)::L,pre,0,j,i,rs,h,hq,hi=>by
  simp only[wWn,Qc,Qq]at h;simp at hq;obtain⟨rfl,rfl⟩:=hq;simpa using h.1 i hi
 |(k,rk)::L,pre,q+1,j,i,rs,h,hq,hi=>by
  simp only[wWn,Qc]at h;have:=xZ7 (q:=q) h.2 (by simpa using hq) hi
  simpa using this
theorem xZb{ops:Array Oper}{i:Nat}:∀{pre:List (Nat×List Nat)} {p:Nat} {rs:List Nat},xZc ops i pre=true→pre[p]? =some (i,rs)→(∀(q:Nat) (x:Nat×List Nat),q<p→pre[q]? =some x→x.1≠i)→
  (∀t,zJm ops i=some t→t∉looks ops i)∧∀(q w:Nat) (rs':List Nat),q<p→pre[q]?=some (w,rs')→∀t,zJm ops w=some t→t∉looks ops i∧zJm ops i≠some t
 |[],p,rs,h,hp,hne=>by simp at hp
 |(w,rw)::pre,0,rs,h,hp,hne=>by
  simp at hp;obtain⟨rfl,rfl⟩:=hp;simp only[xZc,if_true]at h;refine⟨fun t ht=>?_,fun q w rs' hq=>by omega⟩
  rw[ht]at h;simpa using h
 | (w,rw)::pre,p+1,rs,h,hp,hne=>by
  have hw:w≠i:=hne 0 (w,rw) (by omega) (by simp)
  simp only[xZc,Qi hw,Qc]at h;obtain⟨h1,h2⟩:=xZb (p:=p) h.2 (by simpa using hp) fun q x hq hx=>hne (q+1) x (by omega) (by simpa using hx)
  refine⟨h1,fun q w' rs' hq hx t ht=>?_⟩
  cases q with
  |zero=>
   simp at hx;obtain⟨rfl,rfl⟩:=hx;have h3:=h.1;rw[ht]at h3;simpa using h3
  |succ q=>exact h2 q w' rs' (by omega) (by simpa using hx) t ht
theorem vKx{ops:Array Oper}{plan:List (Nat×List Nat)}{bs:Array Nat}(h:uWc ops plan bs=true):PlanOkW ops plan bs:=by
 simp only[uWc,Qc,Qq,decide_eq_true_eq,beq_iff_eq,List.any_eq_true,Wm]at h;obtain⟨⟨⟨⟨⟨⟨⟨⟨⟨hlen,hlt⟩,hinj⟩,hmem⟩,hlin⟩,hbs,hbits⟩,hslots⟩,hl1⟩,hl2⟩,hag⟩:=h;have inj:∀(p q i:Nat) (rs rs':List Nat),plan[p]?=some (i,rs)→plan[q]?=some (i,rs')→p=q:=by
  intro p q i rs rs' hp hq;rcases Nat.lt_trichotomy p q with hlt|rfl|hlt
  ·have:=yQg hinj hlt hp hq;simp at this
  ·rfl
  ·have:=yQg hinj hlt hq hp;simp at this
 have since:∀(p q i j:Nat) (rs rs':List Nat),p<q→plan[p]? =some (i,rs)→plan[q]? =some (j,rs')→i∈rs'→
   (∀t,zJm ops i=some t→t∉looks ops i)∧∀(k w:Nat) (rs'':List Nat),p<k→k<q→plan[k]?=some (w,rs'')→∀t,zJm ops w=some t→t∉looks ops i∧zJm ops i≠some t:=by
  intro p q i j rs rs' hpq hp hq hi;have h1:=xZ7 hag hq hi;rw[Jq]at h1;have hql:=(List.getElem?_eq_some_iff.1 hq).1;have hrev:∀k,k<q→(plan.take q).reverse[q-1-k]?=plan[k]?:=by
   intro k hk;rw[List.getElem?_reverse (by simp;omega)]
   rw[Jh (by simp;omega)]
   congr 1;simp;omega
  obtain⟨h2,h3⟩:=xZb (p:=q-1-p) h1 (by rw[hrev p hpq];exact hp) (by
   intro k x hk hx e;have hk':k=q-1-(q-1-k):=by omega
   rw[hk',hrev (q-1-k) (by omega)]at hx
   have:=inj _ _ i x.2 rs (by rw[hx,←e]) hp
   omega)
  refine⟨h2,fun k w rs'' hpk hkq hk t ht=>h3 (q-1-k) w rs'' (by omega) (by rw[hrev k hkq];exact hk) t ht⟩
 refine⟨hlen, ?_, ?_,inj, ?_, ?_, ?_, ?_, ?_, ?_, ?_⟩
 ·intro i hi
  obtain⟨x,hx,hxi⟩:=hmem i hi;obtain⟨p,hp⟩:=List.mem_iff_getElem?.1 hx;exact⟨p,x.2,by rw[hp,←hxi]⟩
 ·intro p i rs hp;exact hlt _ (Ql hp)
 ·intro p j rs hp e he
  rcases wK8 hlin hp e he with h1|h1
  ·simp at h1
  ·exact h1
 ·intro i j hij
  by_cases hj:j<ops.size
  ·unfold anc at hij⊢
   rw[hbits j hj]at hij;rcases testBit_fold bs i (deps ops j) 0 hij with h1|⟨e,he,h1⟩
   ·simp at h1
   ·exact⟨e,he,h1⟩
  ·unfold anc at hij
   have:bs.getD j 0=0:=by simp[Array.getD,show¬j<bs.size by omega]
   rw[this]at hij;simp at hij
 ·intro p q i j rs rs' hpq hp hq ht
  have:=yQg hslots hpq hp hq;simpa[vQh ht]using this
 ·intro p q i j rs rs' hpq hp hq ht
  have:=yQg hl1 hpq hp hq;simpa[ht]using this
 ·intro p q i j rs rs' hpq hp hq ht
  have:=yQg hl2 hpq hp hq;simp only[ht,Bool.not_true,Wr,Kp]at this;rcases this with(h1|h1)|h1
  ·exact .inl h1
  ·exact .inr (.inl h1)
  ·exact .inr (.inr (by simpa using h1))
 ·intro p k q i w j rs rs'' rs' hpk hkq hp hk hq hi t ht
  exact(since p q i j rs rs' (by omega) hp hq hi).2 k w rs'' hpk hkq hk t ht
 ·intro p q i j rs rs' hpq hp hq hi
  exact(since p q i j rs rs' hpq hp hq hi).1
def uXv(ops:Array Oper):Array Nat:=Region.before ops
end Go.Eng
/- Code with plans. -/
namespace Go.Eng
set_option linter.unusedVariables false
abbrev zWk:=Nat→List (Nat×List Nat)
def toX(pl:zWk):Code→X
 | .skip=>.skip
 | .region id ops draw=>.region id ops draw (if draw then pl id else [])
 | .seq a b=>.seq (toX pl a) (toX pl b)
 | .cond c a b=>.cond c (toX pl a) (toX pl b)
 | .block id b=>.block id (toX pl b)
 | .loop b=>.loop (toX pl b)
 | .rangeFunc g ps a b=>.rangeFunc g ps (toX pl a) (toX pl b)
 | .exit id=>.exit id
 | .scope b=>.scope (toX pl b)
 | .label l=>.label l
 | .goto l=>.goto l
 | .ret=>.ret
 | .refuse _=>.skip
def okX(pl:zWk):Code→Bool
 | .region id ops draw=>!draw||uWc ops (pl id) (uXv ops)
 | .seq a b=>okX pl a&&okX pl b
 | .cond _ a b=>okX pl a&&okX pl b
 | .block _ b=>okX pl b
 | .loop b=>okX pl b
 | .scope b=>okX pl b
 | .rangeFunc _ _ a b=>okX pl a&&okX pl b
 | .refuse _=>false
 |_=>true
theorem toX_ok{pl:zWk}:∀{c:Code},okX pl c=true→(toX pl c).code=c∧(toX pl c).ok:=by
 intro c;induction c with
 |region id ops draw=>
  intro h;refine⟨rfl,fun hd=>?_⟩
  subst hd;simp[okX]at h;exact⟨_,vKx h⟩
 |seq a b iha ihb=>intro h;simp[okX]at h;have h1:=iha h.1;have h2:=ihb h.2;exact⟨by simp[toX,X.code,h1.1,h2.1],h1.2,h2.2⟩
 |cond c a b iha ihb=>intro h;simp[okX]at h;have h1:=iha h.1;have h2:=ihb h.2;exact⟨by simp[toX,X.code,h1.1,h2.1],h1.2,h2.2⟩
 |block id b ih=>intro h;have h1:=ih h;exact⟨by simp[toX,X.code,h1.1],h1.2⟩
 |loop b ih=>intro h;have h1:=ih h;exact⟨by simp[toX,X.code,h1.1],h1.2⟩
 |scope b ih=>intro h;have h1:=ih h;exact⟨by simp[toX,X.code,h1.1],h1.2⟩
 |rangeFunc g ps a b iha ihb=>intro h;simp[okX]at h;have h1:=iha h.1;have h2:=ihb h.2;exact⟨by simp[toX,X.code,h1.1,h2.1],h1.2,h2.2⟩
 |refuse=>intro h;simp[okX]at h
 |_=>intro _;exact⟨rfl,trivial⟩
inductive Tab (α:Type) where
 |leaf
 |node (l:Tab α) (v:Option α) (r:Tab α)
def Tab.get{α:Type}:Tab α→Nat→Option α
 | .leaf,_=>none
 | .node l v r,n=>if n=0 then v else if n % 2=1 then l.get (n/2)else r.get (n/2-1)
end Go.Eng
/- A program's tables, looked at. -/
namespace Go.Eng
set_option linter.unusedVariables false
def Tab.allB{α:Type}(f:Nat→α→Bool):Tab α→(Nat→Nat)→Bool
 | .leaf,_=>true
 | .node l v r,g=>(match v with|some x=>f (g 0) x|none=>true)&&Tab.allB f l (fun m=>g (2*m+1))&&Tab.allB f r (fun m=>g (2*m+2))
theorem Tab.xYh{α:Type}{f:Nat→α→Bool}:∀{t:Tab α} {g:Nat→Nat} {n:Nat} {x:α},t.allB f g=true→t.get n=some x→f (g n) x=true
 | .leaf,g,n,x,h,hx=>by simp[Tab.get]at hx
 | .node l v r,g,n,x,h,hx=>by
  simp only[Tab.allB,Qc]at h;obtain⟨⟨h1,h2⟩,h3⟩:=h;simp only[Tab.get]at hx;split at hx
  ·rename_i h0;subst h0;subst hx;exact h1
  ·split at hx
   ·rename_i h0 hodd
    have:=Tab.xYh h2 hx;simpa[show 2*(n/2)+1=n by omega]using this
   ·rename_i h0 hev
    have:=Tab.xYh h3 hx;simpa[show 2*(n/2-1)+2=n by omega]using this
def fitB(P:Program)(t:TypeId)(i:TI):Bool:=
 (match P.info? t with
 | some inf=>match inf.zero with
  |some z=>inf.size==i.size&&inf.bytes==i.bytes&&(match ofVs z.cells.toList with
   |some cs=>CV.yZb cs i.zero
   |none=>false)&&i.zero.length==i.size&&inf.comparable==i.comparable&&zYc z==i.agg
  |none=>false
 |none=>false)&&i.agg==vYs i.desc&&(i.agg||i.size==1)&&P.stoodInHeld t==i.held&&P.eqGuardType P.depth t==i.eqg
theorem zX9:∀(a b:List CV),CV.yZb a b=true→a=b:=CV.zX9
theorem uXd{P:Program}{t:TypeId}{i:TI}(h1:P.underlying t=some i.desc)(h:fitB P t i=true):TyFits P t i:=by
 simp only[fitB,Qc,beq_iff_eq]at h;obtain⟨⟨⟨⟨h2,h3⟩,h4⟩,h5⟩,h6⟩:=h;refine⟨h1, ?_,h3, ?_,h5,h6⟩
 ·split at h2<;>(try (simp at h2;done))
  rename_i inf hinf;split at h2<;>(try (simp at h2;done))
  rename_i z hz;simp only[Qc,beq_iff_eq]at h2;obtain⟨⟨⟨⟨⟨a1,a2⟩,a3⟩,a4⟩,a5⟩,a6⟩:=h2;split at a3<;>(try (simp at a3;done))
  rename_i cs hcs;exact⟨inf,z,hinf,a1,a2,hz,by rw[hcs,zX9 _ _ a3],a4,a5,a6⟩
 ·intro ha
  rw[ha]at h4;simpa using h4
inductive Tab.All {α:Type} (f:Nat→α→Prop):Tab α→(Nat→Nat)→Prop where
 |leaf (g:Nat→Nat):Tab.All f .leaf g
 |none (g:Nat→Nat) {l r:Tab α} (hl:Tab.All f l (fun m=>g (2*m+1))) (hr:Tab.All f r (fun m=>g (2*m+2))):Tab.All f (.node l none r) g
 |some (g:Nat→Nat) {l r:Tab α} (x:α) (h:f (g 0) x) (hl:Tab.All f l (fun m=>g (2*m+1))) (hr:Tab.All f r (fun m=>g (2*m+2))):Tab.All f (.node l (some x) r) g
theorem Tab.All.get{α:Type}{f:Nat→α→Prop}{t:Tab α}{g:Nat→Nat}(a:Tab.All f t g):∀{n:Nat} {x:α},t.get n=Option.some x→f (g n) x:=by
 induction a with
 |leaf g=>intro n x hx;simp[Tab.get]at hx
 | none g hl hr ihl ihr=>
  intro n x hx;simp only[Tab.get]at hx;split at hx
  ·simp at hx
  ·split at hx
   ·have:=ihl hx
    simpa[show 2*(n/2)+1=n by omega]using this
   ·have:=ihr hx
    simpa[show 2*(n/2-1)+2=n by omega]using this
 | some g y h hl hr ihl ihr=>
  intro n x hx;simp only[Tab.get]at hx;split at hx
  ·rename_i h0;subst h0;simp at hx;subst hx;exact h
  ·split at hx
   ·have:=ihl hx
    simpa[show 2*(n/2)+1=n by omega]using this
   ·have:=ihr hx
    simpa[show 2*(n/2-1)+2=n by omega]using this
theorem tysOk{P:Program}{tys:Tab TI}(hu:Tab.All (fun t i=>P.underlying t=some i.desc) tys id)(h:tys.allB (fitB P) id=true):Ty.Ok tys.get P:=fun t i hi=>uXd (hu.get hi) (Tab.xYh h hi)
def zQw(P:Program)(f:FuncId)(xf:XFunc):Prop:=
 ∃ fn, P.funcs[f]? = some fn ∧ (fn.name == "runtime.NumGoroutine") = false ∧ fn.body = some xf.body.code ∧ fn.ntmps = xf.ntmps ∧ fn.results.toList = xf.results ∧ xf.body.ok
def xOf(fn:Func)(pl:zWk):XFunc:={ntmps:=fn.ntmps,results:=fn.results.toList,body:=match fn.body with
  |some b=>toX pl b
  |none=>.skip}
def fnB (fn : Func) (pl : zWk) : Bool := fn.name != "runtime.NumGoroutine" && (match fn.body with
 |some b=>okX pl b
 |none=>false)
theorem zQ3{P:Program}{f:FuncId}{fn:Func}{pl:zWk}(hf:P.funcs[f]?=some fn)(h:fnB fn pl=true):zQw P f (xOf fn pl):=by
 simp only[fnB,Qc,bne_iff_ne,ne_eq]at h;obtain⟨h1,h2⟩:=h;cases hb:fn.body with
 |none=>rw[hb]at h2;simp at h2
 |some b=>
  rw[hb]at h2;obtain⟨h3,h4⟩:=toX_ok h2;exact⟨fn,hf,by simpa using h1,by simp[xOf,hb,h3],rfl,rfl,by simpa[xOf,hb]using h4⟩
theorem uWd{P:Program}{tys:Tab TI}{fns:Tab XFunc}{lit:FuncId→Bool}{pures:FuncId→Option (List TypeId)}(h1:Ty.Ok tys.get P)(h2:Tab.All (zQw P) fns id)(h3:P.follows .mixedOrders=true):
  Cfg.Ok P {ty:=tys.get,code:=fns.get,glob:=fun _=>none,lit,sum:=fun _=>none,pure:=pures}:=
 ⟨h1,fun f xf hx=>h2.get hx,fun f F hF=>by simp at hF,h3,fun i v h=>by simp at h,fun f h=>by simp at h⟩
end Go.Eng
/- What a law without arguments says, when it answers one thing. -/
namespace Go.Eng
open Go.ChangeShapes Go.WideShapes Go.ChangeAt Go.RowKit
set_option linter.unusedVariables false
variable {H:Type} {enc:TypeId×Value→H} {P:Program}
theorem wJ6{f:Func}{s:ChangeSpec}{apart fresh handsOn again:Bool}{W W':World}{args:Array Value}{v:Value}{ds gs:List (DataW H)}{before pa pv:List MemPlace}
  (hW:DataW.Whole enc P f.params.toList s.vars apart W args.toList ds gs before)
  (hres:∀(b:Nat) (sp:Nat→Bool) (hd:Bool),DataW.TrodAll enc P W' b sp hd f.resultTypes.toList (v.resultList f.resultTypes.size) (s.fn H (ds++gs)).results [])
  (hargs:∀sp:Nat→Bool,(∀p∈before,sp p.block=true)→DataW.TrodAll enc P W' 0 sp true f.params.toList args.toList (s.fn H (ds++gs)).args pa)
  (hvars:∀sp:Nat→Bool,(∀p∈before,sp p.block=true)→DataW.TrodVars enc P W' sp s.vars (s.fn H (ds++gs)).vars pv)
  (hps:before=pa++pv) (hb:Below W.heap.size W W')
  (hok:∀(j:Nat) (t:TypeId) (r:Value),f.resultTypes[j]?=some t→(v.resultList f.resultTypes.size)[j]?=some r→Value.okWide P W' .any 0 t r):
  s.post enc P f apart fresh handsOn again W args v W':=by
 have hold:∀p∈before,(fun b=>decide (b<W.heap.size)) p.block=true:=fun p hp=>by simpa using hW.lt p hp
 have hlt:=hW.lt;refine⟨ds,gs,before,[],pa,pv,hW,hres _ _ _,hargs _ hold,hvars _ hold,World.keptBut_mono (fun p hp=>⟨hp, ?_⟩) (hb.frame _),fun _=>?_⟩
 ·rw[hps,Qy]at hp
  exact Or.inr hp
 ·obtain⟨_,_,_,_,_,hz,hn⟩:=hW
  refine⟨hok,_,_,([]++pa)++pv,⟨[]++pa,pv,trodAll_append (hargs _ (fun _ _=>rfl)) (hres _ _ _),hvars _ (fun _ _=>rfl),rfl, ?_, ?_⟩, ?_⟩
  ·intro b off hp
   have hmem:MemPlace.cell b off∈before:=by rw[hps];simpa using hp
   rw[hb.frozen (show b<W.heap.size from hlt _ hmem)]
   exact hz b off (by rw[hps];simpa using hp)
  ·intro ha
   have:=hn ha;rw[hps]at this;simpa using this
  ·intro p hp _
   rw[hps];simpa using hp
end Go.Eng
