/- The engine, part 1. -/
import Derived.Calls
import Derived.Orders
import Derived.Laws.World
import Derived.Laws.Sem
import Derived.Below
import Derived.Laws.Rows
import Derived.Laws.Tables
import Derived.Laws.CopyRow
import Derived.Laws.Append
import Derived.Laws.Strings
import GoSem.Op.Equal
import Derived.Laws.StructEq
import GoSem.Dispatch
import Derived.Laws.MakeOwn
import Derived.Laws.Build
set_option linter.unusedSimpArgs false
/- Code with the order in which a region is gone through. -/
namespace Go.Eng
abbrev Qa:= @Option.some.injEq
abbrev Qb:= @List.getElem?_append_left
abbrev Qc:= @Bool.and_eq_true
abbrev Qd:= @List.getElem?_set_ne
abbrev Qe:= @Nat.le_refl
abbrev Qf:= @if_pos
abbrev Qg:= @List.map_cons
abbrev Qh:= @List.length_map
abbrev Qi:= @if_neg
abbrev Qj:= @List.getElem?_append_right
abbrev Qk:= @List.getElem?_set_self
abbrev Ql:= @List.mem_of_getElem?
abbrev Qm:= @List.getElem?_eq_getElem
abbrev Qn:= @Nat.mul_le_mul_right
abbrev Qo:= @List.flatMap_cons
abbrev Qp:= @List.mem_cons_of_mem
abbrev Qq:= @List.all_eq_true
abbrev Qr:= @List.length_eq_zero_iff
abbrev Qt:= @List.getElem?_map
abbrev Qu:= @decide_eq_true
abbrev Qv:= @List.mem_append_left
abbrev Qw:= @List.map_append
abbrev Qx:= @decide_eq_false
abbrev Qy:= @List.mem_append
abbrev Qz:= @Nat.add_mul
abbrev Q5:= @List.length_append
abbrev Q6:= @List.flatMap_map
abbrev Q7:= @List.mem_append_right
abbrev Q8:= @List.map_nil
abbrev Q9:= @List.take_of_length_le
abbrev Ja:= @List.take_append_drop
abbrev Jb:= @List.map_set
abbrev Jc:= @List.length_cons
abbrev Jd:= @Nat.zero_le
abbrev Je:= @Prod.mk.injEq
abbrev Jf:= @List.length_take
abbrev Jg:= @List.mem_cons_self
abbrev Jh:= @List.getElem?_take_of_lt
abbrev Ji:= @List.mem_map
abbrev Jj:= @List.take_length
abbrev Jk:= @Array.length_toList
abbrev Jl:= @List.drop_eq_getElem_cons
abbrev Jm:= @List.mem_cons
abbrev Jn:= @List.append_assoc
abbrev Jo:= @Nat.zero_add
abbrev Jp:= @Nat.add_assoc
abbrev Jq:= @List.append_nil
abbrev Jr:= @List.getElem?_drop
abbrev Js:= @List.take_append_of_le_length
abbrev Jt:= @List.drop_zero
abbrev Ju:= @Option.map_some
abbrev Jv:= @Bool.false_eq_true
abbrev Jw:= @Ne.symm
abbrev Jx:= @List.drop_eq_nil_of_le
abbrev Jy:= @List.ext_getElem?
abbrev Jz:= @List.pairwise_cons
abbrev J0:= @List.mem_flatMap
abbrev J1:= @List.map_take
abbrev J2:= @List.getElem?_eq_none
abbrev J3:= @Bool.not_eq_true'
abbrev J4:= @List.map_congr_left
abbrev J5:= @List.map_map
abbrev J6:= @List.length_drop
abbrev J7:= @List.all_cons
abbrev J8:= @Option.map_eq_some_iff
abbrev J9:= @List.map_drop
abbrev Ka:= @List.getElem_mem
abbrev Kb:= @List.flatMap_append
abbrev Kc:= @Option.bind_some
abbrev Kd:= @List.find?_cons_of_neg
abbrev Ke:= @Array.ext'
abbrev Kf:= @Nat.le_trans
abbrev Kg:= @Nat.succ_mul
abbrev Kh:= @List.length_set
abbrev Ki:= @Nat.add_sub_cancel_left
abbrev Kj:= @List.size_toArray
abbrev Kk:= @List.mem_of_mem_take
abbrev Kl:= @List.replicate_succ
abbrev Km:= @List.contains_eq_mem
abbrev Kn:= @List.getElem?_append
abbrev Ko:= @List.getElem?_take
abbrev Kp:= @Bool.or_eq_true
abbrev Kq:= @List.filter_cons
abbrev Kr:= @congrArg
abbrev Ks:= @Nat.add_zero
abbrev Kt:= @Nat.lt_of_lt_of_le
abbrev Ku:= @List.getElem?_of_mem
abbrev Kv:= @List.mem_of_mem_drop
abbrev Kw:= @Option.bind_eq_some_iff
abbrev Kx:= @List.any_eq_false
abbrev Ky:= @List.drop_left
abbrev Kz:= @List.take_left
abbrev K0:= @List.take_succ_eq_append_getElem
abbrev K1:= @List.mem_filter
abbrev K2:= @List.nil_append
abbrev K3:= @Array.getElem?_toList
abbrev K4:= @List.filter_append
abbrev K5:= @Bool.true_and
abbrev K6:= @List.eq_of_mem_replicate
abbrev K7:= @List.mapM_cons
abbrev K8:= @List.getElem?_cons_zero
abbrev K9:= @of_decide_eq_true
abbrev Wa:= @List.length_nil
abbrev Wb:= @List.map_replicate
abbrev Wc:= @List.length_replicate
abbrev Wd:= @Function.comp_def
abbrev We:= @List.flatten_cons
abbrev Wf:= @Nat.mul_one
abbrev Wg:= @Bool.and_self
abbrev Wh:= @Option.isSome_iff_exists
abbrev Wi:= @Array.toList_replicate
abbrev Wj:= @List.find?_eq_none
abbrev Wk:= @Option.isSome_none
abbrev Wl:= @Option.some.inj
abbrev Wm:= @List.mem_range
abbrev Wn:= @Option.getD_some
abbrev Wo:= @List.mem_or_eq_of_mem_set
abbrev Wp:= @Array.toList_append
abbrev Wq:= @Option.bind_eq_bind
abbrev Wr:= @Bool.false_or
abbrev Ws:= @List.drop_of_length_le
abbrev Wt:= @List.getElem?_set
abbrev Wu:= @List.replicate_append_replicate
set_option linter.unusedVariables false
def zKp:Op→Bool
 | .store .. | .mapUpdate .. | .panic _=>true
 | .call cl=>match cl.callee with
  | .builtin .len| .builtin .cap| .builtin .max| .builtin .min=>false
  |_=>true
 |_=>false
def xKk:Op→Bool
 | .move _| .assign _| .pick .. | .alloc _| .box .. | .build .. | .buildSlice .. | .unOp .. | .makeInterface .. | .makeFunc .. | .makeMap .. | .makeSlice .. | .field .. | .index .. | .typeAssert .. | .extract ..=>true
 |_=>false
def deps(ops:Array Oper)(i:Nat):List Nat:=((ops[i]?).map fun o=>(o.after.toList.filter (Region.binds .any)).map (·.on)).getD []
def anc(bs:Array Nat)(i j:Nat):Bool:=(bs.getD j 0).testBit i
def looks(ops:Array Oper)(i:Nat):List Tmp:=((ops[i]?).map (·.looksAt ops)).getD []
def zJm(ops:Array Oper)(i:Nat):Option Tmp:=(ops[i]?).bind (·.dst)
def xZp(ops:Array Oper)(i:Nat):Bool:=((ops[i]?).map fun o=>zKp o.op).getD false
def wW0(ops:Array Oper)(i:Nat):Bool:=((ops[i]?).map fun o=>xKk o.op).getD false
def touch(ops:Array Oper)(i j:Nat):Prop:=∃d,(zJm ops i=some d∧(d∈looks ops j∨zJm ops j=some d))∨(zJm ops j=some d∧d∈looks ops i)
structure PlanOkW (ops:Array Oper) (plan:List (Nat×List Nat)) (bs:Array Nat):Prop where
 len:plan.length=ops.size
 mem:∀i,i<ops.size→∃(p:Nat) (rs:List Nat),plan[p]?=some (i,rs)
 lt:∀(p i:Nat) (rs:List Nat),plan[p]?=some (i,rs)→i<ops.size
 inj:∀(p q i:Nat) (rs rs':List Nat),plan[p]?=some (i,rs)→plan[q]?=some (i,rs')→p=q
 lin:∀(p j:Nat) (rs:List Nat),plan[p]?=some (j,rs)→∀e∈deps ops j,∃(q:Nat) (rs':List Nat),q<p∧plan[q]?=some (e,rs')
 step:∀i j,anc bs i j=true→∃e∈deps ops j,e=i∨anc bs i e=true
 slots:∀(p q i j:Nat) (rs rs':List Nat),p<q→plan[p]?=some (i,rs)→plan[q]?=some (j,rs')→touch ops i j→anc bs i j=true
 loud1:∀(p q i j:Nat) (rs rs':List Nat),p<q→plan[p]?=some (i,rs)→plan[q]?=some (j,rs')→xZp ops i=true→anc bs i j=true
 loud2:∀(p q i j:Nat) (rs rs':List Nat),p<q→plan[p]?=some (i,rs)→plan[q]?=some (j,rs')→xZp ops j=true→anc bs i j=true∨wW0 ops i=true∨i∈rs'
 again:∀(p k q i w j:Nat) (rs rs'' rs':List Nat),p<k→k<q→plan[p]?=some (i,rs)→plan[k]?=some (w,rs'')→plan[q]?=some (j,rs')→i∈rs'→∀t,zJm ops w=some t→t∉looks ops i∧zJm ops i≠some t
 again0:∀(p q i j:Nat) (rs rs':List Nat),p<q→plan[p]?=some (i,rs)→plan[q]?=some (j,rs')→i∈rs'→∀t,zJm ops i=some t→t∉looks ops i
def vZ2(ops:Array Oper)(plan:List (Nat×List Nat)):Prop:=∃bs,PlanOkW ops plan bs
inductive X where
 |skip
 |region (id:Nat) (ops:Array Oper) (draw:Bool) (plan:List (Nat×List Nat))
 |seq (a b:X)
 |cond (c:Operand) (thn els:X)
 |block (id:Nat) (body:X)
 |loop (body:X)
 |rangeFunc (g:Operand) (ps:Array Tmp) (assign body:X)
 |exit (id:Nat)
 |scope (body:X)
 |label (l:Nat)
 |goto (l:Nat)
 |ret
 deriving Inhabited
def X.code:X→Code
 | .skip=>.skip
 | .region id ops draw _=>.region id ops draw
 | .seq a b=>.seq a.code b.code
 | .cond c a b=>.cond c a.code b.code
 | .block id b=>.block id b.code
 | .loop b=>.loop b.code
 | .rangeFunc g ps a b=>.rangeFunc g ps a.code b.code
 | .exit id=>.exit id
 | .scope b=>.scope b.code
 | .label l=>.label l
 | .goto l=>.goto l
 | .ret=>.ret
def X.ok:X→Prop
 | .region _ ops draw plan=>draw=true→vZ2 ops plan
 | .seq a b=>a.ok∧b.ok
 | .cond _ a b=>a.ok∧b.ok
 | .block _ b=>b.ok
 | .loop b=>b.ok
 | .rangeFunc _ _ a b=>a.ok∧b.ok
 | .scope b=>b.ok
 |_=>True
def yWi:X→Nat→Option X
 | .seq a b,l=>match yWi a l with
  |some rest=>some (.seq rest b)
  |none=>yWi b l
 | .label l',l=>if l'==l then some .skip else none
 |_,_=>none
theorem wZz(l:Nat):∀b:X,findLabel b.code l=(yWi b l).map X.code:=by
 intro b;induction b with
 |seq a b iha ihb=>
  simp only[X.code,findLabel,yWi,iha];cases yWi a l with
  |some q=>rfl
  |none=>simpa using ihb
 |label l'=>simp only[X.code,findLabel,yWi];split<;>rfl
 |_=>rfl
inductive Jump where
 |ret
 |exit (id:Nat)
 |goto (l:Nat)
 deriving Inhabited
def Jump.code:Jump→Code
 | .ret=>.ret
 | .exit id=>.exit id
 | .goto l=>.goto l
end Go.Eng
/- The clean values and heap, and how they stand for the model's. -/
namespace Go.Eng
inductive CV where
 |junk
 |bool (b:Bool)
 |int (k:IntKind) (n:Int)
 |str (s:List UInt8)
 |nilptr
 |ptr (b off:Nat)
 |rop (v:CV)
 |slice (esz:Nat) (xs:List CV) (tok:Option Nat) (full:Bool)
 |sref (esz b off len cap:Nat) (ex:Bool)
 |gref (esz b k off len gen:Nat)
 |gptr (b k off gen:Nat)
 |map (b:Nat)
 |nilmap
 |func (f:FuncId) (first captured:List CV)
 |yield (l:Nat)
 |nilfunc
 |iface (t:TypeId) (v:CV)
 |niliface
 |agg (cs:List CV)
 |tuple (vs:List CV)
 deriving Inhabited
def CV.flat:CV→List CV
 | .agg cs=>cs
 |v=>[v]
structure Row where
 blk:Option (Nat×Nat×Nat)
 u:Nat
inductive Ent where
 |rows (rs:List Row)
 |own (r base size:Nat)
 |tail (r used u size:Nat)
 |obj (r:Nat)
 |void (u:Nat)
 |dead
def Ent.has:Ent→Nat→Prop
 | .rows rs,x=>∃row∈rs,∃base lim,row.blk=some (x,base,lim)
 | .own r _ _,x=>r=x
 | .tail r _ _ _,x=>r=x
 | .obj r,x=>r=x
 | .void _,_=>False
 | .dead,_=>False
abbrev Phi:=Nat→Option Ent
abbrev Stab:=Nat→Nat→Prop
def At(St:Stab)(w:World)(a:Addr)(vs:List Value):Prop:=
 a.spot=none∧∀j v,vs[j]?=some v→St a.block (a.off+j)∧w.cell? ⟨a.block,a.off+j,none⟩=some v
def yY0(φ:Phi)(tok:Option Nat)(a:Option Addr)(len esz cap:Nat):Prop:=
 match tok with
 |none=>True
 | some k=>φ k≠none∧(∀u,φ k=some (.void u)→len≤u∧(len=u→cap=len))∧∀r used u size,φ k=some (.tail r used u size)→len≤u∧
   (len=u→∃a',a=some a'∧a'.spot=none∧a'.block=r∧a'.off+len*esz=used∧a'.off+cap*esz≤size)
def GOk(row:Row)(a:Option Addr)(esz off cap:Nat):Prop:=
 match row.blk with
 |some (r,base,lim)=>a=some ⟨r,base+off,none⟩∧off+cap*esz≤lim
 |none=>cap=0
mutual
inductive VR (φ:Phi) (St:Stab) (w:World):CV→Value→Prop where
 |junk (v:Value):VR φ St w .junk v
 |bool (b:Bool):VR φ St w (.bool b) (.bool b)
 |int (k:IntKind) (n:Int):VR φ St w (.int k n) (.int k n)
 |str (s:List UInt8) (t:ByteArray) (h:t.data.toList=s):VR φ St w (.str s) (.string t)
 |nilptr:VR φ St w .nilptr (.pointer none)
 |ptr (b off r base size:Nat) (h:φ b=some (.own r base size)):VR φ St w (.ptr b off) (.pointer (some ⟨r,base+off,none⟩))
 |ptrDead (b off:Nat) (a:Addr) (h:φ b=some .dead):VR φ St w (.ptr b off) (.pointer (some a))
 |rop (c:CV) (a:Addr) (vs:List Value) (hat:At St w a vs) (hvs:VRL φ St w c.flat vs):VR φ St w (.rop c) (.pointer (some a))
 | slice (esz:Nat) (xs:List CV) (tok:Option Nat) (full:Bool) (a:Option Addr) (cap:Nat) (vs:List Value)
   (hat:xs=[]∨∃a',a=some a'∧At St w a' vs) (hvs:VRL φ St w (xs.flatMap CV.flat) vs) (hsz:∀x∈xs,x.flat.length=esz)
   (hcap:xs.length≤cap) (hfull:full=true→cap=xs.length) (htok:yY0 φ tok a xs.length esz cap):VR φ St w (.slice esz xs tok full) (.slice a xs.length cap)
 | sref (esz b off len cap:Nat) (ex:Bool) (r base size rcap:Nat) (h:φ b=some (.own r base size)) (hcap:cap≤rcap) (hlen:len≤cap)
   (hex:ex=true→rcap=cap) (hsize:base+off+rcap*esz≤size):VR φ St w (.sref esz b off len cap ex) (.slice (some ⟨r,base+off,none⟩) len rcap)
 |srefDead (esz b off len cap:Nat) (ex:Bool) (a:Addr) (rcap:Nat) (h:φ b=some .dead):VR φ St w (.sref esz b off len cap ex) (.slice (some a) len rcap)
 | gref (esz b k off len gen:Nat) (rs:List Row) (a:Option Addr) (cap:Nat) (h:φ b=some (.rows rs)) (hcap:len≤cap)
   (hrow:cap=0∨(k<rs.length∧∀row:Row,rs[k]?=some row→gen≤row.u∧(row.u=gen→GOk row a esz off cap))):VR φ St w (.gref esz b k off len gen) (.slice a len cap)
 |grefDead (esz b k off len gen:Nat) (a:Option Addr) (cap:Nat) (h:φ b=some .dead) (hcap:len≤cap):VR φ St w (.gref esz b k off len gen) (.slice a len cap)
 | gptr (b k off gen:Nat) (rs:List Row) (p:Option Addr) (h:φ b=some (.rows rs)) (hk:k<rs.length)
   (hrow:∀row:Row,rs[k]?=some row→gen≤row.u∧(row.u=gen→∃r base lim,row.blk=some (r,base,lim)∧p=some ⟨r,base+off,none⟩)):VR φ St w (.gptr b k off gen) (.pointer p)
 |gptrDead (b k off gen:Nat) (p:Option Addr) (h:φ b=some .dead):VR φ St w (.gptr b k off gen) (.pointer p)
 |map (b r:Nat) (h:φ b=some (.obj r)):VR φ St w (.map b) (.map (some r))
 |mapDead (b r:Nat) (h:φ b=some .dead):VR φ St w (.map b) (.map (some r))
 |nilmap:VR φ St w .nilmap (.map none)
 | func (f:FuncId) (xs ys:List CV) (us vs:List Value) (hu:VRL φ St w xs us) (hv:VRL φ St w ys vs):
   VR φ St w (.func f xs ys) (.func (.func f) us.toArray vs.toArray)
 |yield (l r:Nat) (h:φ l=some (.obj r)):VR φ St w (.yield l) (.func (.yield r) #[] #[])
 |yieldDead (l r:Nat) (h:φ l=some .dead):VR φ St w (.yield l) (.func (.yield r) #[] #[])
 |nilfunc:VR φ St w .nilfunc .nilFunc
 |iface (t:TypeId) (c:CV) (v:Value) (h:VR φ St w c v):VR φ St w (.iface t c) (.iface t v)
 |niliface:VR φ St w .niliface .nilIface
 |agg (cs:List CV) (vs:List Value) (h:VRL φ St w cs vs):VR φ St w (.agg cs) (.agg vs.toArray)
 |tuple (cs:List CV) (vs:List Value) (h:VRL φ St w cs vs):VR φ St w (.tuple cs) (.tuple vs.toArray)
inductive VRL (φ:Phi) (St:Stab) (w:World):List CV→List Value→Prop where
 |nil:VRL φ St w [] []
 |cons (c:CV) (v:Value) (cs:List CV) (vs:List Value) (h:VR φ St w c v) (hs:VRL φ St w cs vs):VRL φ St w (c::cs) (v::vs)
end
inductive Ent.le:Option Ent→Option Ent→Prop where
 |fresh (x:Option Ent):Ent.le none x
 |same (e:Ent):Ent.le (some e) (some e)
 |die (e:Ent):Ent.le (some e) (some .dead)
 |fill (u0 r used u size:Nat) (h:u0<u):Ent.le (some (.void u0)) (some (.tail r used u size))
 |grow (r used u size r' used' u' size':Nat) (h:u<u'):Ent.le (some (.tail r used u size)) (some (.tail r' used' u' size'))
 |rows (rs rs':List Row) (h:∀(k:Nat) (row:Row),rs[k]?=some row→∃row':Row,rs'[k]?=some row'∧(row'=row∨row.u<row'.u)):Ent.le (some (.rows rs)) (some (.rows rs'))
theorem Ent.le.refl(x:Option Ent):Ent.le x x:=by
 cases x with
 |none=>exact .fresh _
 |some e=>exact .same e
theorem Ent.le.trans{x y z:Option Ent}(h:Ent.le x y)(k:Ent.le y z):Ent.le x z:=by
 cases h with
 |fresh=>exact .fresh _
 |same=>exact k
 |die=>cases k with
  |same=>exact .die _
  |die=>exact .die _
 |fill u0 r used u size hu=>cases k with
  |same=>exact .fill _ _ _ _ _ hu
  |die=>exact .die _
  |grow _ _ _ _ _ _ _ _ h'=>exact .fill _ _ _ _ _ (by omega)
 |grow r used u size r' used' u' size' hu=>cases k with
  |same=>exact .grow _ _ _ _ _ _ _ _ hu
  |die=>exact .die _
  |grow _ _ _ _ _ _ _ _ h'=>exact .grow _ _ _ _ _ _ _ _ (by omega)
 | rows rs rs' h1=>cases k with
  |same=>exact .rows _ _ h1
  |die=>exact .die _
  |rows _ rs'' h2=>
   refine .rows _ _ fun k row hk=>?_
   obtain⟨row',e1,e2⟩:=h1 k row hk;obtain⟨row'',e3,e4⟩:=h2 k row' e1;refine⟨row'',e3, ?_⟩;rcases e2 with rfl|e2<;>rcases e4 with rfl|e4
   ·exact .inl rfl
   ·exact .inr e4
   ·exact .inr e2
   ·exact .inr (by omega)
theorem Ent.le.own{x:Option Ent}{r base size:Nat}(h:Ent.le (some (.own r base size)) x):x=some (.own r base size)∨x=some .dead:=by
 cases h<;>simp
theorem Ent.le.rowsOf{x:Option Ent}{rs:List Row}(h:Ent.le (some (.rows rs)) x):x=some .dead∨∃rs',x=some (.rows rs')∧∀(k:Nat) (row:Row),rs[k]?=some row→∃row':Row,rs'[k]?=some row'∧(row'=row∨row.u<row'.u):=by
 cases h with
 |same=>exact .inr ⟨rs,rfl,fun k row hk=>⟨row,hk, .inl rfl⟩⟩
 |die=>exact .inl rfl
 |rows _ rs' h=>exact .inr ⟨rs',rfl,h⟩
theorem Ent.le.obj{x:Option Ent}{r:Nat}(h:Ent.le (some (.obj r)) x):x=some (.obj r)∨x=some .dead:=by
 cases h<;>simp
theorem Ent.le.dead{x:Option Ent}(h:Ent.le (some .dead) x):x=some .dead:=by
 cases h<;>rfl
structure Mono (φ:Phi) (St:Stab) (w:World) (φ':Phi) (St':Stab) (w':World):Prop where
 ext:∀b,Ent.le (φ b) (φ' b)
 st:∀r j,St r j→St' r j
 keep:∀r j,St r j→w'.cell? ⟨r,j,none⟩=w.cell? ⟨r,j,none⟩
theorem Mono.refl(φ:Phi)(St:Stab)(w:World):Mono φ St w φ St w:=⟨fun _=>.refl _,fun _ _ h=>h,fun _ _ _=>rfl⟩
theorem Mono.trans{φ φ' φ'':Phi}{St St' St'':Stab}{w w' w'':World}(h:Mono φ St w φ' St' w')(k:Mono φ' St' w' φ'' St'' w''):Mono φ St w φ'' St'' w'':=
 ⟨fun b=>(h.ext b).trans (k.ext b),fun r j x=>k.st r j (h.st r j x),fun r j x=>(k.keep r j (h.st r j x)).trans (h.keep r j x)⟩
theorem At.mono{φ φ':Phi}{St St':Stab}{w w':World}(m:Mono φ St w φ' St' w'){a:Addr}{vs:List Value}(h:At St w a vs):At St' w' a vs:=
 ⟨h.1,fun j v hv=>let⟨x,y⟩:=h.2 j v hv;⟨m.st _ _ x,(m.keep _ _ x).trans y⟩⟩
theorem yY0.mono{φ φ':Phi}(ext:∀b,Ent.le (φ b) (φ' b)){tok:Option Nat}{a:Option Addr}{len esz cap:Nat}(h:yY0 φ tok a len esz cap):
  yY0 φ' tok a len esz cap:=by
 unfold yY0 at *;cases tok with
 |none=>trivial
 | some k=>
  simp only at *;obtain⟨hn,hv,h⟩:=h;have e:=ext k;cases hk:φ k with
  |none=>exact absurd hk hn
  | some x=>
   rw[hk]at e;refine⟨?_, ?_, ?_⟩
   ·intro hc;rw[hc]at e;cases e
   ·intro u0 hc;rw[hc]at e;cases e;exact hv _ hk
   ·intro r used u size hk'
    rw[hk']at e;cases e with
    |same=>exact h _ _ _ _ hk
    |fill _ _ _ _ _ hu=>have:=(hv _ hk).1;exact⟨by omega,fun hh=>by omega⟩
    |grow r0 used0 u0 size0 _ _ _ _ hu=>
     have:=(h _ _ _ _ hk).1;exact⟨by omega,fun hh=>by omega⟩
theorem VR.mono{φ φ':Phi}{St St':Stab}{w w':World}(m:Mono φ St w φ' St' w'){c:CV}{v:Value}(h:VR φ St w c v):VR φ' St' w' c v:=by
 refine VR.rec (motive_1:=fun c v _=>VR φ' St' w' c v) (motive_2:=fun c v _=>VRL φ' St' w' c v) ?junk ?bool ?int ?str ?nilptr ?ptr ?ptrDead ?rop ?slice ?sref ?srefDead ?gref ?grefDead ?gptr ?gptrDead ?map ?mapDead
  ?nilmap ?func ?yield ?yieldDead ?nilfunc ?iface ?niliface ?agg ?tuple ?nil ?cons h
 case junk=>exact fun _=>.junk _
 case bool=>exact fun _=>.bool _
 case int=>exact fun _ _=>.int _ _
 case str=>exact fun s t h=>.str s t h
 case nilptr=>exact .nilptr
 case ptr=>
  intro b off r base size h;have e:=m.ext b;rw[h]at e;rcases e.own with e|e
  ·exact .ptr _ _ _ _ _ e
  ·exact .ptrDead _ _ _ e
 case ptrDead=>intro b off _ h;have e:=m.ext b;rw[h]at e;exact .ptrDead _ _ _ e.dead
 case rop=>intro c a vs hat _ hvs;exact .rop c a vs (hat.mono m) hvs
 case slice=>
  intro esz xs tok full a cap vs hat _ hsz hcap hfull htok hvs;exact .slice esz xs tok full a cap vs (hat.imp id fun⟨a',e,h⟩=>⟨a',e,h.mono m⟩) hvs hsz hcap hfull (htok.mono m.ext)
 case sref=>
  intro esz b off len cap ex r base size rcap h h1 h2 h3 h4;have e:=m.ext b;rw[h]at e;rcases e.own with e|e
  ·exact .sref _ _ _ _ _ _ _ _ _ _ e h1 h2 h3 h4
  ·exact .srefDead _ _ _ _ _ _ _ _ e
 case srefDead=>intro esz b off len cap ex _ _ h;have e:=m.ext b;rw[h]at e;exact .srefDead _ _ _ _ _ _ _ _ e.dead
 case gref=>
  intro esz b k off len gen rs a cap h hcap hrow;have e:=m.ext b;rw[h]at e;rcases e.rowsOf with e|⟨rs',e,h'⟩
  ·exact .grefDead _ _ _ _ _ _ _ _ e hcap
  rcases hrow with h0|⟨hk,hrow⟩
  ·exact .gref _ _ _ _ _ _ rs' a cap e hcap (.inl h0)
  ·obtain⟨row',e1,e2⟩:=h' k rs[k] (Qm hk)
   refine .gref _ _ _ _ _ _ rs' a cap e hcap (.inr ⟨(List.getElem?_eq_some_iff.1 e1).1,fun row hr=>?_⟩)
   rw[e1]at hr;simp at hr;subst hr;obtain⟨h1,h2⟩:=hrow _ (Qm hk);rcases e2 with e2|e2
   ·subst e2;exact⟨h1,h2⟩
   ·exact⟨by omega,fun hu=>by omega⟩
 case gptr=>
  intro b k off gen rs p h hk hrow;have e:=m.ext b;rw[h]at e;rcases e.rowsOf with e|⟨rs',e,h'⟩
  ·exact .gptrDead _ _ _ _ _ e
  ·obtain⟨row',e1,e2⟩:=h' k rs[k] (Qm hk)
   refine .gptr _ _ _ _ rs' p e (List.getElem?_eq_some_iff.1 e1).1 fun row hr=>?_
   rw[e1]at hr;simp at hr;subst hr;obtain⟨h1,h2⟩:=hrow _ (Qm hk);rcases e2 with e2|e2
   ·subst e2;exact⟨h1,h2⟩
   ·exact⟨by omega,fun hu=>by omega⟩
 case gptrDead=>
  intro b k off gen p h;have e:=m.ext b;rw[h]at e;exact .gptrDead _ _ _ _ _ e.dead
 case grefDead=>
  intro esz b k off len gen a cap h hcap;have e:=m.ext b;rw[h]at e;exact .grefDead _ _ _ _ _ _ _ _ e.dead hcap
 case map=>
  intro b r h;have e:=m.ext b;rw[h]at e;rcases e.obj with e|e
  ·exact .map _ _ e
  ·exact .mapDead _ _ e
 case mapDead=>intro b _ h;have e:=m.ext b;rw[h]at e;exact .mapDead _ _ e.dead
 case nilmap=>exact .nilmap
 case func=>intro f xs ys us vs _ _ hu hv;exact .func f xs ys us vs hu hv
 case yield=>
  intro l r h;have e:=m.ext l;rw[h]at e;rcases e.obj with e|e
  ·exact .yield _ _ e
  ·exact .yieldDead _ _ e
 case yieldDead=>intro l _ h;have e:=m.ext l;rw[h]at e;exact .yieldDead _ _ e.dead
 case nilfunc=>exact .nilfunc
 case iface=>intro t c v _ h;exact .iface t c v h
 case niliface=>exact .niliface
 case agg=>intro cs vs _ h;exact .agg cs vs h
 case tuple=>intro cs vs _ h;exact .tuple cs vs h
 case nil=>exact .nil
 case cons=>intro c v cs vs _ _ h hs;exact .cons c v cs vs h hs
theorem VRL.mono{φ φ':Phi}{St St':Stab}{w w':World}(m:Mono φ St w φ' St' w'){c:List CV}{v:List Value}(h:VRL φ St w c v):VRL φ' St' w' c v:=by
 induction c generalizing v with
 |nil=>cases h;exact .nil
 |cons c cs ih=>cases h with|cons _ v _ vs h hs=>exact .cons c v cs vs (VR.mono m h) (ih hs)
end Go.Eng
/- The clean heap's relation to the world, and its primitive steps. -/
namespace Go.Eng
set_option linter.unusedVariables false
def CV.one:CV→Bool
 | .agg _| .tuple _| .junk=>false
 |_=>true
theorem VR.one{φ:Phi}{St:Stab}{w:World}{c:CV}{v:Value}(h:VR φ St w c v)(hc:c.one=true):v.oneCell'=true:=by
 cases h<;>first|assumption|rfl|simp[CV.one]at hc
inductive HObj where
 |dead
 |cells (cs:List CV)
 |tail (u:Nat)
 |rows (css:List (List CV))
 |map (es:List (CV×CV))
 |loop (fn:FuncId) (tmps:List CV) (params:Array Tmp) (assign body:X) (state:LoopState) (pending:Option Jump)
 deriving Inhabited
abbrev Heap:=List HObj
inductive ObjRel (φ:Phi) (St:Stab) (w:World):HObj→Obj→Prop where
 | map (es:List (CV×CV)) (entries:Array MapEntry) (clock:Nat) (hk:VRL φ St w (es.map (·.1)) (entries.toList.map (·.key))) (hv:VRL φ St w (es.map (·.2)) (entries.toList.map (·.val))):
   ObjRel φ St w (.map es) (.map entries clock)
 | loop (fn g:FuncId) (tmps:List CV) (ts:List Value) (params:Array Tmp) (assign body:X) (state:LoopState) (pending:Option Jump) (dr:Nat)
   (ht:VRL φ St w tmps ts) (ha:assign.ok) (hb:body.ok):
   ObjRel φ St w (.loop fn tmps params assign body state pending) (.loop {state,pending:=pending.map Jump.code,fn:=g,tmps:=ts.toArray,params,assign:=assign.code,body:=body.code,defers:=dr})
theorem ObjRel.mono{φ φ':Phi}{St St':Stab}{w w':World}(m:Mono φ St w φ' St' w'){o:HObj}{O:Obj}(h:ObjRel φ St w o O):ObjRel φ' St' w' o O:=by
 cases h with
 |map es entries clock hk hv=>exact .map es entries clock (hk.mono m) (hv.mono m)
 |loop fn g tmps ts params assign body state pending dr ht ha hb=>exact .loop fn g tmps ts params assign body state pending dr (ht.mono m) ha hb
theorem ObjRel.wK1{φ:Phi}{St:Stab}{w:World}{o:HObj}{O:Obj}(h:ObjRel φ St w o O):∀c e f,O≠.cells c e f:=by
 cases h<;>simp
def Unfz(fz:Nat×Nat)(n:Nat):Prop:=fz.1=fz.2
theorem Unfz.zero(n:Nat):Unfz (0,0) n:=rfl
def yZe(N:Nat)(φ:Phi)(St:Stab)(w:World)(row:Row)(cs:List CV):Prop:=
 cs.length=row.u∧(row.blk=none→row.u=0)∧∀r base lim,row.blk=some (r,base,lim)→N≤r∧row.u≤lim∧(∃(arr:Array Value) (elem:TypeId×Nat×Nat),w.heap[r]? =some (.cells arr elem.1 elem.2)∧Unfz elem.2 arr.size∧base+lim≤arr.size∧
  ∀(j:Nat) (c:CV),cs[j]?=some c→∃v,arr[base+j]?=some v∧VR φ St w c v)∧∀j,¬St r j
def zKx(N:Nat)(φ:Phi)(St:Stab)(w:World)(rs:List Row)(o:Option HObj):Prop:=
 ∃css:List (List CV),o=some (.rows css)∧css.length=rs.length∧(∀(k:Nat) (row:Row) (cs:List CV),rs[k]? =some row→css[k]? =some cs→yZe N φ St w row cs)∧
  ∀(k k':Nat) (row row':Row) (r base lim base' lim':Nat),k≠k'→rs[k]?=some row→rs[k']?=some row'→row.blk=some (r,base,lim)→row'.blk=some (r,base',lim')→base+lim≤base'∨base'+lim'≤base
theorem zKx.step{N:Nat}{φ φ':Phi}{St St':Stab}{w w':World}{rs:List Row}{o:Option HObj}(h:zKx N φ St w rs o)(m:Mono φ St w φ' St' w')
  (hk:∀r,(Ent.rows rs).has r→w'.heap[r]?=w.heap[r]?) (hs:∀r j,(Ent.rows rs).has r→St' r j→St r j):zKx N φ' St' w' rs o:=by
 obtain⟨css,h1,h2,h3,h4⟩:=h;refine⟨css,h1,h2,fun k row cs hr hc=>?_,h4⟩
 obtain⟨g2,g0,h3⟩:=h3 k row cs hr hc;refine⟨g2,g0,fun r base lim hb=>?_⟩
 obtain⟨g1,g3,⟨arr,elem,g4,g5,g6,g7⟩,g8⟩:=h3 r base lim hb;have hh:(Ent.rows rs).has r:=⟨row,Ql hr,base,lim,hb⟩;refine⟨g1,g3,⟨arr,elem,by rw[hk r hh];exact g4,g5,g6,fun j c hc=>?_⟩,fun j hj=>g8 j (hs r j hh hj)⟩
 obtain⟨v,e1,e2⟩:=g7 j c hc;exact⟨v,e1,e2.mono m⟩
theorem zKx.lt{N:Nat}{φ:Phi}{St:Stab}{w:World}{rs:List Row}{o:Option HObj}(h:zKx N φ St w rs o){r:Nat}(hr:(Ent.rows rs).has r):N≤r∧r<w.heap.size∧∀j,¬St r j:=by
 obtain⟨css,h1,h2,h3,h4⟩:=h;obtain⟨row,hm,base,lim,hb⟩:=hr;obtain⟨k,hk⟩:=List.mem_iff_getElem?.1 hm;have hlt:k<css.length:=by rw[h2];exact(List.getElem?_eq_some_iff.1 hk).1
 obtain⟨g1,g3,⟨arr,elem,g4,_⟩,g8⟩:=(h3 k row css[k] hk (Qm hlt)).2.2 r base lim hb;exact⟨g1,(Array.getElem?_eq_some_iff.1 g4).1,g8⟩
structure Rel (N:Nat) (φ:Phi) (St:Stab) (h:Heap) (w:World):Prop where
 dom:∀b e,φ b=some e→b<h.length
 dead:∀b,φ b=some .dead→h[b]?=some .dead
 own:∀b r base size,φ b=some (.own r base size)→N≤r∧∃(cs:List CV) (arr:Array Value) (elem:TypeId×Nat×Nat),h[b]? =some (.cells cs)∧w.heap[r]? =some (.cells arr elem.1 elem.2)∧(arr.size=size∧Unfz elem.2 size)∧
  base+cs.length≤size∧∀j c,cs[j]?=some c→∃v,arr[base+j]?=some v∧VR φ St w c v
 tail:∀k r used u size,φ k=some (.tail r used u size)→N≤r∧h[k]?=some (.tail u)∧used≤size∧∃(arr:Array Value) (elem:TypeId×Nat×Nat),w.heap[r]?=some (.cells arr elem.1 elem.2)∧(arr.size=size∧Unfz elem.2 size)
 obj:∀b r,φ b=some (.obj r)→N≤r∧∃o O,h[b]?=some o∧w.heap[r]?=some O∧ObjRel φ St w o O
 inj:∀b b' e e' r,φ b=some e→φ b'=some e'→e.has r→e'.has r→b=b'
 stLt:∀r j,St r j→r<w.heap.size
 stOwn:∀b r base size j,φ b=some (.own r base size)→¬St r j
 stTail:∀k r used u size j,φ k=some (.tail r used u size)→St r j→j<used
 start:N≤w.heap.size
 void:∀k u,φ k=some (.void u)→h[k]?=some (.tail u)∧u=0
 rows:∀b rs,φ b=some (.rows rs)→zKx N φ St w rs h[b]?
 rdom:∀b css,h[b]?=some (.rows css)→∃rs,φ b=some (.rows rs)
theorem Rel.lt{N:Nat}{φ:Phi}{St:Stab}{h:Heap}{w:World}(R:Rel N φ St h w){b:Nat}{e:Ent}{r:Nat}(hb:φ b=some e)(he:e.has r):N≤r∧r<w.heap.size:=by
 cases e with
 |rows rs=>exact⟨((R.rows b rs hb).lt he).1,((R.rows b rs hb).lt he).2.1⟩
 |own r' base size=>
  simp[Ent.has]at he;subst he;obtain⟨hn,cs,arr,elem,_,hw,_⟩:=R.own b r' base size hb;exact⟨hn,(Array.getElem?_eq_some_iff.1 hw).1⟩
 |tail r' used u size=>
  simp[Ent.has]at he;subst he;obtain⟨hn,_,_,arr,elem,hw,_⟩:=R.tail b r' used u size hb;exact⟨hn,(Array.getElem?_eq_some_iff.1 hw).1⟩
 |obj r'=>
  simp[Ent.has]at he;subst he;obtain⟨hn,o,O,_,hw,_⟩:=R.obj b r' hb;exact⟨hn,(Array.getElem?_eq_some_iff.1 hw).1⟩
 |void=>simp[Ent.has]at he
 |dead=>simp[Ent.has]at he
structure Frm (n:Nat) (φ:Phi) (St:Stab) (w:World) (φ':Phi) (St':Stab) (w':World):Prop extends Mono φ St w φ' St' w' where
 size:w.heap.size≤w'.heap.size
 stNew:∀r j,St' r j→St r j∨w.heap.size≤r∨∃b e,φ b=some e∧e.has r
 blkNew:∀b e r,φ' b=some e→e.has r→(∃b0 e0,φ b0=some e0∧e0.has r)∨w.heap.size≤r
 keepBlk:∀r,r<w.heap.size→(∀b e,φ b=some e→¬e.has r)→w'.heap[r]?=w.heap[r]?
 idNew:∀b,b<n→φ b=none→φ' b=none
 os:w'.os=w.os
 output:w'.output=w.output
 tape:w'.tape=w.tape
theorem Frm.refl(n:Nat)(φ:Phi)(St:Stab)(w:World):Frm n φ St w φ St w:=
  { toMono:= .refl _ _ _,size:=Qe _,stNew:=fun _ _ h=> .inl h,blkNew:=fun b e r h k=> .inl ⟨b,e,h,k⟩,keepBlk:=fun _ _ _=>rfl,
    idNew:=fun _ _ h=>h,os:=rfl,output:=rfl,tape:=rfl}
theorem Frm.trans{n m:Nat}{φ φ' φ'':Phi}{St St' St'':Stab}{w w' w'':World}(h:Frm n φ St w φ' St' w')(k:Frm m φ' St' w' φ'' St'' w'')(hnm:n≤m):Frm n φ St w φ'' St'' w'' where
 toMono:=h.toMono.trans k.toMono
 size:=Kf h.size k.size
 stNew:=by
  intro r j hs;rcases k.stNew r j hs with hs|hs|⟨b,e,hb,he⟩
  ·exact h.stNew r j hs
  ·exact .inr (.inl (Kf h.size hs))
  ·rcases h.blkNew b e r hb he with hx|hx
   ·exact .inr (.inr hx)
   ·exact .inr (.inl hx)
 blkNew:=by
  intro b e r hb he;rcases k.blkNew b e r hb he with⟨b0,e0,hb0,he0⟩|hx
  ·exact h.blkNew b0 e0 r hb0 he0
  ·exact .inr (Kf h.size hx)
 keepBlk:=by
  intro r hr hn;rw[k.keepBlk r (Kt hr h.size),h.keepBlk r hr hn];intro b e hb he;rcases h.blkNew b e r hb he with⟨b0,e0,hb0,he0⟩|hx
  ·exact hn b0 e0 hb0 he0
  ·omega
 idNew:=fun b hb hn=>k.idNew b (by omega) (h.idNew b hb hn)
 os:=k.os.trans h.os
 output:=k.output.trans h.output
 tape:=k.tape.trans h.tape
theorem Frm.le{n m:Nat}{φ φ':Phi}{St St':Stab}{w w':World}(h:Frm n φ St w φ' St' w')(hm:m≤n):Frm m φ St w φ' St' w':=
 {h with idNew:=fun b hb=>h.idNew b (by omega)}
theorem Frm.below{n N:Nat}{φ φ':Phi}{St St':Stab}{h:Heap}{w w':World}(R:Rel N φ St h w)(f:Frm n φ St w φ' St' w'):RowKit.Below N w w':=
 ⟨f.os,f.tape,f.output,f.size,fun k hk=>f.keepBlk k (Kt hk R.start) fun b e hb he=>by have:=(R.lt hb he).1;omega⟩
section VRLs
variable {φ:Phi} {St:Stab} {w:World}
theorem VRL.length{cs:List CV}{vs:List Value}(h:VRL φ St w cs vs):cs.length=vs.length:=by
 induction cs generalizing vs with
 |nil=>cases h;rfl
 |cons c cs ih=>cases h with|cons _ v _ vs h hs=>simp[ih hs]
theorem VRL.get{cs:List CV}{vs:List Value}(h:VRL φ St w cs vs):∀(j:Nat) (c:CV),cs[j]?=some c→∃v,vs[j]?=some v∧VR φ St w c v:=by
 induction cs generalizing vs with
 |nil=>intro j c hc;simp at hc
 | cons x cs ih=>
  cases h with
  |cons _ v _ vs h hs=>
   intro j c hc;cases j with
   |zero=>simp at hc;subst hc;exact⟨v,by simp,h⟩
   |succ j=>simpa using ih hs j c (by simpa using hc)
theorem VRL.wK0{cs:List CV}{vs:List Value}(hl:cs.length=vs.length)(h:∀(j:Nat) (c:CV) (v:Value),cs[j]?=some c→vs[j]?=some v→VR φ St w c v):VRL φ St w cs vs:=by
 induction cs generalizing vs with
 |nil=>cases vs with|nil=>exact .nil|cons=>simp at hl
 |cons x cs ih=>
  cases vs with
  |nil=>simp at hl
  |cons v vs=>exact .cons _ _ _ _ (h 0 x v (by simp) (by simp)) (ih (by simpa using hl) fun j c u hc hu=>h (j+1) c u (by simpa using hc) (by simpa using hu))
theorem VRL.append{cs ds:List CV}{vs us:List Value}(h:VRL φ St w cs vs)(k:VRL φ St w ds us):VRL φ St w (cs++ds) (vs++us):=by
 induction cs generalizing vs with
 |nil=>cases h;exact k
 |cons x cs ih=>cases h with|cons _ v _ vs h hs=>exact .cons _ _ _ _ h (ih hs)
theorem VRL.take{cs:List CV}{vs:List Value}(n:Nat)(h:VRL φ St w cs vs):VRL φ St w (cs.take n) (vs.take n):=by
 induction cs generalizing vs n with
 |nil=>cases h;simpa using VRL.nil
 |cons x cs ih=>cases h with|cons _ v _ vs h hs=>cases n with
  |zero=>exact .nil
  |succ n=>exact .cons _ _ _ _ h (ih n hs)
theorem VRL.drop{cs:List CV}{vs:List Value}(n:Nat)(h:VRL φ St w cs vs):VRL φ St w (cs.drop n) (vs.drop n):=by
 induction cs generalizing vs n with
 |nil=>cases h;simpa using VRL.nil
 |cons x cs ih=>cases h with|cons _ v _ vs h hs=>cases n with
  |zero=>exact .cons _ _ _ _ h hs
  |succ n=>exact ih n hs
theorem VRL.set{cs:List CV}{vs:List Value}(n:Nat){c:CV}{v:Value}(h:VRL φ St w cs vs)(hc:VR φ St w c v):VRL φ St w (cs.set n c) (vs.set n v):=by
 induction cs generalizing vs n with
 |nil=>cases h;simpa using VRL.nil
 |cons x cs ih=>cases h with|cons _ u _ vs h hs=>cases n with
  |zero=>exact .cons _ _ _ _ hc hs
  |succ n=>exact .cons _ _ _ _ h (ih n hs)
theorem VRL.replicate(n:Nat){c:CV}{v:Value}(hc:VR φ St w c v):VRL φ St w (List.replicate n c) (List.replicate n v):=by
 induction n with
 |zero=>exact .nil
 |succ n ih=>exact .cons _ _ _ _ hc ih
theorem VRL.one{cs:List CV}{vs:List Value}(h:VRL φ St w cs vs)(hc:∀c∈cs,c.one=true):∀v∈vs,v.oneCell'=true:=by
 induction cs generalizing vs with
 |nil=>cases h;simp
 |cons x cs ih=>cases h with|cons _ v _ vs h hs=>
  intro u hu;rcases Jm.1 hu with rfl|hu
  ·exact h.one (hc x (by simp))
  ·exact ih hs (fun c hc'=>hc c (by simp[hc'])) u hu
theorem VR.flat{c:CV}{v:Value}(h:VR φ St w c v)(hj:c≠.junk):VRL φ St w c.flat v.cells.toList:=by
 cases h with
 |agg cs vs h=>simpa[CV.flat,Value.cells]using h
 |junk=>exact absurd rfl hj
 |ptrDead b off a h=>exact .cons _ _ _ _ (.ptrDead _ _ _ h) .nil
 |srefDead esz b off len cap ex a rcap h=>exact .cons _ _ _ _ (.srefDead _ _ _ _ _ _ _ _ h) .nil
 |mapDead b r h=>exact .cons _ _ _ _ (.mapDead _ _ h) .nil
 |grefDead esz b k off len gen a cap h hc=>exact .cons _ _ _ _ (.grefDead _ _ _ _ _ _ _ _ h hc) .nil
 |gptrDead b k off gen p h=>exact .cons _ _ _ _ (.gptrDead _ _ _ _ _ h) .nil
 |yieldDead l r h=>exact .cons _ _ _ _ (.yieldDead _ _ h) .nil
 |_=>exact .cons _ _ _ _ (by first|constructor<;>assumption|constructor) .nil
end VRLs
def Phi.push(φ:Phi)(n:Nat)(e:Ent):Phi:=fun b=>if b=n then some e else φ b
def Phi.put(φ:Phi)(n:Nat)(e:Ent):Phi:=fun b=>if b=n then some e else φ b
theorem xZn{φ:Phi}{St:Stab}{w:World}{o:Obj}{n:Nat}{e:Ent}(hn:φ n=none)(hst:∀r j,St r j→r<w.heap.size):Mono φ St w (φ.push n e) St (w.alloc o) where
 ext:=by
  intro b;unfold Phi.push;split
  ·subst_vars;rw[hn];exact .fresh _
  ·exact .refl _
 st:=fun _ _ h=>h
 keep:=fun r j h=>World.cell?_alloc_lt w o ⟨r,j,none⟩ (hst r j h)
theorem Rel.yJn{N:Nat}{φ:Phi}{St:Stab}{h:Heap}{w:World}(R:Rel N φ St h w):φ h.length=none:=by
 cases hx:φ h.length with
 |none=>rfl
 |some e=>exact absurd (R.dom _ _ hx) (by omega)
theorem zX1(w:World)(o:Obj)(r:Nat)(h:r<w.heap.size):(w.alloc o).heap[r]?=w.heap[r]?:=RowKit.Below.heap_alloc w o r h
theorem zYt(w:World)(o:Obj):(w.alloc o).heap[w.heap.size]?=some o:=heap_alloc_new w o
theorem Rel.push{N:Nat}{φ:Phi}{St:Stab}{h:Heap}{w:World}(R:Rel N φ St h w)(e:Ent)(o:HObj)(O:Obj)(hb0:∀r,e.has r↔w.heap.size=r)
  (hown:∀r base size,e= .own r base size→∃(cs:List CV) (arr:Array Value) (elem:TypeId×Nat×Nat),o= .cells cs∧O= .cells arr elem.1 elem.2∧(arr.size=size∧Unfz elem.2 size)∧base+cs.length≤size∧
   ∀j c,cs[j]?=some c→∃v,arr[base+j]?=some v∧VR φ St w c v)
  (htail:∀r used u size,e≠.tail r used u size)
  (hrows:∀rs,e≠.rows rs)
  (hobj:∀r,e=.obj r→ObjRel φ St w o O):
  Rel N (φ.push h.length e) St (h++[o]) (w.alloc O)∧Frm h.length φ St w (φ.push h.length e) St (w.alloc O):=by
 have hnone:=R.yJn;have hb:e.has w.heap.size:=(hb0 _).2 rfl;have m:Mono φ St w (φ.push h.length e) St (w.alloc O):=xZn hnone R.stLt;have old:∀b e',φ b=some e'→(φ.push h.length e) b=some e':=by
  intro b e' hb';have:=R.dom b e' hb';simp[Phi.push,hb'];omega
 have inv:∀b e',(φ.push h.length e) b=some e'→(b=h.length∧e'=e)∨(b≠h.length∧φ b=some e'):=by
  intro b e' hb';unfold Phi.push at hb';split at hb'
  ·subst_vars;exact .inl ⟨rfl,by simpa using hb'.symm⟩
  ·exact .inr ⟨‹_›,hb'⟩
 constructor
 ·refine⟨?_, ?_, ?_, ?_, ?_, ?_, ?_, ?_, ?_, ?_, ?_, ?_, ?_⟩
  ·intro b e' hb'
   rcases inv b e' hb' with⟨rfl,_⟩|⟨_,hb'⟩
   ·simp
   ·have:=R.dom b e' hb';simp;omega
  ·intro b hb'
   rcases inv b _ hb' with⟨rfl,he⟩|⟨_,hb'⟩
   ·subst he;simp[Ent.has]at hb
   ·have:=R.dom b _ hb'
    rw[Qb this];exact R.dead b hb'
  ·intro b r base size hb'
   rcases inv b _ hb' with⟨rfl,he⟩|⟨_,hb'⟩
   ·obtain⟨cs,arr,elem,ho,hO,h1,h2,h3⟩:=hown r base size he.symm
    subst he;simp[Ent.has]at hb;subst hb;refine⟨R.start,cs,arr,elem,by simp[ho],by rw[zYt,hO],h1,h2,fun j c hc=>?_⟩
    obtain⟨v,hv,hr⟩:=h3 j c hc;exact⟨v,hv,hr.mono m⟩
   ·have hd:=R.dom b _ hb'
    obtain⟨hN,cs,arr,elem,ho,hw,h1,h2,h3⟩:=R.own b r base size hb';refine⟨hN,cs,arr,elem,by rw[Qb hd];exact ho, ?_,h1,h2,fun j c hc=>?_⟩
    ·rw[zX1 w O r (R.lt hb' rfl).2];exact hw
    ·obtain⟨v,hv,hr⟩:=h3 j c hc
     exact⟨v,hv,hr.mono m⟩
  ·intro k r used u size hb'
   rcases inv k _ hb' with⟨rfl,he⟩|⟨_,hb'⟩
   ·exact absurd he.symm (htail _ _ _ _)
   ·have hd:=R.dom k _ hb'
    obtain⟨hN,ho,h1,arr,elem,hw,h2⟩:=R.tail k r used u size hb';exact⟨hN,by rw[Qb hd];exact ho,h1,arr,elem,by rw[zX1 w O r (R.lt hb' rfl).2];exact hw,h2⟩
  ·intro b r hb'
   rcases inv b _ hb' with⟨rfl,he⟩|⟨_,hb'⟩
   ·have hx:=hobj r he.symm
    subst he;simp[Ent.has]at hb;subst hb;exact⟨R.start,o,O,by simp,zYt _ _,hx.mono m⟩
   ·have hd:=R.dom b _ hb'
    obtain⟨hN,o',O',ho,hw,hr⟩:=R.obj b r hb';exact⟨hN,o',O',by rw[Qb hd];exact ho,by rw[zX1 w O r (R.lt hb' rfl).2];exact hw,hr.mono m⟩
  ·intro b b' e1 e2 r h1 h2 k1 k2
   rcases inv b _ h1 with⟨x1,y1⟩|⟨_,y1⟩<;>rcases inv b' _ h2 with⟨x2,y2⟩|⟨_,y2⟩
   ·rw[x1,x2]
   ·rw[y1,hb0]at k1;subst k1;have:=(R.lt y2 k2).2;omega
   ·rw[y2,hb0]at k2;subst k2;have:=(R.lt y1 k1).2;omega
   ·exact R.inj b b' _ _ r y1 y2 k1 k2
  ·intro r j hs;have:=R.stLt r j hs;simp;omega
  ·intro b r base size j hb' hs
   rcases inv b _ hb' with⟨rfl,rfl⟩|⟨_,hb'⟩
   ·simp[Ent.has]at hb;subst hb;have:=R.stLt _ j hs;omega
   ·exact R.stOwn b r base size j hb' hs
  ·intro k r used u size j hb' hs
   rcases inv k _ hb' with⟨rfl,rfl⟩|⟨_,hb'⟩
   ·exact absurd rfl (htail r used u size)
   ·exact R.stTail k r used u size j hb' hs
  ·have:=R.start;simp;omega
  ·intro k u hb'
   rcases inv k _ hb' with⟨rfl,he⟩|⟨_,hb'⟩
   ·subst he;simp[Ent.has]at hb
   ·have:=R.dom k _ hb'
    rw[Qb this];exact R.void k u hb'
  ·intro b rs hb'
   rcases inv b _ hb' with⟨rfl,he⟩|⟨_,hb'⟩
   ·exact absurd he.symm (hrows rs)
   ·have hd:=R.dom b _ hb'
    rw[Qb hd];exact(R.rows b rs hb').step m (fun r hr=>zX1 w O r (R.lt hb' hr).2) (fun r j _ h=>h)
  ·intro b css hx
   by_cases hbb:b=h.length
   ·subst hbb
    simp only[Qj (Qe _),Nat.sub_self,K8,Qa]at hx;subst hx;cases e with
    |own r base size=>obtain⟨cs,_,_,ho,_⟩:=hown r base size rfl;cases ho
    |tail r used u size=>exact absurd rfl (htail r used u size)
    |rows rs=>exact absurd rfl (hrows rs)
    |obj r=>cases hobj r rfl
    |void u=>simp[Ent.has]at hb
    |dead=>simp[Ent.has]at hb
   ·have hlt:b<h.length:=by
     have:=(List.getElem?_eq_some_iff.1 hx).1;simp at this;omega
    rw[Qb hlt]at hx;obtain⟨rs,hrs⟩:=R.rdom b css hx;exact⟨rs,old _ _ hrs⟩
 ·refine{toMono:=m,size:=by simp,stNew:=fun _ _ hs=> .inl hs,blkNew:= ?_,keepBlk:=fun r hr _=>zX1 w O r hr,idNew:= ?_,os:=rfl,output:=rfl,tape:=rfl}
  ·intro b e' r hb' he'
   rcases inv b _ hb' with⟨rfl,rfl⟩|⟨_,hb'⟩
   ·rw[hb0]at he';exact .inr (by omega)
   ·exact .inl ⟨b,e',hb',he'⟩
  ·intro b hbn hb'
   unfold Phi.push;rw[Qi (by omega)];exact hb'
end Go.Eng
/- Changes at one place of the clean heap. -/
namespace Go.Eng
set_option linter.unusedVariables false
theorem zQg(φ:Phi)(b:Nat)(e:Ent):(φ.put b e) b=some e:=by simp[Phi.put]
theorem zQc(φ:Phi)(b b':Nat)(e:Ent)(h:b'≠b):(φ.put b e) b'=φ b':=by simp[Phi.put,h]
def vZ5(N:Nat)(φ:Phi)(St:Stab)(w:World)(o:HObj):Ent→Prop
 | .own r base size=>N≤r∧∃(cs:List CV) (arr:Array Value) (elem:TypeId×Nat×Nat),o= .cells cs∧w.heap[r]? =some (.cells arr elem.1 elem.2)∧(arr.size=size∧Unfz elem.2 size)∧base+cs.length≤size∧
   (∀(j:Nat) (c:CV),cs[j]?=some c→∃v,arr[base+j]?=some v∧VR φ St w c v)∧∀j,¬St r j
 | .tail r used u size=>N≤r∧o=.tail u∧used≤size∧(∃(arr:Array Value) (elem:TypeId×Nat×Nat),w.heap[r]?=some (.cells arr elem.1 elem.2)∧(arr.size=size∧Unfz elem.2 size))∧∀j,St r j→j<used
 | .obj r=>N≤r∧∃O,w.heap[r]?=some O∧ObjRel φ St w o O
 | .void u=>o=.tail u∧u=0
 | .dead=>o=.dead
 | .rows rs=>zKx N φ St w rs (some o)
theorem vWj{h:Heap}{b b':Nat}{o:HObj}{css:List (List CV)}(hne:b'≠b)(hx:(h.set b o)[b']?=some (.rows css)):h[b']?=some (.rows css):=by
 rw[Qd (Jw hne)]at hx;exact hx
theorem xKu{h:Heap}{b':Nat}{o:HObj}{css:List (List CV)}(hne:b'≠h.length)(hx:(h++[o])[b']?=some (.rows css)):h[b']?=some (.rows css):=by
 have hlt:=(List.getElem?_eq_some_iff.1 hx).1;rw[Q5,List.length_singleton]at hlt;rw[Qb (by omega)]at hx;exact hx
theorem uQ6{h:Heap}{b b':Nat}{o:HObj}{css:List (List CV)}(hne:b'≠h.length)(hx:(h.set b .dead++[o])[b']?=some (.rows css)):(h.set b .dead)[b']?=some (.rows css):=xKu (by rw[Kh];exact hne) hx
theorem Rel.change{N:Nat}{φ:Phi}{St:Stab}{h:Heap}{w:World}(R:Rel N φ St h w)(b:Nat)(e1:Ent)(o1:HObj)(St':Stab)(h':Heap)(w':World)
  (m:Mono φ St w (φ.put b e1) St' w') (hsize:w.heap.size≤w'.heap.size)
  (hb:h'[b]?=some o1) (hlen:h.length≤h'.length) (hoth:∀b' e,b'≠b→φ b'=some e→h'[b']?=h[b']?)
  (hkeep:∀b' e r,b'≠b→φ b'=some e→e.has r→w'.heap[r]?=w.heap[r]?)
  (hst:∀r j,St' r j→r<w'.heap.size)
  (hstN:∀r j,St' r j→St r j∨∀b' e,b'≠b→φ b'=some e→¬e.has r)
  (hinj:∀r,e1.has r→∀b' e,b'≠b→φ b'=some e→¬e.has r)
  (hent:vZ5 N (φ.put b e1) St' w' o1 e1)
  (hrd:∀b' css,b'≠b→h'[b']?=some (.rows css)→h[b']?=some (.rows css):=by
   intro b' css hne hx
   first
    |exact hx
    |exact vWj hne hx
    |exact xKu hne hx
    |exact uQ6 hne hx):Rel N (φ.put b e1) St' h' w':=by
 have hbl:b<h'.length:=(List.getElem?_eq_some_iff.1 hb).1;have inv:∀b' e',(φ.put b e1) b'=some e'→(b'=b∧e'=e1)∨(b'≠b∧φ b'=some e'):=by
  intro b' e' hb';by_cases hbb:b'=b
  ·subst hbb;rw[zQg]at hb';exact .inl ⟨rfl,by simpa using hb'.symm⟩
  ·rw[zQc _ _ _ _ hbb]at hb';exact .inr ⟨hbb,hb'⟩
 refine⟨?_, ?_, ?_, ?_, ?_, ?_, ?_, ?_, ?_, ?_, ?_, ?_, ?_⟩
 ·intro b' e' hb'
  rcases inv b' e' hb' with⟨rfl,_⟩|⟨_,hb'⟩
  ·exact hbl
  ·have:=R.dom b' e' hb';omega
 ·intro b' hb'
  rcases inv b' _ hb' with⟨rfl,he⟩|⟨hne,hb'⟩
  ·rw[←he]at hent;rw[hb,show o1=.dead from hent]
  ·rw[hoth b' _ hne hb'];exact R.dead b' hb'
 ·intro b' r base size hb'
  rcases inv b' _ hb' with⟨rfl,he⟩|⟨hne,hb'⟩
  ·rw[←he]at hent
   obtain⟨hN,cs,arr,elem,ho,hw,h1,h2,h3,_⟩:=hent;exact⟨hN,cs,arr,elem,by rw[hb,ho],hw,h1,h2,fun j c hc=>by rw[←he];exact h3 j c hc⟩
  ·obtain⟨hN,cs,arr,elem,ho,hw,h1,h2,h3⟩:=R.own b' r base size hb'
   refine⟨hN,cs,arr,elem,by rw[hoth b' _ hne hb'];exact ho,by rw[hkeep b' _ r hne hb' rfl];exact hw,h1,h2,fun j c hc=>?_⟩
   obtain⟨v,hv,hr⟩:=h3 j c hc;exact⟨v,hv,hr.mono m⟩
 ·intro k r used u size hb'
  rcases inv k _ hb' with⟨rfl,he⟩|⟨hne,hb'⟩
  ·rw[←he]at hent
   obtain⟨hN,ho,h1,⟨arr,elem,hw,h2⟩,_⟩:=hent;exact⟨hN,by rw[hb,ho],h1,arr,elem,hw,h2⟩
  ·obtain⟨hN,ho,h1,arr,elem,hw,h2⟩:=R.tail k r used u size hb'
   exact⟨hN,by rw[hoth k _ hne hb'];exact ho,h1,arr,elem,by rw[hkeep k _ r hne hb' rfl];exact hw,h2⟩
 ·intro b' r hb'
  rcases inv b' _ hb' with⟨rfl,he⟩|⟨hne,hb'⟩
  ·rw[←he]at hent
   obtain⟨hN,O,hw,hr⟩:=hent;exact⟨hN,o1,O,hb,hw,by rw[←he];exact hr⟩
  ·obtain⟨hN,o',O',ho,hw,hr⟩:=R.obj b' r hb'
   exact⟨hN,o',O',by rw[hoth b' _ hne hb'];exact ho,by rw[hkeep b' _ r hne hb' rfl];exact hw,hr.mono m⟩
 ·intro b1 b2 e1' e2' r h1 h2 k1 k2
  rcases inv b1 _ h1 with⟨x1,y1⟩|⟨x1,y1⟩<;>rcases inv b2 _ h2 with⟨x2,y2⟩|⟨x2,y2⟩
  ·rw[x1,x2]
  ·rw[y1]at k1;exact absurd k2 (hinj r k1 b2 _ x2 y2)
  ·rw[y2]at k2;exact absurd k1 (hinj r k2 b1 _ x1 y1)
  ·exact R.inj b1 b2 _ _ r y1 y2 k1 k2
 ·exact hst
 ·intro b' r base size j hb' hs
  rcases inv b' _ hb' with⟨rfl,he⟩|⟨hne,hb'⟩
  ·rw[←he]at hent
   obtain⟨_,_,_,_,_,_,_,_,_,hn⟩:=hent;exact hn j hs
  ·rcases hstN r j hs with hs|hs
   ·exact R.stOwn b' r base size j hb' hs
   ·exact hs b' _ hne hb' rfl
 ·intro k r used u size j hb' hs
  rcases inv k _ hb' with⟨rfl,he⟩|⟨hne,hb'⟩
  ·rw[←he]at hent
   obtain⟨_,_,_,_,hn⟩:=hent;exact hn j hs
  ·rcases hstN r j hs with hs|hs
   ·exact R.stTail k r used u size j hb' hs
   ·exact absurd rfl (hs k _ hne hb')
 ·exact Kf R.start hsize
 ·intro k u hb'
  rcases inv k _ hb' with⟨rfl,he⟩|⟨hne,hb'⟩
  ·rw[←he]at hent;exact⟨by rw[hb,show o1=.tail u from hent.1],hent.2⟩
  ·rw[hoth k _ hne hb'];exact R.void k u hb'
 ·intro b' rs hb'
  rcases inv b' _ hb' with⟨rfl,he⟩|⟨hne,hb'⟩
  ·rw[←he]at hent;rw[hb,←he];exact hent
  ·rw[hoth b' _ hne hb']
   refine(R.rows b' rs hb').step m (fun r hr=>hkeep b' _ r hne hb' hr) fun r j hr hs=>?_
   rcases hstN r j hs with hs|hs
   ·exact hs
   ·exact absurd hr (hs b' _ hne hb')
 ·intro b' css hx
  by_cases hbb:b'=b
  ·subst hbb
   rw[hb]at hx;simp only[Qa]at hx;subst hx;cases e1 with
   |own r base size=>obtain⟨_,cs,_,_,ho,_⟩:=hent;cases ho
   |tail r used u size=>exact absurd hent.2.1 (by simp)
   |obj r=>obtain⟨_,O,_,ho⟩:=hent;cases ho
   |void u=>exact absurd hent.1 (by simp)
   |dead=>cases hent
   |rows rs=>exact⟨rs,zQg _ _ _⟩
  ·obtain⟨rs,hrs⟩:=R.rdom b' css (hrd b' css hbb hx)
   exact⟨rs,by rw[zQc _ _ _ _ hbb];exact hrs⟩
def zQd{α:Type}(cs:List α)(off:Nat)(news:List α):List α:=cs.take off++news++cs.drop (off+news.length)
theorem zWa{α:Type}(cs:List α)(off:Nat)(news:List α)(h:off+news.length≤cs.length):(zQd cs off news).length=cs.length:=by
 simp[zQd];omega
theorem zWl{α:Type}(cs:List α)(off:Nat)(news:List α)(h:off+news.length≤cs.length)(j:Nat):
  (zQd cs off news)[j]?=if j<off then cs[j]? else if j<off+news.length then news[j-off]? else cs[j]?:=by
 unfold zQd;rw[Jn,Kn];have hl:(cs.take off).length=off:=by simp;omega
 rw[hl];split
 ·rw[Jh (by assumption)]
 ·rw[Kn]
  split
  ·rw[Qf (by omega)]
  ·rw[Qi (by omega),Jr]
   congr 1;omega
theorem Frm.quiet{n:Nat}{φ:Phi}{St:Stab}{w w':World}(m:Mono φ St w φ St w')(size:w.heap.size≤w'.heap.size)
  (keep:∀r,r<w.heap.size→(∀b e,φ b=some e→¬e.has r)→w'.heap[r]?=w.heap[r]?) (os:w'.os=w.os) (output:w'.output=w.output) (tape:w'.tape=w.tape):
  Frm n φ St w φ St w' where
 toMono:=m
 size:=size
 stNew:=fun _ _ hs=>.inl hs
 blkNew:=fun b e r hb he=>.inl ⟨b,e,hb,he⟩
 keepBlk:=keep
 idNew:=fun _ _ hn=>hn
 os:=os
 output:=output
 tape:=tape
theorem zWz(P:Program)(g o:Nat)(t:TypeId)(fz:Nat×Nat):∀(vs:List Value) (i:Nat) (cur:Array Value) (w:World),w.heap[g]? =some (.cells cur t fz)→o+i+vs.length≤cur.size→
  (∀v∈vs,v.oneCell'=true)→Unfz fz cur.size→
  (storeCells ⟨g,o,none⟩ vs i).run P w=.ok () (w.setRow g (cur.toList.take (o+i)++vs++cur.toList.drop (o+i+vs.length)).toArray)
 |[],i,cur,w,hg,_,_,_=>by
  simp only[storeCells,Jq,Wa,Ks,Ja,Array.toArray_toList];rw[setRow_self w g cur t fz hg];rfl
 | v::rest,i,cur,w,hg,hl,h1,hz=>by
  have hi:o+i<cur.size:=by simp at hl;omega
  have hadd:(⟨g,o,none⟩:Addr).add i=⟨g,o+i,none⟩:=by unfold Addr.add;split<;>simp_all
  have hcell:w.cell? ⟨g,o+i,none⟩=some cur[o+i]:=by simp[World.cell?,hg,hi]
  have hfro:w.frozen? ⟨g,o+i,none⟩=false:=by
   simp only[World.frozen?,hg];unfold Unfz at hz;simp;omega
  have hst:(store ((⟨g,o,none⟩:Addr).add i) v).run P w=.ok () (w.setRow g (cur.setIfInBounds (o+i) v)):=by
   rw[hadd,run_store P w _ v _ (h1 v (by simp)),hcell]
   simp[hfro,setCell_eq_setRow w g (o+i) cur t fz v hg]
  have ih:=zWz P g o t fz rest (i+1) (cur.setIfInBounds (o+i) v) (w.setRow g (cur.setIfInBounds (o+i) v)) (setRow_heap w g cur _ t _ hg) (by simp at hl⊢;omega) (fun x hx=>h1 x (by simp[hx])) (by simpa using hz)
  simp only[storeCells,Sem.run_bind,hst,Result.andThen_ok,ih,setRow_setRow];congr 3;have e:=list_seg_step cur.toList (o+i) v rest (by simp at hl⊢;omega)
  simpa[Array.toList_setIfInBounds,Jp]using e
theorem Rel.store{N:Nat}{φ:Phi}{St:Stab}{h:Heap}{w:World}(P:Program)(R:Rel N φ St h w){b r base size:Nat}(hφ:φ b=some (.own r base size)){cs:List CV}(hh:h[b]? =some (.cells cs))
  (off:Nat) (news:List CV) (vs:List Value) (hv:VRL φ St w news vs) (hone:∀c∈news,c.one=true) (hl:off+news.length≤cs.length):
  ∃w',(storeCells ⟨r,base+off,none⟩ vs).run P w=.ok () w'∧Rel N φ St (h.set b (.cells (zQd cs off news))) w'∧Frm h.length φ St w φ St w':=by
 obtain⟨hN,cs',arr,elem,ho,hw,⟨h1,hz⟩,h2,h3⟩:=R.own b r base size hφ;rw[hh]at ho;simp at ho;subst ho;have hlen:=hv.length;have hrun:=zWz P r (base+off) elem.1 elem.2 vs 0 arr w hw (by omega) (hv.one hone) (by rw[h1];exact hz)
 simp only[Ks]at hrun;let arr':Array Value:=(zQd arr.toList (base+off) vs).toArray;have harr':(arr.toList.take (base+off)++vs++arr.toList.drop (base+off+vs.length)).toArray=arr':=rfl
 rw[harr']at hrun;refine⟨_,hrun, ?_⟩;have hbr:r<w.heap.size:=(Array.getElem?_eq_some_iff.1 hw).1;have hput:φ.put b (.own r base size)=φ:=by
  funext b';by_cases hb:b'=b
  ·subst hb;rw[zQg,hφ]
  ·rw[zQc _ _ _ _ hb]
 have hother:∀k,k≠r→(w.setRow r arr').heap[k]?=w.heap[k]?:=fun k hk=>setRow_other w r k _ hk
 have m:Mono φ St w φ St (w.setRow r arr'):=⟨fun _=>.refl _,fun _ _ h=>h,fun r' j hs=>by
  have hne:r'≠r:=fun e=>R.stOwn b r base size j hφ (e▸hs)
  exact cell_setRow_other w r _ ⟨r',j,none⟩ hne⟩
 have hbl:=R.dom b _ hφ;have hsl:arr'.size=size:=by
  show(zQd arr.toList (base+off) vs).toArray.size=size;rw[Kj,zWa _ _ _ (by simp;omega)];simpa using h1
 refine⟨?_,Frm.quiet m (by simp) (fun k hk hn=>hother k fun e=>hn b _ hφ (by rw[e];rfl)) rfl rfl rfl⟩
 have:=R.change b (.own r base size) (.cells (zQd cs off news)) St (h.set b (.cells (zQd cs off news))) (w.setRow r arr') (hput.symm▸m) (by simp)
  (by rw[Qk hbl]) (by simp) (fun b' e hne hb'=>by rw[Qd (Jw hne)])
  (fun b' e r' hne hb' he=>hother r' (fun e'=>hne (R.inj b' b e _ r hb' hφ (e'▸he) rfl)))
  (fun r' j hs=>by have:=R.stLt r' j hs;simpa using this) (fun r' j hs=>.inl hs)
  (fun r' he b' e hne hb' he'=>by simp[Ent.has]at he;subst he;exact hne (R.inj b' b e _ r hb' hφ he' rfl))
  (by
   rw[hput];refine⟨hN,_,arr',elem,rfl,setRow_heap w r arr arr' elem.1 elem.2 hw,⟨hsl,hz⟩,by rw[zWa _ _ _ hl];exact h2,fun j c hc=>?_,fun j=>R.stOwn b r base size j hφ⟩
   rw[zWl _ _ _ hl]at hc;have hga:∀k:Nat,arr'[k]?=(zQd arr.toList (base+off) vs)[k]?:=fun k=>by show(zQd arr.toList (base+off) vs).toArray[k]?=_;simp
   rw[hga,zWl _ _ _ (by simp;omega)]
   by_cases c1:j<off
   ·rw[Qf c1]at hc
    rw[Qf (by omega)]
    obtain⟨v,hv',hr⟩:=h3 j c hc;exact⟨v,by simpa using hv',hr.mono m⟩
   ·rw[Qi c1]at hc
    rw[Qi (by omega)]
    by_cases c2:j<off+news.length
    ·rw[Qf c2]at hc
     rw[Qf (by omega),show base+j-(base+off)=j-off by omega]
     obtain⟨v,hv',hr⟩:=hv.get (j-off) c hc;exact⟨v,hv',hr.mono m⟩
    ·rw[Qi c2]at hc
     rw[Qi (by omega)]
     obtain⟨v,hv',hr⟩:=h3 j c hc;exact⟨v,by simpa using hv',hr.mono m⟩)
 rwa [hput]at this
theorem Rel.cells{N:Nat}{φ:Phi}{St:Stab}{h:Heap}{w:World}(R:Rel N φ St h w){b r base size:Nat}(hφ:φ b=some (.own r base size)){cs:List CV}(hh:h[b]? =some (.cells cs))
  (off n:Nat) (hl:off+n≤cs.length):∃vs,VRL φ St w ((cs.drop off).take n) vs∧vs.length=n∧∀(j:Nat) (v:Value),vs[j]?=some v→w.cell? ⟨r,base+off+j,none⟩=some v:=by
 obtain⟨hN,cs',arr,elem,ho,hw,⟨h1,hz⟩,h2,h3⟩:=R.own b r base size hφ;rw[hh]at ho;simp at ho;subst ho;have hl1:((arr.toList.drop (base+off)).take n).length=n:=by simp;omega
 have hl2:((cs.drop off).take n).length=n:=by simp;omega
 refine⟨(arr.toList.drop (base+off)).take n,VRL.wK0 (by omega) ?_,hl1, ?_⟩
 ·intro j c v hc hv
  have hj:j<n:=by have:=(List.getElem?_eq_some_iff.1 hc).1;omega
  rw[Jh hj,Jr]at hc hv;obtain⟨v',hv',hr⟩:=h3 (off+j) c hc;have:v=v':=by
   rw[K3,show base+off+j=base+(off+j) by omega,hv']at hv
   simpa using hv.symm
  exact this▸hr
 ·intro j v hv
  have hj:j<n:=by have:=(List.getElem?_eq_some_iff.1 hv).1;omega
  rw[Jh hj,Jr,K3]at hv;rw[cell_of_row w r (base+off+j) arr elem.1 elem.2 hw];exact hv
theorem zKw(b o j:Nat):(⟨b,o,none⟩:Addr).add j=⟨b,o+j,none⟩:=by unfold Addr.add;split<;>simp_all
theorem wZt(a:Addr)(h:a.spot=none)(j:Nat):a.add j=⟨a.block,a.off+j,none⟩:=by
 cases a;simp at h;subst h;exact zKw _ _ _
theorem zKl(P:Program)(w:World)(a:Addr)(vs:List Value)(h:∀(j:Nat) (v:Value),vs[j]? =some v→w.cell? (a.add j)=some v):
  (loadCells a vs.length).run P w=.ok vs.toArray w:=by
 have:=run_loadCells (P:=P) (w:=w) a vs.length (fun j=>vs.getD j default) (fun j hj=>by
  rw[h j vs[j] (by simp[hj])];simp[List.getD,hj])
 rw[this];congr 2;apply Jy;intro i;simp only[Qt];by_cases hi:i<vs.length
 ·simp[hi,List.getD]
 ·simp[hi]
end Go.Eng
/- Clean operations on values: what they answer, and that the model answers so. -/
namespace Go.Eng
set_option linter.unusedVariables false
structure TI where
 desc:TypeDesc
 agg:Bool
 size:Nat
 bytes:Nat
 zero:List CV
 comparable:Bool
 held:Bool
 eqg:Bool
def ofV1:Value→Option CV
 | .bool b=>some (.bool b)
 | .int k n=>some (.int k n)
 | .string s=>some (.str s.data.toList)
 | .pointer none=>some .nilptr
 | .slice none 0 0=>some (.slice 0 [] none true)
 | .map none=>some .nilmap
 | .nilFunc=>some .nilfunc
 | .nilIface=>some .niliface
 | .func (.func f) ⟨[]⟩ ⟨[]⟩=>some (.func f [] [])
 |_=>none
def ofVs:List Value→Option (List CV)
 |[]=>some []
 |v::vs=>match ofV1 v,ofVs vs with
  |some c,some cs=>some (c::cs)
  |_,_=>none
def ofV:Value→Option CV
 | .agg cs=>(ofVs cs.toList).map .agg
 | .tuple ⟨[]⟩=>some (.tuple [])
 |v=>ofV1 v
theorem vWz{φ:Phi}{St:Stab}{w:World}{v:Value}{c:CV}(h:ofV1 v=some c):VR φ St w c v:=by
 unfold ofV1 at h;split at h<;>first|(simp at h;done)|(simp only[Qa]at h;subst h)
 ·exact .bool _
 ·exact .int _ _
 ·exact .str _ _ rfl
 ·exact .nilptr
 ·exact .slice 0 [] none true none 0 [] (.inl rfl) .nil (by simp) (Qe _) (fun _=>rfl) trivial
 ·exact .nilmap
 ·exact .nilfunc
 ·exact .niliface
 ·exact .func _ [] [] [] [] .nil .nil
theorem zZ9{φ:Phi}{St:Stab}{w:World}{vs:List Value}{cs:List CV}(h:ofVs vs=some cs):VRL φ St w cs vs:=by
 induction vs generalizing cs with
 |nil=>simp[ofVs]at h;subst h;exact .nil
 | cons v vs ih=>
  simp only[ofVs]at h;split at h
  ·rename_i c ds h1 h2
   simp at h;subst h;exact .cons _ _ _ _ (vWz h1) (ih h2)
  ·simp at h
theorem ofV_ok{φ:Phi}{St:Stab}{w:World}{v:Value}{c:CV}(h:ofV v=some c):VR φ St w c v:=by
 unfold ofV at h;split at h
 ·rename_i cs
  cases hc:ofVs cs.toList with
  |none=>simp[hc]at h
  |some ds=>
   simp[hc]at h;subst h;have:=VR.agg (φ:=φ) (St:=St) (w:=w) ds cs.toList (zZ9 hc);simpa using this
 ·simp at h;subst h;exact .tuple [] [] .nil
 ·exact vWz h
def vYs:TypeDesc→Bool
 | .struct _| .array _ _=>true
 |_=>false
def zYc:Value→Bool
 | .agg _=>true
 |_=>false
structure TyFits (P:Program) (t:TypeId) (i:TI):Prop where
 und:P.underlying t=some i.desc
 info:∃inf z,P.info? t=some inf∧inf.size=i.size∧inf.bytes=i.bytes∧inf.zero=some z∧ofVs z.cells.toList=some i.zero∧i.zero.length=i.size∧inf.comparable=i.comparable∧zYc z=i.agg
 agg:i.agg=vYs i.desc
 one:i.agg=false→i.size=1
 held:P.stoodInHeld t=i.held
 eqg:P.eqGuardType P.depth t=i.eqg
abbrev Ty:=TypeId→Option TI
def Ty.Ok(ty:Ty)(P:Program):Prop:=∀t i,ty t=some i→TyFits P t i
def zZ8(i:TI)(cs:List CV)(off:Nat):Option CV:=
 if i.agg then(if off+i.size≤cs.length then some (.agg ((cs.drop off).take i.size))else none)else
 match cs[off]? with
 |some c=>if c.one then some c else none
 |none=>none
section
variable {P:Program} {ty:Ty} (hty:ty.Ok P)
include hty
theorem zWv{t:TypeId}{i:TI}(h:ty t=some i)(w:World):(underlying t).run P w=.ok i.desc w:=by
 simp[underlying,(hty t i h).und]
theorem yJf{t:TypeId}{i:TI}(h:ty t=some i)(w:World):(isAgg t).run P w=.ok i.agg w:=by
 have f:=hty t i h;simp only[isAgg,Sem.run_bind,zWv hty h,Result.andThen_ok];rw[f.agg];cases i.desc<;>rfl
theorem zQ0{t:TypeId}{i:TI}(h:ty t=some i)(w:World):(sizeOf t).run P w=.ok i.size w:=by
 obtain⟨inf,z,h1,h2,_⟩:=(hty t i h).info;simp[sizeOf,typeInfo,h1,h2]
theorem wJ1{t:TypeId}{i:TI}(h:ty t=some i)(w:World):∃inf,(typeInfo t).run P w=.ok inf w∧inf.bytes=i.bytes∧inf.size=i.size∧inf.comparable=i.comparable:=by
 obtain⟨inf,z,h1,h2,h3,_,_,_,h4,_⟩:=(hty t i h).info;exact⟨inf,by simp[typeInfo,h1],h3,h2,h4⟩
theorem zJe{t:TypeId}{i:TI}(h:ty t=some i)(w:World):∃z,(zeroValue t).run P w=.ok z w∧ofVs z.cells.toList=some i.zero∧i.zero.length=i.size∧zYc z=i.agg:=by
 obtain⟨inf,z,h1,h2,h3,h4,h5,h6,_,h7⟩:=(hty t i h).info;exact⟨z,by simp[zeroValue,typeInfo,h1,h4],h5,h6,h7⟩
theorem yQc{φ:Phi}{St:Stab}{w:World}{t:TypeId}{i:TI}(h:ty t=some i){cs:List CV}{vs:List Value}(hv:VRL φ St w cs vs){off:Nat}{c:CV}
  (hc:zZ8 i cs off=some c):∃v,(part t vs.toArray off).run P w=.ok v w∧VR φ St w c v:=by
 unfold zZ8 at hc;simp only[part,Sem.run_bind,yJf hty h,Result.andThen_ok];split at hc
 ·rename_i ha
  split at hc
  ·simp at hc;subst hc
   refine⟨.agg ((vs.drop off).take i.size).toArray, ?_, .agg _ _ ((hv.drop off).take i.size)⟩;simp[ha,zQ0 hty h]
  ·simp at hc
 ·rename_i ha
  split at hc
  ·rename_i x hx
   split at hc
   ·simp at hc;subst hc
    obtain⟨v,hv',hr⟩:=hv.get off x hx;refine⟨v, ?_,hr⟩;simp[ha,hv']
   ·simp at hc
  ·simp at hc
end
def intC(op:BinOp)(k:IntKind)(a b:Int):Option CV:=
 match op with
 | .add=>some (.int k (k.wrap (a+b)))
 | .sub=>some (.int k (k.wrap (a-b)))
 | .mul=>some (.int k (k.wrap (a*b)))
 | .quo=>if b=0 then none else some (.int k (k.wrap (a.tdiv b)))
 | .rem=>if b=0 then none else some (.int k (a.tmod b))
 | .and=>some (.int k (k.wrap (BitVec.ofInt k.bits a&&&BitVec.ofInt k.bits b).toNat))
 | .or=>some (.int k (k.wrap (BitVec.ofInt k.bits a|||BitVec.ofInt k.bits b).toNat))
 | .xor=>some (.int k (k.wrap (BitVec.ofInt k.bits a^^^BitVec.ofInt k.bits b).toNat))
 | .andNot=>some (.int k (k.wrap (BitVec.ofInt k.bits a&&& ~~~(BitVec.ofInt k.bits b)).toNat))
 | .eql=>some (.bool (a==b))
 | .neq=>some (.bool (a !=b))
 | .lss=>some (.bool (decide (a<b)))
 | .leq=>some (.bool (decide (a≤b)))
 | .gtr=>some (.bool (decide (a>b)))
 | .geq=>some (.bool (decide (a≥b)))
 | .shl| .shr=>none
def xYz(op:BinOp)(k:IntKind)(a b:Int):Option CV:=
 if b<0 then none else
 match op with
 | .shl=>some (.int k (k.wrap (a*2^(min b.toNat k.bits))))
 | .shr=>some (.int k (a.fdiv (2^(min b.toNat k.bits))))
 |_=>none
def strC(op:BinOp)(a b:List UInt8):Option CV:=
 match op with
 | .add=>if a.length+b.length<2^40 then some (.str (a++b))else none
 | .eql=>some (.bool (a==b))
 | .neq=>some (.bool !(a==b))
 | .lss=>some (.bool (Op.bytesLess a b))
 | .leq=>some (.bool (Op.bytesLess a b||a==b))
 | .gtr=>some (.bool !(Op.bytesLess a b||a==b))
 | .geq=>some (.bool !(Op.bytesLess a b))
 |_=>none
def eqFields(ty:Ty)(eq:TypeId→CV→CV→Option Bool):List Field→List CV→List CV→Option Bool
 |[],_,_=>some true
 | f::fs,xs,ys=>
  if f.name ≠ "_" then
   match ty f.type with
   |none=>none
   | some j=>
    match zZ8 j xs f.offset,zZ8 j ys f.offset with
    |some a,some b=>match eq f.type a b with
     |some true=>eqFields ty eq fs xs ys
     |r=>r
    |_,_=>none
  else eqFields ty eq fs xs ys
def zYg(ty:Ty)(eq:TypeId→CV→CV→Option Bool)(e:TypeId):Nat→Nat→List CV→List CV→Option Bool
 |0,_,_,_=>some true
 | n+1,i,xs,ys=>
  match ty e with
  |none=>none
  | some j=>
   match zZ8 j xs (i*j.size),zZ8 j ys (i*j.size)with
   |some a,some b=>match eq e a b with
    |some true=>zYg ty eq e n (i+1) xs ys
    |r=>r
   |_,_=>none
def eqV(ty:Ty):Nat→TypeId→CV→CV→Option Bool
 |0,_,_,_=>none
 | d+1,t,x,y=>
  match ty t with
  |none=>none
  | some i=>
   match i.desc,x,y with
   | .bool, .bool a, .bool b=>some (a==b)
   | .int _, .int k a, .int k' b=>if k=k' then some (a==b)else none
   | .string, .str a, .str b=>some (a==b)
   | .interface _, .iface tx vx, .iface ty' vy=>
    if tx≠ty' then some false else
    match ty tx with
    |none=>none
    |some j=>if j.comparable then eqV ty d tx vx vy else none
   | .interface _, .niliface, .niliface=>some true
   | .interface _, .niliface, .iface _ _| .interface _, .iface _ _, .niliface=>some false
   | .struct fs, .agg xs, .agg ys=>if i.held then none else eqFields ty (eqV ty d) fs.toList xs ys
   | .array len e, .agg xs, .agg ys=>match ty e with
    |none=>none
    |some _=>zYg ty (eqV ty d) e len 0 xs ys
   |_,_,_=>none
inductive MixE (α:Type) where
 |data (l:List α)
 |nil
 |ref (k off len gen:Nat)
def MixE.xok{α:Type}(m:List (List α)):MixE α→Bool
 | .data _=>true
 | .nil=>true
 | .ref k off len gen=>decide (k<m.length)&&(gen==(m.getD k []).length&&decide (off+len≤gen))
def MixE.xpt{α:Type}(m:List (List α))(i:Nat):MixE α→Bool
 | .ref k off len gen=>decide (k<m.length)&&(gen==(m.getD k []).length&&(decide (off+len≤gen)&&decide (i<len)))
 |_=>false
def MixE.xw{α:Type}(m:List (List α)):MixE α→Bool
 | .ref k off len gen=>decide (k<m.length)&&(gen==(m.getD k []).length&&decide (off+len≤gen))
 |_=>false
def MixE.xgr{α:Type}(m:List (List α)):MixE α→Bool
 | .ref k off len gen=>decide (k<m.length)&&(gen==(m.getD k []).length&&(off==0&&len==gen))
 |_=>false
def MixE.xcut{α:Type}(m:List (List α)):MixE α→Bool
 | .data _=>true
 | .nil=>false
 | .ref k _ _ gen=>decide (k<m.length)&&gen==(m.getD k []).length
end Go.Eng
/- Rows that may grow: what they have, and changes in them. -/
namespace Go.Eng
set_option linter.unusedVariables false
def rowG(h:Heap)(b k gen:Nat):Option (List CV):=
 match h[b]? with
 |some (.rows css)=>match css[k]? with
  |some cs=>if cs.length=gen then some cs else none
  |none=>none
 |_=>none
section
variable {N:Nat} {φ:Phi} {St:Stab} {h:Heap} {w:World}
theorem zJf{b k gen:Nat}{cs:List CV}(e:rowG h b k gen=some cs):∃css,h[b]?=some (.rows css)∧css[k]?=some cs∧cs.length=gen:=by
 unfold rowG at e;split at e<;>(try (simp at e;done))
 rename_i css hb;split at e<;>(try (simp at e;done))
 rename_i cs' hk;split at e<;>(try (simp at e;done))
 rename_i hg;simp at e;subst e;exact⟨css,hb,hk,hg⟩
theorem Rel.rowOf(R:Rel N φ St h w){b:Nat}{rs:List Row}(hφ:φ b=some (.rows rs)){css:List (List CV)}(hb:h[b]? =some (.rows css)){k:Nat}{cs:List CV}(hk:css[k]? =some cs):
  ∃row,rs[k]?=some row∧yZe N φ St w row cs:=by
 obtain⟨css',h1,h2,h3,_⟩:=R.rows b rs hφ;rw[hb]at h1;simp at h1;subst h1;have hlt:k<rs.length:=by rw[←h2];exact(List.getElem?_eq_some_iff.1 hk).1
 exact⟨rs[k],Qm hlt,h3 k _ cs (Qm hlt) hk⟩
theorem zW9(R:Rel N φ St h w){esz b k off len gen:Nat}{v:Value}{cs:List CV}(hv:VR φ St w (.gref esz b k off len gen) v)(e:rowG h b k gen=some cs):
  ∃rs row a cap,φ b=some (.rows rs)∧rs[k]?=some row∧v=.slice a len cap∧len≤cap∧yZe N φ St w row cs∧row.u=gen∧(cap=0∨GOk row a esz off cap):=by
 obtain⟨css,hb,hk,hg⟩:=zJf e;cases hv with
 |gref _ _ _ _ _ _ rs a cap hφ hcap hrow=>
  obtain⟨row,hr,ho⟩:=R.rowOf hφ hb hk;have hu:row.u=gen:=by rw[←ho.1,hg]
  refine⟨rs,row,a,cap,hφ,hr,rfl,hcap,ho,hu, ?_⟩;rcases hrow with h0|⟨_,hrow⟩
  ·exact .inl h0
  ·exact .inr ((hrow row hr).2 hu)
 |grefDead _ _ _ _ _ _ _ _ hφ=>have:=R.dead b hφ;rw[hb]at this;simp at this
theorem yX9(R:Rel N φ St h w){b k off gen:Nat}{v:Value}{cs:List CV}(hv:VR φ St w (.gptr b k off gen) v)(e:rowG h b k gen=some cs):
  ∃rs row r base lim,φ b=some (.rows rs)∧rs[k]?=some row∧row.blk=some (r,base,lim)∧v=.pointer (some ⟨r,base+off,none⟩)∧yZe N φ St w row cs∧row.u=gen:=by
 obtain⟨css,hb,hk,hg⟩:=zJf e;cases hv with
 |gptr _ _ _ _ rs p hφ hk' hrow=>
  obtain⟨row,hr,ho⟩:=R.rowOf hφ hb hk;have hu:row.u=gen:=by rw[←ho.1,hg]
  obtain⟨r,base,lim,h1,rfl⟩:=(hrow row hr).2 hu;exact⟨rs,row,r,base,lim,hφ,hr,h1,rfl,ho,hu⟩
 |gptrDead _ _ _ _ _ hφ=>have:=R.dead b hφ;rw[hb]at this;simp at this
theorem yZe.cells{row:Row}{cs:List CV}(ho:yZe N φ St w row cs){r base lim:Nat}(hb:row.blk=some (r,base,lim))(off n:Nat)(hl:off+n≤cs.length):
  ∃vs,VRL φ St w ((cs.drop off).take n) vs∧vs.length=n∧∀(j:Nat) (v:Value),vs[j]?=some v→w.cell? ⟨r,base+off+j,none⟩=some v:=by
 obtain⟨h1,_,h2⟩:=ho;obtain⟨_,h3,⟨arr,elem,hw,_,hsz,hvs⟩,_⟩:=h2 r base lim hb;have hl1:((arr.toList.drop (base+off)).take n).length=n:=by simp;omega
 have hl2:((cs.drop off).take n).length=n:=by simp;omega
 refine⟨(arr.toList.drop (base+off)).take n,VRL.wK0 (by omega) ?_,hl1, ?_⟩
 ·intro j c v hc hv
  have hj:j<n:=by have:=(List.getElem?_eq_some_iff.1 hc).1;omega
  rw[Jh hj,Jr]at hc hv;obtain⟨v',hv',hr⟩:=hvs (off+j) c hc;have:v=v':=by
   rw[K3,show base+off+j=base+(off+j) by omega,hv']at hv
   simpa using hv.symm
  exact this▸hr
 ·intro j v hv
  have hj:j<n:=by have:=(List.getElem?_eq_some_iff.1 hv).1;omega
  rw[Jh hj,Jr,K3]at hv;rw[cell_of_row w r (base+off+j) arr elem.1 elem.2 hw];exact hv
def zJp(w w':World)(r base lim:Nat):Prop:=
 ∀(arr:Array Value) (e:TypeId) (fz:Nat×Nat),w.heap[r]?=some (.cells arr e fz)→∃arr',w'.heap[r]?=some (.cells arr' e fz)∧arr'.size=arr.size∧∀j,j<lim→arr'[base+j]?=arr[base+j]?
theorem zJp.same{w':World}{r base lim:Nat}(h:w'.heap[r]?=w.heap[r]?):zJp w w' r base lim:=fun arr e fz hw=>⟨arr,by rw[h];exact hw,rfl,fun _ _=>rfl⟩
theorem yZe.step{φ':Phi}{St':Stab}{w':World}{row:Row}{cs:List CV}(ho:yZe N φ St w row cs)(m:Mono φ St w φ' St' w')
  (hk:∀r base lim,row.blk=some (r,base,lim)→zJp w w' r base lim∧∀j,¬St' r j):yZe N φ' St' w' row cs:=by
 obtain⟨h1,h2,h3⟩:=ho;refine⟨h1,h2,fun r base lim hb=>?_⟩
 obtain⟨g1,g2,⟨arr,elem,g3,g4,g5,g6⟩,g7⟩:=h3 r base lim hb;obtain⟨k1,k2⟩:=hk r base lim hb;obtain⟨arr',k3,k4,k5⟩:=k1 arr elem.1 elem.2 g3;refine⟨g1,g2,⟨arr',elem,k3,by rw[k4];exact g4,by omega,fun j c hc=>?_⟩,k2⟩
 have hj:j<cs.length:=(List.getElem?_eq_some_iff.1 hc).1;obtain⟨v,e1,e2⟩:=g6 j c hc;exact⟨v,by rw[k5 j (by omega)];exact e1,e2.mono m⟩
theorem zKx.setRow{φ':Phi}{St':Stab}{w':World}{rs:List Row}{css:List (List CV)}(ho:zKx N φ St w rs (some (.rows css)))(m:Mono φ St w φ' St' w'){k:Nat}{row':Row}{cs':List CV}
  (hk:k<rs.length) (hnew:yZe N φ' St' w' row' cs')
  (hoth:∀(k':Nat) (row:Row) (r base lim:Nat),k'≠k→rs[k']? =some row→row.blk=some (r,base,lim)→(zJp w w' r base lim∧∀j,¬St' r j)∧
   ∀r2 base2 lim2,row'.blk=some (r2,base2,lim2)→r=r2→base+lim≤base2∨base2+lim2≤base):
  zKx N φ' St' w' (rs.set k row') (some (.rows (css.set k cs'))):=by
 obtain⟨css0,h1,h2,h3,h4⟩:=ho;simp at h1;subst h1;refine⟨_,rfl,by simp[h2],fun k' row cs hr hc=>?_,fun k1 k2 row1 row2 r base lim base' lim' hne hr1 hr2 hb1 hb2=>?_⟩
 ·by_cases hkk:k'=k
  ·subst hkk
   rw[Qk hk]at hr;rw[Qk (by omega)]at hc
   simp at hr hc;subst hr hc;exact hnew
  ·rw[Qd (Jw hkk)]at hr hc
   exact(h3 k' row cs hr hc).step m fun r base lim hb=>(hoth k' row r base lim hkk hr hb).1
 ·by_cases hk1:k1=k
  ·subst hk1
   rw[Qk hk]at hr1;simp at hr1;subst hr1;rw[Qd hne]at hr2;rcases(hoth k2 row2 r base' lim' (Jw hne) hr2 hb2).2 _ _ _ hb1 rfl with h|h
   ·exact .inr h
   ·exact .inl h
  ·rw[Qd (Jw hk1)]at hr1
   by_cases hk2:k2=k
   ·subst hk2
    rw[Qk hk]at hr2;simp at hr2;subst hr2;exact(hoth k1 row1 r base lim hk1 hr1 hb1).2 _ _ _ hb2 rfl
   ·rw[Qd (Jw hk2)]at hr2
    exact h4 k1 k2 row1 row2 r base lim base' lim' hne hr1 hr2 hb1 hb2
theorem xKp{φ:Phi}{b:Nat}{e:Ent}(hφ:φ b=some e):φ.put b e=φ:=by
 funext b';by_cases hb:b'=b
 ·subst hb;rw[zQg,hφ]
 ·rw[zQc _ _ _ _ hb]
theorem zKq{α:Type}{l:List α}{i:Nat}{x:α}(h:l[i]?=some x):l.set i x=l:=by
 apply Jy;intro j;by_cases hj:j=i
 ·subst hj;rw[Qk (List.getElem?_eq_some_iff.1 h).1,h]
 ·rw[Qd (Jw hj)]
theorem Rel.vQl(P:Program)(R:Rel N φ St h w){b:Nat}{rs:List Row}(hφ:φ b=some (.rows rs)){css:List (List CV)}(hh:h[b]? =some (.rows css)){k:Nat}{cs:List CV}(hk:css[k]? =some cs){row:Row}(hr:rs[k]? =some row)
  {r base lim:Nat} (hb:row.blk=some (r,base,lim)) (off:Nat) (news:List CV) (vs:List Value) (hv:VRL φ St w news vs) (hone:∀c∈news,c.one=true) (hl:off+news.length≤cs.length):
  ∃w',(storeCells ⟨r,base+off,none⟩ vs).run P w=.ok () w'∧Rel N φ St (h.set b (.rows (css.set k (zQd cs off news)))) w'∧Frm h.length φ St w φ St w':=by
 have hrows:=R.rows b rs hφ;rw[hh]at hrows;obtain⟨row0,hr0,ho⟩:=R.rowOf hφ hh hk;rw[hr]at hr0;simp at hr0;subst hr0;obtain⟨o1,o2,o3⟩:=ho;obtain⟨hN,g2,⟨arr,elem,hw,hz,hsz,h3⟩,hns⟩:=o3 r base lim hb
 have hlen:=hv.length;have hrun:=zWz P r (base+off) elem.1 elem.2 vs 0 arr w hw (by omega) (hv.one hone) hz
 simp only[Ks]at hrun;let arr':Array Value:=(zQd arr.toList (base+off) vs).toArray;have harr':(arr.toList.take (base+off)++vs++arr.toList.drop (base+off+vs.length)).toArray=arr':=rfl
 rw[harr']at hrun;refine⟨_,hrun, ?_⟩;have hother:∀k,k≠r→(w.setRow r arr').heap[k]?=w.heap[k]?:=fun k hk=>setRow_other w r k _ hk
 have m:Mono φ St w φ St (w.setRow r arr'):=⟨fun _=>.refl _,fun _ _ h=>h,fun r' j hs=>by
  have hne:r'≠r:=fun e=>hns j (e▸hs)
  exact cell_setRow_other w r _ ⟨r',j,none⟩ hne⟩
 have hbl:=R.dom b _ hφ;have hhas:(Ent.rows rs).has r:=⟨row,Ql hr,base,lim,hb⟩;have hsl:arr'.size=arr.size:=by
  show(zQd arr.toList (base+off) vs).toArray.size=arr.size;rw[Kj,zWa _ _ _ (by simp;omega)];simp
 have hga:∀k:Nat,arr'[k]?=(zQd arr.toList (base+off) vs)[k]?:=fun k=>by show(zQd arr.toList (base+off) vs).toArray[k]?=_;simp
 refine⟨?_,Frm.quiet m (by simp) (fun k hk hn=>hother k fun e=>hn b _ hφ (by rw[e];exact hhas)) rfl rfl rfl⟩
 have :=R.change b (.rows rs) (.rows (css.set k (zQd cs off news))) St (h.set b (.rows (css.set k (zQd cs off news)))) (w.setRow r arr') ((xKp hφ).symm▸m) (by simp)
  (by rw[Qk hbl]) (by simp) (fun b' e hne hb'=>by rw[Qd (Jw hne)])
  (fun b' e r' hne hb' he=>hother r' (fun e'=>hne (R.inj b' b e _ r hb' hφ (e'▸he) hhas)))
  (fun r' j hs=>by have:=R.stLt r' j hs;simpa using this) (fun r' j hs=>.inl hs)
  (fun r' he b' e hne hb' he'=>hne (R.inj b' b e _ r' hb' hφ he' he))
  (by
   rw [xKp hφ];have:=hrows.setRow (k:=k) (row':=row) (cs':=zQd cs off news) m (List.getElem?_eq_some_iff.1 hr).1 (by
    refine⟨by rw[zWa _ _ _ hl];exact o1,o2,fun r1 base1 lim1 hb1=>?_⟩
    rw[hb]at hb1;simp at hb1;obtain⟨rfl,rfl,rfl⟩:=hb1;refine⟨hN,g2,⟨arr',elem,setRow_heap w r arr arr' elem.1 elem.2 hw,by rw[hsl];exact hz,by omega,fun j c hc=>?_⟩,hns⟩
    rw[zWl _ _ _ hl]at hc;rw[hga,zWl _ _ _ (by simp;omega)]
    by_cases c1:j<off
    ·rw[Qf c1]at hc
     rw[Qf (by omega)]
     obtain⟨v,hv',hr'⟩:=h3 j c hc;exact⟨v,by simpa using hv',hr'.mono m⟩
    ·rw[Qi c1]at hc
     rw[Qi (by omega)]
     by_cases c2:j<off+news.length
     ·rw[Qf c2]at hc
      rw[Qf (by omega)]
      obtain⟨v,hv',hr'⟩:=hv.get _ c hc;exact⟨v,by rw[show base+j-(base+off)=j-off by omega];exact hv',hr'.mono m⟩
     ·rw[Qi c2]at hc
      rw[Qi (by omega)]
      obtain⟨v,hv',hr'⟩:=h3 j c hc;exact⟨v,by simpa using hv',hr'.mono m⟩)
    (fun k' row2 r2 base2 lim2 hne hr2 hb2=>by
     have hdis:r2=r→base2+lim2≤base∨base+lim≤base2:=by
      intro e;subst e;obtain⟨_,_,_,_,h4⟩:=hrows;exact h4 k' k row2 row r2 base2 lim2 base lim hne hr2 hr hb2 hb
     refine⟨⟨?_,fun j hs=>?_⟩,fun r3 base3 lim3 hb3 e=>?_⟩
     ·by_cases e:r2=r
      ·subst e
       intro arr2 e2 fz2 hw2;rw[hw]at hw2;simp at hw2;obtain⟨rfl,rfl,rfl⟩:=hw2;refine⟨arr',setRow_heap w r2 arr arr' elem.1 elem.2 hw,hsl,fun j hj=>?_⟩
       rw[hga,zWl _ _ _ (by simp;omega)]
       rcases hdis rfl with d|d
       ·rw[Qf (by omega)];simp
       ·rw[Qi (by omega),Qi (by omega)];simp
      ·exact zJp.same (hother r2 e)
     ·have hh2:(Ent.rows rs).has r2:=⟨row2,Ql hr2,base2,lim2,hb2⟩
      exact(hrows.lt hh2).2.2 j hs
     ·rw[hb]at hb3;simp at hb3;obtain⟨rfl,rfl,rfl⟩:=hb3
      exact hdis e)
   rw[zKq hr]at this;exact this)
 rw[xKp hφ]at this;exact this
theorem Rel.rowTo(R:Rel N φ St h w){b:Nat}{rs:List Row}(hφ:φ b=some (.rows rs)){css:List (List CV)}(hh:h[b]? =some (.rows css)){k:Nat}{row:Row}(hr:rs[k]? =some row)(row':Row)(cs':List CV){w':World}
  (hu:row.u<row'.u) (hsize:w.heap.size≤w'.heap.size)
  (hst:∀r j,St r j→w'.cell? ⟨r,j,none⟩=w.cell? ⟨r,j,none⟩)
  (hoth:∀b' e r,b'≠b→φ b'=some e→e.has r→w'.heap[r]?=w.heap[r]?)
  (hrow:∀(k':Nat) (row2:Row) (r base lim:Nat),k'≠k→rs[k']? =some row2→row2.blk=some (r,base,lim)→zJp w w' r base lim∧
   ∀r2 base2 lim2,row'.blk=some (r2,base2,lim2)→r=r2→base+lim≤base2∨base2+lim2≤base)
  (hblk:∀r base lim,row'.blk=some (r,base,lim)→(Ent.rows rs).has r∨w.heap.size≤r)
  (hnew:Mono φ St w (φ.put b (.rows (rs.set k row'))) St w'→yZe N (φ.put b (.rows (rs.set k row'))) St w' row' cs')
  (hkeep:∀r,r<w.heap.size→(∀b e,φ b=some e→¬e.has r)→w'.heap[r]?=w.heap[r]?) (ho1:w'.os=w.os) (ho2:w'.output=w.output) (ho3:w'.tape=w.tape):
  Rel N (φ.put b (.rows (rs.set k row'))) St (h.set b (.rows (css.set k cs'))) w'∧Frm h.length φ St w (φ.put b (.rows (rs.set k row'))) St w':=by
 have hkl:k<rs.length:=(List.getElem?_eq_some_iff.1 hr).1;have hrows:=R.rows b rs hφ;rw[hh]at hrows;have hbl:=R.dom b _ hφ;have m:Mono φ St w (φ.put b (.rows (rs.set k row'))) St w':=by
  refine⟨fun b'=>?_,fun _ _ h=>h,fun r j hs=>hst r j hs⟩
  by_cases hb:b'=b
  ·subst hb;rw[zQg,hφ]
   refine .rows _ _ fun k' row2 hr2=>?_
   by_cases hkk:k'=k
   ·subst hkk;rw[hr]at hr2;simp at hr2;subst hr2
    exact⟨row',by rw[Qk hkl], .inr hu⟩
   ·exact⟨row2,by rw[Qd (Jw hkk)];exact hr2, .inl rfl⟩
  ·rw[zQc _ _ _ _ hb];exact .refl _
 have hhas:∀r,(Ent.rows (rs.set k row')).has r→(Ent.rows rs).has r∨w.heap.size≤r:=by
  intro r hx;obtain⟨row2,hm,base,lim,hb⟩:=hx;rcases Wo hm with hm|rfl
  ·exact .inl ⟨row2,hm,base,lim,hb⟩
  ·exact hblk r base lim hb
 refine⟨?_,{toMono:=m,size:=hsize,stNew:=fun _ _ h=>.inl h,blkNew:=?_,keepBlk:=hkeep,idNew:=?_,os:=ho1,output:=ho2,tape:=ho3}⟩
 ·refine R.change b (.rows (rs.set k row')) (.rows (css.set k cs')) St (h.set b (.rows (css.set k cs'))) w' m hsize (by rw[Qk hbl]) (by simp)
   (fun b' e hne hb'=>by rw[Qd (Jw hne)]) (fun b' e r hne hb' he=>hoth b' e r hne hb' he)
   (fun r j hs=>by have:=R.stLt r j hs;omega) (fun r j hs=>.inl hs) (fun r hx b' e hne hb' he'=>?_) ?_
  ·rcases hhas r hx with hx|hx
   ·exact hne (R.inj b' b e _ r hb' hφ he' hx)
   ·have:=(R.lt hb' he').2;omega
  ·exact hrows.setRow m hkl (hnew m) fun k' row2 r base lim hne hr2 hb2=>⟨⟨(hrow k' row2 r base lim hne hr2 hb2).1,(hrows.lt ⟨row2,Ql hr2,base,lim,hb2⟩).2.2⟩,(hrow k' row2 r base lim hne hr2 hb2).2⟩
 ·intro b' e r hb' he
  by_cases hbb:b'=b
  ·subst hbb;rw[zQg]at hb';simp at hb';subst hb'
   rcases hhas r he with hx|hx
   ·exact .inl ⟨b',_,hφ,hx⟩
   ·exact .inr hx
  ·rw[zQc _ _ _ _ hbb]at hb';exact .inl ⟨b',e,hb',he⟩
 ·intro b' hb' hn
  rw[zQc _ _ _ _ (fun e=>by subst e;rw[hφ]at hn;simp at hn)];exact hn
end
end Go.Eng
/- Clean operators answer as the model's. -/
namespace Go.Eng
set_option linter.unusedVariables false
section
variable {P:Program} {ty:Ty} (hty:ty.Ok P) {φ:Phi} {St:Stab} {w:World}
include hty
def yX6(d:Nat)(e:TypeId)(n:Nat)(xs ys:Array Value):List Nat→Sem Bool
 |[]=>pure true
 |i::is=>do
  let a←part e xs (i*n);let b←part e ys (i*n);let r←Op.equalIn d e a b
  if(!r)=true then pure false else yX6 d e n xs ys is
omit hty in
theorem run_equalIn_array(d:Nat)(t e:TypeId)(len:Nat)(xs ys:Array Value)(ht:P.underlying t=some (.array len e))(n:Nat)(hn:(sizeOf e).run P w= .ok n w):
  (Op.equalIn (d+1) t (.agg xs) (.agg ys)).run P w=(yX6 d e n xs ys (List.range' 0 len)).run P w:=by
 simp only[Op.equalIn,Sem.run_bind,run_underlying ht,Result.andThen_ok,hn];rw[Std.Legacy.Range.forIn_eq_forIn_range'];have hsz:List.range' 0 ([:len]:Std.Legacy.Range).size 1=List.range' 0 len:=by simp[Std.Legacy.Range.size]
 have:List.range' ([:len]:Std.Legacy.Range).start ([:len]:Std.Legacy.Range).size ([:len]:Std.Legacy.Range).step=List.range' 0 len:=hsz;rw[this];generalize List.range' 0 len=l
 clear hn;induction l generalizing w with
 |nil=>simp[yX6]
 | cons i is ih=>
  simp only[List.forIn_cons,yX6,Sem.run_bind,Sem.run_ite];generalize (part e xs (i*n)).run P w=r1;cases r1 with
  |halt h w1=>simp
  | ok a w1=>
   simp only[Result.andThen_ok];generalize (part e ys (i*n)).run P w1=r2;cases r2 with
   |halt h w2=>simp
   | ok b w2=>
    simp only[Result.andThen_ok];generalize (Op.equalIn d e a b).run P w2=r3;cases r3 with
    |halt h w3=>simp
    |ok r w3=>
     cases r with
     |true=>simpa using ih (w:=w3)
     |false=>simp
theorem eqV_ok:∀(d:Nat),
  (∀t x y b vx vy,eqV ty d t x y=some b→VR φ St w x vx→VR φ St w y vy→∀D,d≤D→(Op.equalIn D t vx vy).run P w=.ok b w):=by
 intro d;induction d with
 |zero=>intro t x y b vx vy h;simp[eqV]at h
 | succ d ih=>
  intro t x y b vx vy h hx hy D hD;obtain⟨D,rfl⟩:∃D',D=D'+1:=⟨D-1,by omega⟩
  have hD':d≤D:=by omega
  have fieldsOk:∀(fs:List Field) (xs ys:List CV) (us vs:List Value) (b:Bool),eqFields ty (eqV ty d) fs xs ys=some b→VRL φ St w xs us→VRL φ St w ys vs→
    (Op.eqFields D us.toArray vs.toArray fs).run P w=.ok b w:=by
   intro fs;induction fs with
   |nil=>intro xs ys us vs b h _ _;simp[eqFields]at h;subst h;rfl
   | cons f fs ihf=>
    intro xs ys us vs b h hu hv;simp only[eqFields]at h;simp only[Op.eqFields];split at h
    ·rename_i hne
     rw[Qf hne];split at h
     ·simp at h
     ·rename_i j hj
      split at h
      ·rename_i a c ha hc
       obtain⟨va,hra,hva⟩:=yQc hty hj hu ha;obtain⟨vc,hrc,hvc⟩:=yQc hty hj hv hc;split at h
       ·rename_i he
        simp[hra,hrc,ih _ _ _ _ _ _ he hva hvc D hD',ihf _ _ _ _ _ h hu hv]
       ·rename_i r hr1
        cases b with
        |true=>exact absurd h hr1
        |false=>simp[hra,hrc,ih _ _ _ _ _ _ h hva hvc D hD']
      ·simp at h
    ·rename_i hne
     rw[Qi hne];exact ihf _ _ _ _ _ h hu hv
  have elemsOk:∀(n i:Nat) (e:TypeId) (j:TI) (xs ys:List CV) (us vs:List Value) (b:Bool),ty e=some j→zYg ty (eqV ty d) e n i xs ys=some b→VRL φ St w xs us→VRL φ St w ys vs→
    (yX6 D e j.size us.toArray vs.toArray (List.range' i n)).run P w=.ok b w:=by
   intro n;induction n with
   |zero=>intro i e j xs ys us vs b _ h _ _;simp[zYg]at h;subst h;rfl
   | succ n ihn=>
    intro i e j xs ys us vs b hj h hu hv;simp only[zYg,hj]at h;simp only[List.range'_succ,yX6];split at h
    ·rename_i a c ha hc
     obtain⟨va,hra,hva⟩:=yQc hty hj hu ha;obtain⟨vc,hrc,hvc⟩:=yQc hty hj hv hc;split at h
     ·rename_i he
      simp[hra,hrc,ih _ _ _ _ _ _ he hva hvc D hD',ihn _ _ _ _ _ _ _ _ hj h hu hv]
     ·rename_i r hr1
      cases b with
      |true=>exact absurd h hr1
      |false=>simp[hra,hrc,ih _ _ _ _ _ _ h hva hvc D hD']
    ·simp at h
  simp only[eqV]at h;split at h
  ·simp at h
  ·rename_i i hi
   have hu:=(hty t i hi).und;split at h
   ·rename_i hd;cases hx;cases hy;simp at h;subst h;simp[Op.equalIn,run_underlying hu,hd]
   ·rename_i hd;cases hx;cases hy
    split at h
    ·simp at h;subst h;simp[Op.equalIn,run_underlying hu, *]
    ·simp at h
   ·rename_i hd;cases hx with|str _ t1 h1=>cases hy with|str _ t2 h2=>
    simp at h;subst h;subst h1;subst h2;obtain⟨⟨x⟩⟩:=t1;obtain⟨⟨y⟩⟩:=t2;simp[Op.equalIn,run_underlying hu,hd,beq_toListBytes,ByteArray.toList_eq]
   ·rename_i hd;cases hx with|iface _ _ v1 h1=>cases hy with|iface _ _ v2 h2=>
    split at h
    ·rename_i hne;simp at h;subst h;simp[Op.equalIn,run_underlying hu,hd,hne]
    ·rename_i heq
     split at h
     ·simp at h
     ·rename_i j hj
      split at h
      ·rename_i hcm
       have heq:_=_:=Decidable.not_not.1 heq;subst heq;obtain⟨inf,hinf,_,_,hcc⟩:=wJ1 hty hj w;simp[Op.equalIn,run_underlying hu,hd,hinf,hcc,hcm,ih _ _ _ _ _ _ h h1 h2 D hD']
      ·simp at h
   ·rename_i hd;cases hx;cases hy;simp at h;subst h;simp[Op.equalIn,run_underlying hu,hd]
   ·rename_i hd;cases hx;cases hy;simp at h;subst h;simp[Op.equalIn,run_underlying hu,hd]
   ·rename_i hd;cases hx;cases hy;simp at h;subst h;simp[Op.equalIn,run_underlying hu,hd]
   ·rename_i fs xs ys hd
    cases hx with|agg _ us h1=>cases hy with|agg _ vs h2=>
    split at h
    ·simp at h
    ·rename_i hheld
     have hsf:P.underlying t=some (.struct (P.fieldsOf t)):=by simp[Program.fieldsOf,hu,hd]
     have hfs:P.fieldsOf t=fs:=by simp[Program.fieldsOf,hu,hd]
     rw[run_equalIn_struct w D t us.toArray vs.toArray hsf (by rw[(hty t i hi).held];simpa using hheld),hfs]
     exact fieldsOk _ _ _ _ _ _ h h1 h2
   ·rename_i len e xs ys hd
    cases hx with|agg _ us h1=>cases hy with|agg _ vs h2=>
    split at h
    ·simp at h
    ·rename_i j hj
     rw[run_equalIn_array D t e len us.toArray vs.toArray (by rw[hu,hd]) j.size (zQ0 hty hj w)]
     exact elemsOk _ _ _ _ _ _ _ _ _ hj h h1 h2
   ·simp at h
end
end Go.Eng
/- Operators. -/
namespace Go.Eng
set_option linter.unusedVariables false
def isConst:Operand→Bool
 | .const _=>true
 |_=>false
def zZq:Operand→Bool
 | .const (.slice none _ _)=>true
 |_=>false
def live(h:Heap)(b:Nat):Bool:=
 match h[b]? with
 |some .dead=>false
 |none=>false
 |some _=>true
def yXi(h:Heap)(d:TypeDesc)(yn:Bool)(a b:CV):Option Bool:=
 match d,a,b with
 | .pointer _, .nilptr, .nilptr=>some true
 | .pointer _, .ptr b _, .nilptr=>if live h b then some false else none
 | .pointer _, .nilptr, .ptr b _=>if live h b then some false else none
 | .pointer _, .rop _, .nilptr=>some false
 | .func _ _ _, .nilfunc, .nilfunc=>some true
 | .func _ _ _, .func _ _ _, .nilfunc=>some false
 | .func _ _ _, .nilfunc, .func _ _ _=>some false
 | .map _ _, .nilmap, .nilmap=>some true
 | .map _ _, .map b, .nilmap=>if live h b then some false else none
 | .slice _, .sref _ b _ _ _ _, .slice _ [] _ _=>if yn&&live h b then some false else none
 | .slice _, .slice _ (_::_) _ _, .slice _ [] _ _=>if yn then some false else none
 | .slice _, .gref _ b k _ len gen, .slice _ [] _ _=>if yn&&((rowG h b k gen).isSome&&decide (0<len))then some false else none
 |_,_,_=>none
def eqC(ty:Ty)(h:Heap)(t:TypeId)(cst yn:Bool)(a b:CV):Option Bool:=
 match ty t with
 |none=>none
 |some i=>
  match a,b with
  | .agg xs, .agg ys=>if i.eqg then none else eqV ty 40 t (.agg xs) (.agg ys)
  | .niliface, .niliface=>if cst then eqV ty 40 t .niliface .niliface else none
  | .bool x, .bool y=>eqV ty 40 t (.bool x) (.bool y)
  | .iface u x, .iface v y=>eqV ty 40 t (.iface u x) (.iface v y)
  | .iface u x, .niliface=>eqV ty 40 t (.iface u x) .niliface
  | .niliface, .iface v y=>eqV ty 40 t .niliface (.iface v y)
  |a,b=>yXi h i.desc yn a b
def binC(ty:Ty)(h:Heap)(op:BinOp)(t:TypeId)(cst yn:Bool)(a b:CV):Option CV:=
 match a,b with
 | .int k x, .int k' y=>
  match op with
  | .shl| .shr=>xYz op k x y
  |_=>if k=k' then intC op k x y else none
 | .str x, .str y=>strC op x y
 |a,b=>match op with
  | .eql=>(eqC ty h t cst yn a b).map .bool
  | .neq=>(eqC ty h t cst yn a b).map fun r=>.bool !r
  |_=>none
theorem xQ0{P:Program}{w:World}(op:BinOp)(t:TypeId)(x y:Operand)(k k':IntKind)(a b:Int):(eqGuard op t x y (.int k a) (.int k' b)).run P w=.ok () w:=by
 unfold eqGuard;cases op<;>rfl
theorem xQz{P:Program}{w:World}(op:BinOp)(t:TypeId)(x y:Operand)(a b:ByteArray):(eqGuard op t x y (.string a) (.string b)).run P w=.ok () w:=by
 unfold eqGuard;cases op<;>rfl
theorem vKn{P:Program}{w:World}(op:BinOp)(k:IntKind)(a b:Int)(t:TypeId){c:CV}(h:intC op k a b=some c):
  ∃v,(binOp op t (.int k a) (.int k b)).run P w=.ok v w∧∀φ St,VR φ St w c v:=by
 cases op<;>simp only[intC]at h<;>(try (simp at h;done))<;>(try split at h)<;>(try (simp at h;done))<;>(simp only[Qa]at h;subst h)<;>
  simp only[binOp,ne_eq,not_true_eq_false,if_false,Op.intArith,Op.intDiv,Op.intBits,Op.intCmp, *]<;>exact⟨_,rfl,fun _ _=>by constructor⟩
theorem xZf{P:Program}{w:World}(op:BinOp)(k k':IntKind)(a b:Int)(t:TypeId){c:CV}(h:xYz op k a b=some c):
  ∃v,(binOp op t (.int k a) (.int k' b)).run P w=.ok v w∧∀φ St,VR φ St w c v:=by
 unfold xYz at h;split at h
 ·simp at h
 ·rename_i hb
  cases op<;>simp only at h<;>(try (simp at h;done))<;>(simp only[Qa]at h;subst h)<;>
   simp only[binOp,Op.shift,hb,if_false]<;>exact⟨_,rfl,fun _ _=>by constructor⟩
theorem vKm{P:Program}{w:World}(op:BinOp)(a b:ByteArray)(t:TypeId){c:CV}(h:strC op a.data.toList b.data.toList=some c):
  ∃v,(binOp op t (.string a) (.string b)).run P w=.ok v w∧∀φ St,VR φ St w c v:=by
 have hb:∀(o:BinOp),binOp o t (.string a) (.string b)=Op.stringOp o a b:=by intro o;cases o<;>rfl
 rw[hb];have hl:∀x:ByteArray,x.toList=x.data.toList:=fun x=>ByteArray.toList_eq x
 cases op<;>simp only[strC]at h<;>(try (simp at h;done))<;>(try split at h)<;>(try (simp at h;done))<;>(simp only[Qa]at h;subst h)<;>
  simp only[Op.stringOp,hl]
 case add hlt=>
  have:¬((a.size+b.size:Nat):Int)>IntKind.i64.max:=by
   have h1:a.size=a.data.toList.length:=(Jk (xs:=a.data)).symm;have h2:b.size=b.data.toList.length:=(Jk (xs:=b.data)).symm;have:IntKind.i64.max=9223372036854775807:=by decide
   omega
  rw[Qi this];exact⟨_,rfl,fun _ _=>.str _ _ (by simp[ByteArray.data_append])⟩
 all_goals exact⟨_,rfl,fun _ _=>by constructor⟩
section
variable {P:Program} {ty:Ty} (hty:ty.Ok P) {N:Nat} {φ:Phi} {St:Stab} {h:Heap} {w:World} (R:Rel N φ St h w)
include R
theorem zKv{b off:Nat}{v:Value}(hv:VR φ St w (.ptr b off) v)(hl:live h b=true):
  ∃r base size,φ b=some (.own r base size)∧v=.pointer (some ⟨r,base+off,none⟩):=by
 cases hv with
 |ptr _ _ r base size hφ=>exact⟨r,base,size,hφ,rfl⟩
 |ptrDead _ _ _ hφ=>have:=R.dead b hφ;simp[live,this]at hl
theorem zQn{esz b off len cap:Nat}{ex:Bool}{v:Value}(hv:VR φ St w (.sref esz b off len cap ex) v)(hl:live h b=true):
  ∃r base size rcap,φ b=some (.own r base size)∧v=.slice (some ⟨r,base+off,none⟩) len rcap∧cap≤rcap∧len≤cap∧(ex=true→rcap=cap)∧base+off+rcap*esz≤size:=by
 cases hv with
 |sref _ _ _ _ _ _ r base size rcap hφ h1 h2 h3 h4=>exact⟨r,base,size,rcap,hφ,rfl,h1,h2,h3,h4⟩
 |srefDead _ _ _ _ _ _ _ _ hφ=>have:=R.dead b hφ;simp[live,this]at hl
theorem yXn{b:Nat}{v:Value}(hv:VR φ St w (.map b) v)(hl:live h b=true):
  ∃r,φ b=some (.obj r)∧v=.map (some r):=by
 cases hv with
 |map _ r hφ=>exact⟨r,hφ,rfl⟩
 |mapDead _ _ hφ=>have:=R.dead b hφ;simp[live,this]at hl
omit R in
theorem yJy(t:TypeId)(x y:Value):Op.equal t x y=Op.equalIn (9999+1) t x y:=rfl
theorem vX8{d:TypeDesc}{t:TypeId}(hu:P.underlying t=some d){yn:Bool}{a b:CV}{r:Bool}(hc:yXi h d yn a b=some r){va vb:Value}
  (ha:VR φ St w a va) (hb:VR φ St w b vb) (hyn:yn=true→∃l c,vb=.slice none l c):(Op.equal t va vb).run P w=.ok r w:=by
 rw[yJy];generalize 9999=D;unfold yXi at hc;split at hc
 ·cases ha;cases hb;simp at hc;subst hc;simp[Op.equalIn,run_underlying hu]
 ·cases hb;split at hc
  ·rename_i hl;simp at hc;subst hc
   obtain⟨r,base,size,_,rfl⟩:=zKv R ha hl;simp[Op.equalIn,run_underlying hu]
  ·simp at hc
 ·cases ha;split at hc
  ·rename_i hl;simp at hc;subst hc
   obtain⟨r,base,size,_,rfl⟩:=zKv R hb hl;simp[Op.equalIn,run_underlying hu]
  ·simp at hc
 ·cases ha;cases hb;simp at hc;subst hc;simp[Op.equalIn,run_underlying hu]
 ·cases ha;cases hb;simp at hc;subst hc;simp[Op.equalIn,run_underlying hu]
 ·cases ha;cases hb;simp at hc;subst hc;simp[Op.equalIn,run_underlying hu]
 ·cases ha;cases hb;simp at hc;subst hc;simp[Op.equalIn,run_underlying hu]
 ·cases ha;cases hb;simp at hc;subst hc;simp[Op.equalIn,run_underlying hu]
 ·cases hb;split at hc
  ·rename_i hl;simp at hc;subst hc
   obtain⟨r,_,rfl⟩:=yXn R ha hl;simp[Op.equalIn,run_underlying hu]
  ·simp at hc
 ·split at hc
  ·rename_i hl;simp at hc;subst hc
   simp at hl;obtain⟨l,c,rfl⟩:=hyn hl.1;obtain⟨r,base,size,rcap,_,rfl,_⟩:=zQn R ha hl.2;simp[Op.equalIn,run_underlying hu]
  ·simp at hc
 ·split at hc
  ·rename_i hl;simp at hc;subst hc
   obtain⟨l,c,rfl⟩:=hyn hl;cases ha with
   |slice _ _ _ _ a cap vs hat=>
    rcases hat with hat|⟨a',rfl,_⟩
    ·simp at hat
    ·simp[Op.equalIn,run_underlying hu]
  ·simp at hc
 ·split at hc
  ·rename_i hl;simp at hc;subst hc
   simp only[Qc,decide_eq_true_eq,Wh]at hl;obtain⟨h1,⟨cs,h2⟩,h3⟩:=hl;obtain⟨l,c,rfl⟩:=hyn h1;obtain⟨rs,row,a,cap,_,_,rfl,hcap,_,_,h4⟩:=zW9 R ha h2;rcases h4 with h4|h4
   ·omega
   ·unfold GOk at h4
    split at h4
    ·obtain⟨rfl,_⟩:=h4
     simp[Op.equalIn,run_underlying hu]
    ·omega
  ·simp at hc
 ·simp at hc
omit R in
theorem zWu{op:BinOp}{t:TypeId}{x y:Operand}{va vb:Value}(h1:va= .nilIface→vb= .nilIface→(isConst x||isConst y)=true)
  (h2:∀c d,va=.agg c→vb=.agg d→P.eqGuardType P.depth t=false):(eqGuard op t x y va vb).run P w=.ok () w:=by
 have key:∀(hop:op=.eql∨op=.neq),(eqGuard op t x y va vb).run P w=.ok () w:=by
  intro hop;rcases hop with rfl|rfl
  all_goals
   unfold eqGuard;simp only[Bool.not_true,Jv,if_false];cases va<;>(try rfl)
   ·cases vb<;>(try rfl)
    have:=h1 rfl rfl;cases x<;>cases y<;>first|rfl|(simp[isConst]at this)
   ·cases vb<;>(try rfl)
    have:=h2 _ _ rfl rfl;simp[this]
 cases op<;>first|rfl|exact key (.inl rfl)|exact key (.inr rfl)
def zJo:Value→Bool
 | .bool _| .agg _| .nilIface| .iface _ _| .pointer _| .func _ _ _| .nilFunc| .map _| .slice _ _ _=>true
 |_=>false
omit R in
theorem wWj(t:TypeId){va vb:Value}(h:zJo va=true):binOp .eql t va vb=(do pure (.bool (←Op.equal t va vb))):=by
 cases va<;>simp[zJo]at h<;>cases vb<;>rfl
omit R in
theorem vZq(t:TypeId){va vb:Value}(h:zJo va=true):binOp .neq t va vb=(do pure (.bool (!(←Op.equal t va vb)))):=by
 cases va<;>simp[zJo]at h<;>cases vb<;>rfl
theorem wWc{d:TypeDesc}{yn:Bool}{a b:CV}{r:Bool}(hc:yXi h d yn a b=some r){va vb:Value}
    (ha:VR φ St w a va) (hb:VR φ St w b vb):(∀c,va≠.agg c)∧va≠.nilIface∧zJo va=true:=by
  unfold yXi at hc;split at hc
  all_goals first
    |(cases ha;simp[zJo];done)
    | (split at hc
       ·rename_i hl;obtain⟨r,base,size,_,rfl⟩:=zKv R ha hl;simp[zJo]
       ·simp at hc)
    | (split at hc
       ·rename_i hl;obtain⟨r,_,rfl⟩:=yXn R ha hl;simp[zJo]
       ·simp at hc)
    | (split at hc
       ·rename_i hl;simp at hl;obtain⟨r,base,size,rcap,_,rfl,_⟩:=zQn R ha hl.2;simp[zJo]
       ·simp at hc)
    | (split at hc
       · rename_i hl
         simp only[Qc,decide_eq_true_eq,Wh]at hl;obtain⟨cs,h2⟩:=hl.2.1;obtain⟨rs,row,a,cap,_,_,rfl,_⟩:=zW9 R ha h2;simp[zJo]
       ·simp at hc)
    |(simp at hc;done)
include hty
theorem vYx{t:TypeId}{x y:Operand}{a b:CV}{r:Bool}(hc:eqC ty h t (isConst x||isConst y) (zZq y) a b=some r){va vb:Value}
  (ha:VR φ St w a va) (hb:VR φ St w b vb) (hyn:zZq y=true→∃l c,vb=.slice none l c) (op:BinOp):
  (eqGuard op t x y va vb).run P w=.ok () w∧(Op.equal t va vb).run P w=.ok r w∧zJo va=true:=by
 unfold eqC at hc;split at hc
 ·simp at hc
 ·rename_i i hi
  have f:=hty t i hi;have go:∀a b va vb,VR φ St w a va→VR φ St w b vb→eqV ty 40 t a b=some r→(Op.equal t va vb).run P w=.ok r w:=by
   intro a b va vb ha hb hc;rw[yJy];exact eqV_ok hty 40 t a b r va vb hc ha hb _ (by omega)
  split at hc
  ·split at hc
   ·simp at hc
   ·rename_i hg
    refine⟨zWu (fun e=>?_) (fun _ _ _ _=>by rw[f.eqg];simpa using hg),go _ _ _ _ ha hb hc,by cases ha;rfl⟩
    subst e;cases ha
  ·split at hc
   ·rename_i hg
    refine⟨zWu (fun _ _=>hg) (fun c d e _=>?_),go _ _ _ _ ha hb hc,by cases ha;rfl⟩
    subst e;cases ha
   ·simp at hc
  ·refine⟨zWu (fun e=>?_) (fun c d e _=>?_),go _ _ _ _ ha hb hc,by cases ha;rfl⟩<;>(subst e;cases ha)
  ·refine⟨zWu (fun e=>?_) (fun c d e _=>?_),go _ _ _ _ ha hb hc,by cases ha;rfl⟩<;>(subst e;cases ha)
  ·refine⟨zWu (fun e=>?_) (fun c d e _=>?_),go _ _ _ _ ha hb hc,by cases ha;rfl⟩<;>(subst e;cases ha)
  ·refine⟨zWu (fun _ e=> ?_) (fun c d e _=> ?_),go _ _ _ _ ha hb hc,by cases ha;rfl⟩
   ·subst e;cases hb
   ·subst e;cases ha
  ·have hs:=wWc R hc ha hb
   exact⟨zWu (fun e=>absurd e hs.2.1) (fun c d e _=>absurd e (hs.1 c)),vX8 R f.und hc ha hb hyn,hs.2.2⟩
theorem uXx{op:BinOp}{t:TypeId}{x y:Operand}{a b c:CV}(hc:binC ty h op t (isConst x||isConst y) (zZq y) a b=some c){va vb:Value}
  (ha:VR φ St w a va) (hb:VR φ St w b vb) (hyn:zZq y=true→∃l c,vb=.slice none l c):
  ∃v,((do eqGuard op t x y va vb;binOp op t va vb):Sem Value).run P w=.ok v w∧VR φ St w c v:=by
 unfold binC at hc;split at hc
 ·rename_i k x' k' y'
  cases ha;cases hb;simp only[Sem.run_bind,xQ0,Result.andThen_ok];split at hc
  ·obtain⟨v,h1,h2⟩:=xZf (P:=P) (w:=w) _ _ k' _ _ t hc
   exact⟨v,h1,h2 _ _⟩
  ·obtain⟨v,h1,h2⟩:=xZf (P:=P) (w:=w) _ _ k' _ _ t hc
   exact⟨v,h1,h2 _ _⟩
  ·split at hc
   ·rename_i hk;subst hk
    obtain⟨v,h1,h2⟩:=vKn (P:=P) (w:=w) _ _ _ _ t hc;exact⟨v,h1,h2 _ _⟩
   ·simp at hc
 ·cases ha with|str _ ta h1=>cases hb with|str _ tb h2=>
  subst h1;subst h2;obtain⟨v,h1,h2⟩:=vKm (P:=P) (w:=w) _ _ _ t hc;exact⟨v,by simp only[Sem.run_bind,xQz,Result.andThen_ok];exact h1,h2 _ _⟩
 ·rename_i n1 n2
  split at hc
  ·cases hr:eqC ty h t (isConst x||isConst y) (zZq y) a b with
   |none=>simp[hr]at hc
   |some r=>
    simp[hr]at hc;subst hc;obtain⟨g1,g2,g3⟩:=vYx hty R hr ha hb hyn .eql;refine⟨.bool r, ?_, .bool r⟩;simp only[Sem.run_bind,g1,Result.andThen_ok,wWj t g3,g2,Sem.run_pure]
  ·cases hr:eqC ty h t (isConst x||isConst y) (zZq y) a b with
   |none=>simp[hr]at hc
   |some r=>
    simp[hr]at hc;subst hc;obtain⟨g1,g2,g3⟩:=vYx hty R hr ha hb hyn .neq;refine⟨.bool !r, ?_, .bool !r⟩;simp only[Sem.run_bind,g1,Result.andThen_ok,vZq t g3,g2,Sem.run_pure]
  ·simp at hc
end
end Go.Eng
/- Operations on memory. -/
namespace Go.Eng
set_option linter.unusedVariables false
def OpOk(P:Program)(N:Nat)(φ:Phi)(St:Stab)(h:Heap)(w:World)(s:Sem Value)(c:CV)(h':Heap):Prop:=
 ∃v w' φ' St',s.run P w=.ok v w'∧Rel N φ' St' h' w'∧VR φ' St' w' c v∧Frm h.length φ St w φ' St' w'
def zXo(ty:Ty)(h:Heap)(s:TypeId)(x:CV)(f:Nat):Option CV:=
 match ty s with
 | some i=>match i.desc with
  | .struct fs=>match fs[f]? with
   | some fld=>match ty fld.type with
    | some j=>if j.size=0 then none else
     match x with
     | .ptr b off=>if live h b then some (.ptr b (off+fld.offset))else none
     | .gptr b k off gen=>match rowG h b k gen with
      |some _=>some (.gptr b k (off+fld.offset) gen)
      |none=>none
     | .rop c=>(zZ8 j c.flat fld.offset).map .rop
     |_=>none
    |none=>none
   |none=>none
  |_=>none
 |none=>none
def zXg(ty:Ty)(h:Heap)(t:TypeId)(x ix:CV):Option CV:=
 match ix with
 | .int _ n=>
  match ty t with
  | some i=>match i.desc with
   | .array len e=>match ty e with
    | some j=>if 0≤n∧n<len then
      match x with
      | .ptr b off=>if live h b then some (.ptr b (off+n.toNat*j.size))else none
      | .rop c=>(zZ8 j c.flat (n.toNat*j.size)).map .rop
      |_=>none
     else none
    |none=>none
   | .slice e=>match ty e with
    | some j=>if 0≤n then
      match x with
      | .slice esz xs _ _=>if esz=j.size then(xs[n.toNat]?).map .rop else none
      | .sref esz b off len _ _=>if esz=j.size∧n<len∧live h b then some (.ptr b (off+n.toNat*j.size))else none
      | .gref esz b k off len gen=>match rowG h b k gen with
       |some _=>if esz=j.size∧n<len then some (.gptr b k (off+n.toNat*j.size) gen)else none
       |none=>none
      |_=>none
     else none
    |none=>none
   |_=>none
  |none=>none
 |_=>none
def yJs(ty:Ty)(h:Heap)(t:TypeId)(x:CV):Option CV:=
 match ty t with
 | some j=>
  match x with
  | .ptr b off=>match h[b]? with
   |some (.cells cs)=>zZ8 j cs off
   |_=>none
  | .gptr b k off gen=>match rowG h b k gen with
   |some cs=>zZ8 j cs off
   |none=>none
  | .rop c=>match c with
   | .agg cs=>if j.agg∧cs.length=j.size then some (.agg cs)else none
   |c=>if !j.agg∧c.one then some c else none
  |_=>none
 |none=>none
def tkC:CV→CV
 | .slice e xs (some _) _=>.slice e xs none false
 |c=>c
def zJd(ty:Ty)(h:Heap)(t:TypeId)(x v:CV):Option Heap:=
 match ty t,x with
 | some j, .ptr b off=>match h[b]? with
  |some (.cells cs)=>
   if v.flat.length=j.size∧off+j.size≤cs.length∧v.flat.all CV.one then some (h.set b (.cells (zQd cs off v.flat)))else none
  |_=>none
 | some j, .gptr b k off gen=>match rowG h b k gen with
  |some cs=>if(v.flat.map tkC).length=j.size∧off+j.size≤cs.length∧(v.flat.map tkC).all CV.one then(match h[b]? with
   |some (.rows css)=>some (h.set b (.rows (css.set k (zQd cs off (v.flat.map tkC)))))
   |_=>none)else none
  |none=>none
 |_,_=>none
section
variable {P:Program} {N:Nat} {φ:Phi} {St:Stab} {h:Heap} {w:World}
theorem VR.tk{c:CV}{v:Value}(hv:VR φ St w c v):VR φ St w (tkC c) v:=by
 unfold tkC;split
 ·cases hv with
  |slice _ _ _ _ a cap vs hat hvs hsz hcap hfull htok=>exact .slice _ _ none false a cap vs hat hvs hsz hcap (by simp) trivial
 ·exact hv
theorem VRL.tk{cs:List CV}{vs:List Value}(hv:VRL φ St w cs vs):VRL φ St w (cs.map tkC) vs:=by
 induction cs generalizing vs with
 |nil=>cases hv;exact .nil
 |cons c cs ih=>cases hv with|cons _ v _ vs h1 hs=>exact .cons _ _ _ _ h1.tk (ih hs)
theorem rd{s:Sem Value}{c:CV}{v:Value}(hr:s.run P w=.ok v w)(hv:VR φ St w c v):∃r,s.run P w=.ok r w∧VR φ St w c r:=⟨v,hr,hv⟩
theorem OpOk.pure(R:Rel N φ St h w){s:Sem Value}{c:CV}{v:Value}(hr:s.run P w=.ok v w)(hv:VR φ St w c v):OpOk P N φ St h w s c h:=
 ⟨v,w,φ,St,hr,R,hv,Frm.refl _ _ _ _⟩
theorem yXy{i:TI}(h1:i.agg=false→i.size=1){cs:List CV}{off:Nat}{c:CV}(hc:zZ8 i cs off=some c):
  c.flat=(cs.drop off).take i.size∧off+i.size≤cs.length:=by
 unfold zZ8 at hc;split at hc
 ·split at hc
  ·simp at hc;subst hc;exact⟨rfl,by assumption⟩
  ·simp at hc
 ·rename_i ha
  have hs:=h1 (by simpa using ha)
  split at hc
  ·rename_i x hx
   split at hc
   ·simp at hc;subst hc
    have hlt:=(List.getElem?_eq_some_iff.1 hx).1;refine⟨?_,by omega⟩
    have:x.flat=[x]:=by cases x<;>first|rfl|(rename_i h1;simp[CV.one]at h1)
    rw[this,hs,List.take_one,List.head?_drop,hx];rfl
   ·simp at hc
  ·simp at hc
theorem CV.yKx{c:CV}(h:c.one=true):c.flat=[c]:=by cases c<;>first|rfl|(simp[CV.one]at h)
theorem At.sub{a:Addr}{vs:List Value}(h:At St w a vs)(off n:Nat):At St w (a.add off) ((vs.drop off).take n):=by
 rw[wZt a h.1];refine⟨rfl,fun j v hv=>?_⟩
 have hj:j<n:=by have:=(List.getElem?_eq_some_iff.1 hv).1;simp at this;omega
 rw[Jh hj,Jr]at hv;have:=h.2 (off+j) v hv;simpa[Jp]using this
theorem At.cell{a:Addr}{vs:List Value}(h:At St w a vs)(j:Nat)(v:Value)(hv:vs[j]?=some v):w.cell? (a.add j)=some v:=by
 rw[wZt a h.1];exact(h.2 j v hv).2
theorem VRL.single{c:CV}{vs:List Value}(h:VRL φ St w [c] vs):∃v,vs=[v]∧VR φ St w c v:=by
 cases h with|cons _ v _ vs h hs=>cases hs;exact⟨v,rfl,h⟩
section
variable {ty:Ty} (hty:ty.Ok P) (R:Rel N φ St h w)
include hty
theorem zYp{t:TypeId}{j:TI}(hj:ty t=some j){a:Addr}{vs:List Value}(hl:vs.length=j.size)(hc:∀(k:Nat) (v:Value),vs[k]? =some v→w.cell? (a.add k)=some v):
  (j.agg=true→(loadVar t a).run P w=.ok (.agg vs.toArray) w)∧(∀v,j.agg=false→vs=[v]→(loadVar t a).run P w=.ok v w):=by
 constructor
 ·intro ha
  have:=zKl P w a vs hc;rw[hl]at this;simp[loadVar,yJf hty hj,ha,zQ0 hty hj,this]
 ·intro v ha hv
  subst hv;have h0:=hc 0 v rfl;rw[show a.add 0=a from by simp[Addr.add]]at h0
  simp[loadVar,yJf hty hj,ha,h0]
include R
theorem xJy{s:TypeId}{x:CV}{f:Nat}{c:CV}(hc:zXo ty h s x f=some c){v:Value}(hx:VR φ St w x v):
  ∃r,(Instr.fieldAt s v f).run P w=.ok r w∧VR φ St w c r:=by
 unfold zXo at hc;split at hc<;>(try (simp at hc;done))
 rename_i i hi;split at hc<;>(try (simp at hc;done))
 rename_i fs hd;split at hc<;>(try (simp at hc;done))
 rename_i fld hf;split at hc<;>(try (simp at hc;done))
 rename_i j hj;split at hc<;>(try (simp at hc;done))
 rename_i hsz;have hu:=zWv hty hi w;rw[hd]at hu;split at hc<;>(try (simp at hc;done))
 ·split at hc<;>(try (simp at hc;done))
  rename_i hl;simp at hc;subst hc;obtain⟨r,base,size,hφ,rfl⟩:=zKv R hx hl;refine rd (v:=.pointer (some ⟨r,base+(_+fld.offset),none⟩)) ?_ (.ptr _ _ _ _ _ hφ);simp[Instr.fieldAt,hu,hf,Instr.sureAddr,fieldPlace,zQ0 hty hj,hsz,zKw,Jp]
 ·rename_i b k off gen
  split at hc<;>(try (simp at hc;done))
  rename_i cs hl;simp at hc;subst hc;obtain⟨rs,row,r,base,lim,hφ,hr,hb,rfl,ho,hu'⟩:=yX9 R hx hl;refine rd (v:=.pointer (some ⟨r,base+(off+fld.offset),none⟩)) ?_ (.gptr _ _ _ _ rs _ hφ (List.getElem?_eq_some_iff.1 hr).1 fun row' hr'=>?_)
  ·simp[Instr.fieldAt,hu,hf,Instr.sureAddr,fieldPlace,zQ0 hty hj,hsz,zKw,Jp]
  ·rw[hr]at hr';simp at hr';subst hr'
   exact⟨by omega,fun _=>⟨r,base,lim,hb,rfl⟩⟩
 ·rename_i c0
  cases hp:zZ8 j c0.flat fld.offset with
  |none=>simp[hp]at hc
  | some cp=>
   simp[hp]at hc;subst hc;cases hx with
   |rop _ a vs hat hvs=>
    obtain⟨hfl,hle⟩:=yXy (hty _ _ hj).one hp;refine rd (v:=.pointer (some (a.add fld.offset))) ?_ (.rop cp _ ((vs.drop fld.offset).take j.size) (hat.sub _ _) (by rw[hfl];exact(hvs.drop _).take _))
    simp[Instr.fieldAt,hu,hf,Instr.sureAddr,fieldPlace,zQ0 hty hj,hsz]
theorem xJq{t:TypeId}{x ix c:CV}(hc:zXg ty h t x ix=some c){v vi:Value}(hx:VR φ St w x v)(hi:VR φ St w ix vi):
  ∃r,(Instr.indexAt t v vi).run P w=.ok r w∧VR φ St w c r:=by
 unfold zXg at hc;split at hc<;>(try (simp at hc;done))
 rename_i k n;cases hi;split at hc<;>(try (simp at hc;done))
 rename_i i hti;have hu:=zWv hty hti w;split at hc<;>(try (simp at hc;done))
 ·rename_i len e hd
  rw[hd]at hu;split at hc<;>(try (simp at hc;done))
  rename_i j hj;split at hc<;>(try (simp at hc;done))
  rename_i hn;split at hc<;>(try (simp at hc;done))
  ·split at hc<;>(try (simp at hc;done))
   rename_i hl;simp at hc;subst hc;obtain⟨r,base,size,hφ,rfl⟩:=zKv R hx hl;refine rd (v:=.pointer (some ⟨r,base+(_+n.toNat*j.size),none⟩)) ?_ (.ptr _ _ _ _ _ hφ)
   simp[Instr.indexAt,asIntOf,hu,Instr.sureAddr,hn,zQ0 hty hj,zKw,Jp]
  ·rename_i c0
   cases hp:zZ8 j c0.flat (n.toNat*j.size)with
   |none=>simp[hp]at hc
   | some cp=>
    simp[hp]at hc;subst hc;cases hx with
    |rop _ a vs hat hvs=>
     obtain⟨hfl,hle⟩:=yXy (hty _ _ hj).one hp;refine rd (v:=.pointer (some (a.add (n.toNat*j.size)))) ?_ (.rop cp _ ((vs.drop (n.toNat*j.size)).take j.size) (hat.sub _ _) (by rw[hfl];exact(hvs.drop _).take _))
     simp[Instr.indexAt,asIntOf,hu,Instr.sureAddr,hn,zQ0 hty hj]
 ·rename_i e hd
  rw[hd]at hu;split at hc<;>(try (simp at hc;done))
  rename_i j hj;split at hc<;>(try (simp at hc;done))
  rename_i hn;split at hc<;>(try (simp at hc;done))
  ·rename_i esz xs tok full
   split at hc<;>(try (simp at hc;done))
   rename_i hes;subst hes;cases hg:xs[n.toNat]? with
   |none=>simp[hg]at hc
   | some x0=>
    simp[hg]at hc;subst hc;have hlt:=(List.getElem?_eq_some_iff.1 hg).1;cases hx with
    | slice _ _ _ _ a cap vs hat hvs hsz hcap hfull htok=>
     rcases hat with hat|⟨a',rfl,hat⟩
     ·subst hat;simp at hlt
     ·have hfm:∀(ys:List CV) (m:Nat),(∀y∈ys,y.flat.length=j.size)→ys[m]?=some x0→((ys.flatMap CV.flat).drop (m*j.size)).take j.size=x0.flat:=by
       intro ys;induction ys with
       |nil=>intro m _ hm;simp at hm
       | cons y ys ih=>
        intro m hy hm;have hyl:=hy y (by simp)
        cases m with
        |zero=>simp at hm;subst hm;simp[←hyl]
        |succ m=>
         have:=ih m (fun z hz=>hy z (by simp[hz])) (by simpa using hm)
         rw[Qo,show(m+1)*j.size=y.flat.length+m*j.size by rw[hyl,Qz];omega,List.drop_append,Jx (by omega),K2,Ki]
         exact this
      refine rd (v:=.pointer (some (a'.add (n.toNat*j.size)))) ?_ (.rop x0 _ ((vs.drop (n.toNat*j.size)).take j.size) (hat.sub _ _) ?_)
      ·have:n<(xs.length:Int):=by omega
       simp[Instr.indexAt,asIntOf,hu,hn,zQ0 hty hj,this]
      ·rw[←hfm xs n.toNat hsz hg];exact(hvs.drop _).take _
  ·rename_i esz b off len cap ex
   split at hc<;>(try (simp at hc;done))
   rename_i hes;obtain⟨rfl,hlt,hl⟩:=hes;simp at hc;subst hc;obtain⟨r,base,size,rcap,hφ,rfl,_⟩:=zQn R hx hl;refine rd (v:=.pointer (some ⟨r,base+(off+n.toNat*j.size),none⟩)) ?_ (.ptr _ _ _ _ _ hφ)
   simp[Instr.indexAt,asIntOf,hu,hn,zQ0 hty hj,zKw,Jp,hlt]
  ·rename_i esz b k off len gen
   split at hc<;>(try (simp at hc;done))
   rename_i cs hl;split at hc<;>(try (simp at hc;done))
   rename_i hes;obtain⟨rfl,hlt⟩:=hes;simp at hc;subst hc;obtain⟨rs,row,a,cap,hφ,hr,rfl,hcap,ho,hu',hg⟩:=zW9 R hx hl;have hg:GOk row a j.size off cap:=by
    rcases hg with h0|h0
    ·omega
    ·exact h0
   unfold GOk at hg;split at hg
   ·rename_i r base lim hb
    obtain⟨rfl,hle⟩:=hg;refine rd (v:=.pointer (some ⟨r,base+(off+n.toNat*j.size),none⟩)) ?_ (.gptr _ _ _ _ rs _ hφ (List.getElem?_eq_some_iff.1 hr).1 fun row' hr'=>?_)
    ·simp[Instr.indexAt,asIntOf,hu,hn,zQ0 hty hj,zKw,Jp,hlt]
    ·rw[hr]at hr';simp at hr';subst hr'
     exact⟨by omega,fun _=>⟨r,base,lim,hb,rfl⟩⟩
   ·omega
theorem wK6{t:TypeId}{x c:CV}(hc:yJs ty h t x=some c){v:Value}(hx:VR φ St w x v):
  ∃r,(Instr.loadAt t v).run P w=.ok r w∧VR φ St w c r:=by
 unfold yJs at hc;split at hc<;>(try (simp at hc;done))
 rename_i j hj;split at hc<;>(try (simp at hc;done))
 ·rename_i b off
  split at hc<;>(try (simp at hc;done))
  rename_i cs hb;obtain⟨r,base,size,hφ,rfl⟩:=zKv R hx (by simp[live,hb])
  obtain⟨hfl,hle⟩:=yXy (hty _ _ hj).one hc;obtain⟨vs,hvs,hlen,hcell⟩:=R.cells hφ hb off j.size hle;have hrun:=zYp (w:=w) hty hj (a:=⟨r,base+off,none⟩) hlen (fun k v hv=>by rw[zKw];exact hcell k v hv)
  rw[←hfl]at hvs;cases ha:j.agg with
  | true=>
   have:c=.agg c.flat:=by
    unfold zZ8 at hc;simp[ha]at hc;obtain⟨_,hc⟩:=hc;subst hc;rfl
   rw[this];exact rd (by simpa[Instr.loadAt,Instr.sureAddr]using hrun.1 ha) (.agg _ _ hvs)
  | false=>
   have hone:c.one=true:=by
    unfold zZ8 at hc;simp[ha]at hc;split at hc
    ·split at hc
     ·simp at hc;subst hc;assumption
     ·simp at hc
    ·simp at hc
   rw[CV.yKx hone]at hvs;obtain⟨v,rfl,hv⟩:=hvs.single;exact rd (by simpa[Instr.loadAt,Instr.sureAddr]using hrun.2 v ha rfl) hv
 ·rename_i b k off gen
  split at hc<;>(try (simp at hc;done))
  rename_i cs hl;obtain⟨rs,row,r,base,lim,hφ,hr,hb,rfl,ho,hu'⟩:=yX9 R hx hl;obtain⟨hfl,hle⟩:=yXy (hty _ _ hj).one hc;obtain⟨vs,hvs,hlen,hcell⟩:=ho.cells hb off j.size hle
  have hrun:=zYp (w:=w) hty hj (a:=⟨r,base+off,none⟩) hlen (fun k v hv=>by rw[zKw];exact hcell k v hv)
  rw[←hfl]at hvs;cases ha:j.agg with
  | true=>
   have:c=.agg c.flat:=by
    unfold zZ8 at hc;simp[ha]at hc;obtain⟨_,hc⟩:=hc;subst hc;rfl
   rw[this];exact rd (by simpa[Instr.loadAt,Instr.sureAddr]using hrun.1 ha) (.agg _ _ hvs)
  | false=>
   have hone:c.one=true:=by
    unfold zZ8 at hc;simp[ha]at hc;split at hc
    ·split at hc
     ·simp at hc;subst hc;assumption
     ·simp at hc
    ·simp at hc
   rw[CV.yKx hone]at hvs;obtain⟨v,rfl,hv⟩:=hvs.single;exact rd (by simpa[Instr.loadAt,Instr.sureAddr]using hrun.2 v ha rfl) hv
 ·rename_i c0
  cases hx with
  | rop _ a vs hat hvs=>
   split at hc
   ·rename_i cs
    split at hc
    ·rename_i hcond
     obtain⟨ha,hl⟩:=hcond;simp at hc;subst hc;have hlen:vs.length=j.size:=by have:=hvs.length;simp[CV.flat]at this;omega
     have hrun:=zYp (w:=w) hty hj (a:=a) hlen (fun k v hv=>hat.cell k v hv)
     exact rd (by simpa[Instr.loadAt,Instr.sureAddr]using hrun.1 ha) (.agg _ _ hvs)
    ·simp at hc
   ·split at hc
    ·rename_i hcond
     simp at hcond;obtain⟨ha,hone⟩:=hcond;simp at hc;subst hc;rw[CV.yKx hone]at hvs;obtain⟨v,rfl,hv⟩:=hvs.single;have hrun:=zYp (w:=w) hty hj (a:=a) (vs:=[v]) (by simp[(hty _ _ hj).one ha]) (fun k v hv=>hat.cell k v hv)
     exact rd (by simpa[Instr.loadAt,Instr.sureAddr]using hrun.2 v ha rfl) hv
    ·simp at hc
theorem xYv{t:TypeId}{x c:CV}{h':Heap}(hc:zJd ty h t x c=some h'){v vc:Value}(hx:VR φ St w x v)(hv:VR φ St w c vc):
  ∃w',(Instr.storeAt t v vc).run P w=.ok () w'∧Rel N φ St h' w'∧Frm h.length φ St w φ St w':=by
 unfold zJd at hc;split at hc<;>(try (simp at hc;done))
 ·rename_i j b off hj
  split at hc<;>(try (simp at hc;done))
  rename_i cs hb;split at hc<;>(try (simp at hc;done))
  rename_i hcond;obtain⟨h1,h2,h3⟩:=hcond;simp at hc;subst hc;obtain⟨r,base,size,hφ,rfl⟩:=zKv R hx (by simp[live,hb])
  have hone:∀d∈c.flat,d.one=true:=by simpa using h3
  have hj1:c≠.junk:=by
   intro e;subst e;have:=hone .junk (by simp[CV.flat]);simp[CV.one]at this
  obtain⟨w',hrun,R',F⟩:=R.store P hφ hb off c.flat vc.cells.toList (hv.flat hj1) hone (by omega)
  refine⟨w', ?_,R',F⟩;have hl:=(hv.flat hj1).length;have hs:vc.cells.size=j.size:=by rw[←Jk];omega
  simp[Instr.storeAt,Instr.sureAddr,storeVar,zQ0 hty hj,hs,hrun]
 ·rename_i j b k off gen hj
  split at hc<;>(try (simp at hc;done))
  rename_i cs hl;split at hc<;>(try (simp at hc;done))
  rename_i hcond;obtain⟨h1,h2,h3⟩:=hcond;split at hc<;>(try (simp at hc;done))
  rename_i css hb;simp at hc;subst hc;obtain⟨rs,row,r,base,lim,hφ,hr,hbk,rfl,ho,hu'⟩:=yX9 R hx hl;obtain⟨css',hb',hk,_⟩:=zJf hl;rw[hb]at hb';simp at hb';subst hb'
  have hone:∀d∈c.flat.map tkC,d.one=true:=Qq.1 h3;have hj1:c≠.junk:=by
   intro e;subst e;have:=hone (tkC .junk) (by simp[CV.flat]);simp[CV.one,tkC]at this
  obtain⟨w',hrun,R',F⟩:=R.vQl P hφ hb hk hr hbk off (c.flat.map tkC) vc.cells.toList (hv.flat hj1).tk hone (by omega)
  refine⟨w', ?_,R',F⟩;have hl:=(hv.flat hj1).tk.length;have hs:vc.cells.size=j.size:=by rw[←Jk];omega
  simp[Instr.storeAt,Instr.sureAddr,storeVar,zQ0 hty hj,hs,hrun]
end
end
end Go.Eng
/- Operations that make memory. -/
namespace Go.Eng
set_option linter.unusedVariables false
section
variable {P:Program} {N:Nat} {φ:Phi} {St:Stab} {h:Heap} {w:World}
theorem vZt(R:Rel N φ St h w){cs:List CV}{arr:Array Value}{elem:TypeId}(hv:VRL φ St w cs (arr.toList.take cs.length))(hl:cs.length≤arr.size):
  Rel N (φ.push h.length (.own w.heap.size 0 arr.size)) St (h++[.cells cs]) (w.alloc (.cells arr elem))∧
  Frm h.length φ St w (φ.push h.length (.own w.heap.size 0 arr.size)) St (w.alloc (.cells arr elem)):=by
 refine R.push (.own w.heap.size 0 arr.size) (.cells cs) (.cells arr elem) (fun _=>Iff.rfl) ?_ (by simp) (by simp) (by simp)
 intro r base size he;simp at he;obtain⟨_,rfl,rfl⟩:=he;refine⟨cs,arr,(elem,(0,0)),rfl,rfl,⟨rfl,Unfz.zero _⟩,by omega,fun j c hc=>?_⟩
 obtain⟨v,h1,h2⟩:=hv.get j c hc;have hj:j<cs.length:=(List.getElem?_eq_some_iff.1 hc).1;rw[Jh hj,K3]at h1;exact⟨v,by simpa using h1,h2⟩
def yJ8(P:Program)(N:Nat)(φ:Phi)(St:Stab)(H:Heap)(w:World)(n:Nat)(s:Sem Value)(c:CV):Prop:=
 ∃v w' φ',s.run P w=.ok v w'∧Rel N φ' St H w'∧VR φ' St w' c v∧Frm n φ St w φ' St w'∧∀b,b≠n→φ' b=φ b
theorem yJ8.yW2(R:Rel N φ St h w){n:Nat}{s:Sem Value}{c:CV}{v:Value}(hr:s.run P w=.ok v w)(hv:VR φ St w c v):yJ8 P N φ St h w n s c:=
 ⟨v,w,φ,hr,R,hv,Frm.refl _ _ _ _,fun _ _=>rfl⟩
theorem Rel.wJg(R:Rel N φ St h w){n:Nat}(hn:φ n=none)(e:Ent)(o:HObj)(O:Obj)(hb0:∀r,e.has r↔w.heap.size=r)(ho:h[n]? =some o)
  (hown:∀r base size,e= .own r base size→∃(cs:List CV) (arr:Array Value) (elem:TypeId×Nat×Nat),o= .cells cs∧O= .cells arr elem.1 elem.2∧(arr.size=size∧Unfz elem.2 size)∧base+cs.length≤size∧
   ∀(j:Nat) (c:CV),cs[j]?=some c→∃v,arr[base+j]?=some v∧VR φ St w c v)
  (htail:∀r used u size,e≠.tail r used u size) (hobj:∀r,e=.obj r→ObjRel φ St w o O) (hdead:e≠.dead) (hrows:∀rs,e≠.rows rs):
  Rel N (φ.put n e) St h (w.alloc O)∧Frm n φ St w (φ.put n e) St (w.alloc O):=by
 have m:Mono φ St w (φ.put n e) St (w.alloc O):=xZn hn R.stLt;have hb:e.has w.heap.size:=(hb0 _).2 rfl;have hlt:∀b e' r,φ b=some e'→e'.has r→r<w.heap.size:=fun b e' r hb he=>(R.lt hb he).2
 refine⟨R.change n e o St h (w.alloc O) m (by simp) ho (Qe _) (fun _ _ _ _=>rfl) (fun b' e' r hne hb' he=>zX1 w O r (hlt b' e' r hb' he)) (fun r j hs=>by have:=R.stLt r j hs;simp;omega)
  (fun _ _ hs=>.inl hs) (fun r he b' e' hne hb' he'=>by rw[hb0]at he;subst he;have:=hlt b' e' _ hb' he';omega) ?_, ?_⟩
 ·cases e with
  |own r base size=>
   simp[Ent.has]at hb;subst hb;obtain⟨cs,arr,elem,h1,h2,h3,h4,h5⟩:=hown _ base size rfl;exact⟨R.start,cs,arr,elem,h1,by rw[zYt,h2],h3,h4,fun j c hc=>let⟨v,a,b⟩:=h5 j c hc;⟨v,a,b.mono m⟩,fun j hs=>by have:=R.stLt _ j hs;omega⟩
  |tail r used u size=>exact absurd rfl (htail r used u size)
  |obj r=>
   simp[Ent.has]at hb;subst hb;exact⟨R.start,O,zYt _ _,(hobj _ rfl).mono m⟩
  |void=>simp[Ent.has]at hb
  |dead=>exact absurd rfl hdead
  |rows rs=>exact absurd rfl (hrows rs)
 ·refine{toMono:=m,size:=by simp,stNew:=fun _ _ hs=> .inl hs,blkNew:= ?_,keepBlk:=fun r hr _=>zX1 w O r hr,idNew:= ?_,os:=rfl,output:=rfl,tape:=rfl}
  ·intro b e' r hb' he'
   by_cases hbn:b=n
   ·subst hbn;rw[zQg]at hb';simp at hb';subst hb';rw[hb0]at he';exact .inr (by omega)
   ·rw[zQc _ _ _ _ hbn]at hb';exact .inl ⟨b,e',hb',he'⟩
  ·intro b hbn hb'
   rw[zQc _ _ _ _ (by omega)];exact hb'
theorem xYg(R:Rel N φ St h w){n:Nat}(hn:φ n=none){cs:List CV}{arr:Array Value}{elem:TypeId}(hh:h[n]? =some (.cells cs))(hv:VRL φ St w cs (arr.toList.take cs.length))(hl:cs.length≤arr.size):
  Rel N (φ.put n (.own w.heap.size 0 arr.size)) St h (w.alloc (.cells arr elem))∧Frm n φ St w (φ.put n (.own w.heap.size 0 arr.size)) St (w.alloc (.cells arr elem)):=by
 refine R.wJg hn (.own w.heap.size 0 arr.size) (.cells cs) (.cells arr elem) (fun _=>Iff.rfl) hh ?_ (by simp) (by simp) (by simp) (by simp)
 intro r base size he;simp at he;obtain⟨_,rfl,rfl⟩:=he;refine⟨cs,arr,(elem,(0,0)),rfl,rfl,⟨rfl,Unfz.zero _⟩,by omega,fun j c hc=>?_⟩
 obtain⟨v,h1,h2⟩:=hv.get j c hc;have hj:j<cs.length:=(List.getElem?_eq_some_iff.1 hc).1;rw[Jh hj,K3]at h1;exact⟨v,by simpa using h1,h2⟩
theorem uQ8(φ:Phi)(n:Nat)(e:Ent):(φ.push n e) n=some e:=by simp[Phi.push]
theorem wQo(R:Rel N φ St h w){n:Nat}(hn:φ n=none)(t:TypeId){cs:List CV}{v:Value}(hv:VRL φ St w cs v.cells.toList){s:Sem Value}
  (hs:∀w,s.run P w=(do pure (.pointer (some (←newVar t v))):Sem Value).run P w) (hh:h[n]?=some (.cells cs)):yJ8 P N φ St h w n s (.ptr n 0):=by
 have hl:=hv.length;obtain⟨R',F⟩:=xYg (elem:=t) R hn hh (arr:=v.cells) (by rw[hl,Jj];exact hv) (by simp at hl;omega)
 refine⟨.pointer (some ⟨w.heap.size,0,none⟩),_,_,by rw[hs];simp[newVar,newRow],R', ?_,F,fun b hb=>zQc _ _ _ _ hb⟩
 exact .ptr n 0 _ 0 _ (zQg _ _ _)
section
variable {ty:Ty} (hty:ty.Ok P) (R:Rel N φ St h w)
include hty R
theorem vZx{t:TypeId}{j:TI}(hj:ty t=some j){n:Nat}(hn:φ n=none)(hh:h[n]?=some (.cells j.zero)):yJ8 P N φ St h w n (Instr.alloc t true (.tuple #[])) (.ptr n 0):=by
 obtain⟨z,hz,hzc,hzl,_⟩:=zJe hty hj w;have hz':∀w,(zeroValue t).run P w=.ok z w:=by
  intro w';obtain⟨z',h1,h2,_⟩:=zJe hty hj w';obtain⟨inf,z0,h3,_,_,h4,_⟩:=(hty t j hj).info;simp[zeroValue,typeInfo,h3,h4]at hz⊢;exact hz
 refine wQo R hn t (v:=z) (zZ9 hzc) (fun w=>?_) hh
 simp[Instr.alloc,hz']
omit hty in
theorem uXu{t:TypeId}{c:CV}{v:Value}(hv:VR φ St w c v)(hj:c≠.junk){n:Nat}(hn:φ n=none)(hh:h[n]?=some (.cells c.flat)):yJ8 P N φ St h w n (Instr.box t v) (.ptr n 0):=
 wQo R hn t (hv.flat hj) (fun w=>by simp[Instr.box]) hh
end
def yKy(place:Nat→Option (Nat×Nat))(cells:List CV):List (Nat×CV)→Option (List CV)
 |[]=>some cells
 | (i,v)::rest=>
  match place i with
  |none=>none
  |some (off,size)=>
   if v.flat.length=size∧off+size≤cells.length∧v.flat.all CV.one then yKy place (zQd cells off v.flat) rest else none
theorem wQ7{α:Type}:∀(l:List α) (off k:Nat) (cs:List α),off+k+l.length≤cs.length→
  (l.zipIdx k).foldl (fun cs p=>cs.set (off+p.2) p.1) cs=zQd cs (off+k) l
 |[],off,k,cs,hl=>by simp[zQd]
 | a::l,off,k,cs,hl=>by
  simp only[List.zipIdx_cons,List.foldl_cons];simp at hl;rw[wQ7 l off (k+1) _ (by simp;omega)]
  apply Jy;intro i;rw[zWl _ _ _ (by simp;omega),zWl _ _ _ (by simp;omega)]
  rw[Wt];by_cases c1:i<off+k
  ·rw[Qf (by omega),Qi (by omega),Qf c1]
  ·rw[Qi c1]
   by_cases c2:i=off+k
   ·subst c2
    rw[Qf (by omega),Qf rfl,Qf (by omega),Qf (by simp)];simp
   ·by_cases c3:i<off+k+(l.length+1)
    ·rw[Qi (by omega),Qf (by omega),Qf (by simpa using c3),show i-(off+k)=(i-(off+(k+1)))+1 by omega];simp
    ·rw[Qi (by omega),Qi (by omega),Qi (by omega),Qi (by simpa using c3)]
theorem vXr(cs:Array Value)(off:Nat)(us:Array Value)(h:off+us.size≤cs.size):
  (us.zipIdx.foldl (fun cs (c,j)=>cs.setIfInBounds (off+j) c) cs)=(zQd cs.toList off us.toList).toArray:=by
 have key:∀(l:List (Value×Nat)) (c:Array Value),(l.foldl (fun cs (c,j)=>cs.setIfInBounds (off+j) c) c).toList=l.foldl (fun cs p=>cs.set (off+p.2) p.1) c.toList:=by
  intro l;induction l with
  |nil=>intro c;rfl
  |cons p l ih=>intro c;simp only[List.foldl_cons];rw[ih];simp
 apply Array.toList_inj.1;rw[←Array.foldl_toList,key];simp only[Array.toList_zipIdx];have:=wQ7 us.toList off 0 cs.toList (by simpa using h)
 simpa using this
theorem xQc(place:Nat→Option (Nat×Nat)):∀(parts:List (Nat×CV)) (vals:List (Nat×Value)) (cs out:List CV) (arr:Array Value),
  parts.map (·.1)=vals.map (·.1)→VRL φ St w (parts.map (·.2)) (vals.map (·.2))→VRL φ St w cs arr.toList→yKy place cs parts=some out→
  ∃arr',Instr.fill place arr vals=some arr'∧VRL φ St w out arr'.toList
 |[],vals,cs,out,arr,hi,hv,hc,h=>by
  cases vals with
  |nil=>simp[yKy]at h;subst h;exact⟨arr,rfl,hc⟩
  |cons=>simp at hi
 |(i,c)::parts,[],cs,out,arr,hi,hv,hc,h=>by simp at hi
 | (i,c)::parts,(k,v)::vals,cs,out,arr,hi,hv,hc,h=>by
  simp at hi;obtain⟨rfl,hi⟩:=hi;simp only[Qg]at hv;cases hv with
  | cons _ _ _ _ h1 h2=>
   simp only[yKy]at h;split at h<;>(try (simp at h;done))
   rename_i off size hp;split at h<;>(try (simp at h;done))
   rename_i hcond;obtain⟨ha,hb,hone⟩:=hcond;have hj:c≠.junk:=by
    intro e;subst e;simp[CV.flat,CV.one]at hone
   have hfl:=h1.flat hj;have hlen:=hfl.length;have hcl:=hc.length;have hsz:v.cells.size=size:=by rw[←Jk];omega
   have hle:off+v.cells.size≤arr.size:=by rw[←Jk (xs:=arr)];omega
   simp only[Instr.fill,hp,hsz];rw[Qi (by simp;omega)]
   have hst:=vXr arr off v.cells hle;have:=xQc place parts vals (zQd cs off c.flat) out (zQd arr.toList off v.cells.toList).toArray hi h2 ?_ h
   ·obtain⟨arr',e1,e2⟩:=this
    refine⟨arr', ?_,e2⟩;rw[←e1];congr 1
   ·simp only[zQd]
    rw[hlen];exact((hc.take _).append hfl).append (hc.drop _)
def zYf(ty:Ty)(fs:Array Field)(k:Nat):Option (Nat×Nat):=
 match fs[k]? with
 |some f=>(ty f.type).map fun j=>(f.offset,j.size)
 |none=>none
def wWi(ty:Ty)(t:TypeId)(parts:List (Nat×CV)):Option CV:=
 match ty t with
 | some i=>match i.desc with
  | .struct fs=>
   if !(fs.toList.all fun f=>(ty f.type).isSome)then none else
   (yKy (zYf ty fs) i.zero parts).map .agg
  | .array _ e=>match ty e with
   |some j=>(yKy (fun k=>some (k*j.size,j.size)) i.zero parts).map .agg
   |none=>none
  |_=>none
 |none=>none
section
variable {ty:Ty} (hty:ty.Ok P) (R:Rel N φ St h w)
include hty
theorem wJ0:∀(fs:List Field),(∀f∈fs,(ty f.type).isSome=true)→
  ∃ps:List (Nat×Nat),(fs.mapM (fun f=>do pure (f.offset,←sizeOf f.type):Field→Sem (Nat×Nat))).run P w= .ok ps w∧ps.length=fs.length∧
   ∀(k:Nat) (f:Field) (j:TI),fs[k]?=some f→ty f.type=some j→ps[k]?=some (f.offset,j.size):=by
 intro fs;induction fs with
 |nil=>intro _;exact⟨[],rfl,rfl,by simp⟩
 | cons f fs ih=>
  intro hf;obtain⟨ps,h1,h2,h3⟩:=ih (fun g hg=>hf g (by simp[hg]))
  cases hj:ty f.type with
  |none=>have:=hf f (by simp);simp[hj]at this
  | some j=>
   refine⟨(f.offset,j.size)::ps, ?_,by simp[h2], ?_⟩
   ·simp only[K7,Sem.run_bind,zQ0 hty hj,Result.andThen_ok,Sem.run_pure,h1]
   ·intro k g j' hk hj'
    cases k with
    |zero=>simp at hk;subst hk;rw[hj]at hj';simp at hj';subst hj';rfl
    |succ k=>simpa using h3 k g j' (by simpa using hk) hj'
theorem vZm{t:TypeId}{parts:List (Nat×CV)}{vals:Array (Nat×Value)}{c:CV}(hi:parts.map (·.1)=vals.toList.map (·.1))
  (hv:VRL φ St w (parts.map (·.2)) (vals.toList.map (·.2))) (hc:wWi ty t parts=some c):∃v,(Instr.build t vals).run P w=.ok v w∧VR φ St w c v:=by
 unfold wWi at hc;split at hc<;>(try (simp at hc;done))
 rename_i i hti;have hu:=zWv hty hti w;obtain⟨z,hz,hzc,hzl,_⟩:=zJe hty hti w;split at hc<;>(try (simp at hc;done))
 ·rename_i fs hd
  rw[hd]at hu;split at hc<;>(try (simp at hc;done))
  rename_i hall;have hall:fs.toList.all (fun f=>(ty f.type).isSome)=true:=by revert hall;cases fs.toList.all (fun f=>(ty f.type).isSome)<;>simp
  have hall:∀f∈fs.toList,(ty f.type).isSome=true:=Qq.1 hall;obtain⟨ps,h1,h2,h3⟩:=wJ0 hty fs.toList hall (w:=w);have hplace:zYf ty fs=fun(k:Nat)=>ps.toArray[k]?:=by
   funext k
   unfold zYf;cases hk:fs[k]? with
   |none=>
    have:fs.size≤k:=by simpa using hk
    simp[show ps.length≤k by simpa[h2]using this]
   |some f=>
    have hk':fs.toList[k]?=some f:=by simpa using hk
    cases hj:ty f.type with
    |none=>have:=hall f (Ql hk');simp[hj]at this
    |some j=>simp[h3 k f j hk' hj,hj]
  generalize zYf ty fs=place at hc hplace;cases hf:yKy place i.zero parts with
  |none=>simp[hf]at hc
  | some out=>
   simp[hf]at hc;subst hc;obtain⟨arr',e1,e2⟩:=xQc place parts vals.toList i.zero out z.cells hi hv (zZ9 hzc) hf;refine⟨.agg arr', ?_,by simpa using VR.agg (φ:=φ) (St:=St) (w:=w) _ _ e2⟩
   have hmap:(fs.mapM (fun f=>do pure (f.offset,←sizeOf f.type):Field→Sem (Nat×Nat))).run P w=.ok ps.toArray w:=by
    rw[Array.mapM_eq_mapM_toList];simp only[Sem.run_map,h1,Result.andThen_ok]
   rw[hplace]at e1;simp only[Instr.build,Sem.run_bind,hz,Result.andThen_ok,Sem.run_pure,hu,hmap,e1]
 ·rename_i len e hd
  rw[hd]at hu;split at hc<;>(try (simp at hc;done))
  rename_i j hj;cases hf:yKy (fun k=>some (k*j.size,j.size)) i.zero parts with
  |none=>simp[hf]at hc
  |some out=>
   simp[hf]at hc;subst hc;obtain⟨arr',e1,e2⟩:=xQc _ parts vals.toList i.zero out z.cells hi hv (zZ9 hzc) hf;refine⟨.agg arr', ?_,by simpa using VR.agg (φ:=φ) (St:=St) (w:=w) _ _ e2⟩
   simp[Instr.build,hz,hu,zQ0 hty hj,e1]
end
def zWs(n:Nat)(z:List CV):List CV:=(List.replicate n z).flatten
theorem getElem?_flat_replicate{α:Type}(z:List α)(hz:z≠ []):∀(n i:Nat),(List.replicate n z).flatten[i]? =if i<n*z.length then z[i % z.length]? else none
 |0,i=>by simp
 | n+1,i=>by
  have hpos:0<z.length:=by cases z with|nil=>exact absurd rfl hz|cons=>simp
  rw[Kl,We,Kn,getElem?_flat_replicate z hz n];by_cases h1:i<z.length
  ·rw[Qf h1,Nat.mod_eq_of_lt h1,Qf (by rw[Qz];omega)]
  ·have e1:i % z.length=(i-z.length) % z.length:=Nat.mod_eq_sub_mod (by omega)
   have e2:(n+1)*z.length=n*z.length+z.length:=by rw[Qz];omega
   rw[Qi h1,e1,e2];by_cases h3:i-z.length<n*z.length
   ·rw[Qf h3,Qf (by omega)]
   ·rw[Qi h3,Qi (by omega)]
theorem xX2(z:Array Value)(n m:Nat)(h:m=n*z.size):((Array.range m).map (z[· % z.size]!)).toList=(List.replicate n z.toList).flatten:=by
 subst h;apply Jy;intro i;by_cases hz:z.toList=[]
 ·have:z.size=0:=by simpa using Kr List.length hz
  simp[hz,this]
 ·rw[getElem?_flat_replicate _ hz]
  simp only[Array.toList_map,Array.toList_range,Qt,Jk];have hpos:0<z.size:=by
   rcases Nat.eq_zero_or_pos z.size with e|e
   ·exact absurd (by simpa using e) hz
   ·exact e
  by_cases hi:i<n*z.size
  ·rw[Qf hi]
   simp[List.getElem?_range hi,Nat.mod_lt i hpos]
  ·rw[Qi hi];simp;omega
theorem VRL.zZ3{cs:List CV}{vs:List Value}(h:VRL φ St w cs vs):∀n,VRL φ St w (zWs n cs) (List.replicate n vs).flatten
 |0=>.nil
 |n+1=>by
  have:=VRL.zZ3 h n;unfold zWs at *;rw[Kl,Kl,We,We];exact h.append this
def zX3(ty:Ty)(n:Nat)(t:TypeId)(len:Nat)(parts:List (Nat×CV)):Option (CV×HObj):=
 match ty t with
 | some i=>match i.desc with
  | .slice e=>match ty e with
   | some j=>
    if len*j.size≤2^24 then
     match yKy (fun k=>some (k*j.size,j.size)) (zWs len j.zero) parts with
     |some cs=>some (.sref j.size n 0 len len true, .cells cs)
     |none=>none
    else none
   |none=>none
  |_=>none
 |none=>none
def zX7(ty:Ty)(n:Nat)(t:TypeId)(l c:CV):Option (CV×HObj):=
 match ty t,l,c with
 | some i, .int _ l, .int _ c=>match i.desc with
  | .slice e=>match ty e with
   | some j=>
    if 0≤l∧l≤c∧c<2^40∧j.bytes*c≤2^48 then
     some (.sref j.size n 0 l.toNat c.toNat true, .cells (zWs c.toNat j.zero))
    else none
   |none=>none
  |_=>none
 |_,_,_=>none
theorem yYn{place:Nat→Option (Nat×Nat)}:∀{parts:List (Nat×CV)} {cs out:List CV},yKy place cs parts=some out→out.length=cs.length
 |[],cs,out,h=>by simp[yKy]at h;subst h;rfl
 |(i,v)::parts,cs,out,h=>by
  simp only[yKy]at h;split at h<;>(try (simp at h;done))
  split at h<;>(try (simp at h;done))
  rename_i hc;rw[yYn h,zWa _ _ _ (by omega)]
section
variable {ty:Ty} (hty:ty.Ok P) (R:Rel N φ St h w)
include hty R
theorem xX1{t:TypeId}{len:Nat}{parts:List (Nat×CV)}{vals:Array (Nat×Value)}{c:CV}{o:HObj}{n:Nat}(hi:parts.map (·.1)=vals.toList.map (·.1))
  (hv:VRL φ St w (parts.map (·.2)) (vals.toList.map (·.2))) (hc:zX3 ty n t len parts=some (c,o)) (hn:φ n=none) (hh:h[n]?=some o):yJ8 P N φ St h w n (Instr.buildSlice t len vals) c:=by
 unfold zX3 at hc;split at hc<;>(try (simp at hc;done))
 rename_i i hti;have hu:=zWv hty hti w;split at hc<;>(try (simp at hc;done))
 rename_i e hd;rw[hd]at hu;split at hc<;>(try (simp at hc;done))
 rename_i j hj;split at hc<;>(try (simp at hc;done))
 rename_i hle;split at hc<;>(try (simp at hc;done))
 rename_i cs hf;simp at hc;obtain⟨rfl,rfl⟩:=hc;obtain⟨z,hz,hzc,hzl,_⟩:=zJe hty hj w;have hzs:z.cells.size=j.size:=by
  have:=(zZ9 (φ:=φ) (St:=St) (w:=w) hzc).length;rw[←Jk];omega
 let zeros:Array Value:=if len*j.size=0 then #[]else z.cells
 have hzeros:((Array.range (len*j.size)).map (zeros[· % zeros.size]!)).toList=(List.replicate len z.cells.toList).flatten:=by
  by_cases h0:len*j.size=0
  ·simp only[h0]
   rcases Nat.mul_eq_zero.1 h0 with h1|h1
   ·simp[h1]
   ·have:z.cells.toList=[]:=List.eq_nil_of_length_eq_zero (by rw[Jk];omega)
    simp[this]
  ·have:zeros=z.cells:=Qi h0
   rw[this];exact xX2 z.cells len _ (by rw[hzs])
 have hzrun:(if len*j.size=0 then pure #[]else(do pure (←zeroValue e).cells:Sem (Array Value))).run P w=.ok zeros w:=by
  by_cases h0:len*j.size=0
  ·simp[h0,zeros]
  ·simp[h0,zeros,hz]
 obtain⟨arr',e1,e2⟩:=xQc _ parts vals.toList _ cs ((Array.range (len*j.size)).map (zeros[· % zeros.size]!)) hi hv (by rw[hzeros];exact(zZ9 hzc).zZ3 len) hf
 have hcl:=e2.length;obtain⟨R',F⟩:=xYg (elem:=e) R hn hh (arr:=arr') (by rw[hcl,Jj];exact e2) (by simp at hcl;omega)
 refine⟨.slice (some ⟨w.heap.size,0,none⟩) len len,_,_, ?_,R', ?_,F,fun b hb=>zQc _ _ _ _ hb⟩
 ·simp only[Instr.buildSlice,Sem.run_bind,hu,Result.andThen_ok,zQ0 hty hj]
  rw[Qi (by omega)]
  by_cases h0:len*j.size=0
  ·have hz0:zeros= #[]:=Qf h0
   rw[hz0]at e1;rw[Qf h0];simp only[Sem.run_bind,Sem.run_pure,Result.andThen_ok,e1,newRow,run_newObj];rfl
  ·have hz0:zeros=z.cells:=Qi h0
   rw[hz0]at e1;rw[Qi h0];simp only[Sem.run_bind,Sem.run_pure,hz,Result.andThen_ok,e1,newRow,run_newObj];rfl
 ·refine .sref _ _ 0 len len true w.heap.size 0 arr'.size len (zQg _ _ _) (Qe _) (Qe _) (fun _=>rfl) ?_
  have:cs.length=len*j.size:=by
   rw[yYn hf];simp[zWs,hzl]
  have:arr'.size=cs.length:=by simp at hcl;omega
  omega
theorem xJf{t:TypeId}{l c:CV}{vl vc:Value}{r:CV}{o:HObj}{n:Nat}(hl:VR φ St w l vl)(hcv:VR φ St w c vc)(hc:zX7 ty n t l c=some (r,o))(hn:φ n=none)(hh:h[n]? =some o):
  yJ8 P N φ St h w n (Instr.makeSlice t vl vc) r:=by
 unfold zX7 at hc;split at hc<;>(try (simp at hc;done))
 rename_i i kl l kc c hti;cases hl;cases hcv;have hu:=hty _ _ hti|>.und;split at hc<;>(try (simp at hc;done))
 rename_i e hd;rw[hd]at hu;split at hc<;>(try (simp at hc;done))
 rename_i j hj;split at hc<;>(try (simp at hc;done))
 rename_i hcond;obtain⟨h0,hlc,hbig,hb⟩:=hcond;simp at hc;obtain⟨rfl,rfl⟩:=hc;obtain⟨inf,z,g1,g2,g3,g4,g5,g6,_⟩:=(hty e j hj).info;have hzs:z.cells.size=inf.size:=by
  have:=(zZ9 (φ:=φ) (St:=St) (w:=w) g5).length;rw[←Jk];omega
 have hrun:=run_make (P:=P) w t e inf z hu g1 g4 kl kc l c h0 hlc (by rw[g3];omega) (by omega)
 have hml:(madeCells z.cells (c.toNat*inf.size)).toList=(List.replicate c.toNat z.cells.toList).flatten:=xX2 z.cells c.toNat _ (by rw[hzs])
 have hv:VRL φ St w (zWs c.toNat j.zero) (madeCells z.cells (c.toNat*inf.size)).toList:=by rw[hml];exact(zZ9 g5).zZ3 _
 have hvl:=hv.length;obtain⟨R',F⟩:=xYg (elem:=e) R hn hh (arr:=madeCells z.cells (c.toNat*inf.size)) (by rw[hvl,Jj];exact hv) (by simp at hvl;omega)
 refine⟨_,_,_,hrun,R', ?_,F,fun b hb=>zQc _ _ _ _ hb⟩
 refine .sref _ _ 0 l.toNat c.toNat true w.heap.size 0 _ c.toNat (zQg _ _ _) (Qe _) (by omega) (fun _=>rfl) ?_
 rw[size_madeCells,g2];omega
end
end
end Go.Eng
/- Slices: parts of them, append, copy. -/
namespace Go.Eng
set_option linter.unusedVariables false
section
variable {P:Program} {N:Nat} {φ:Phi} {St:Stab} {h:Heap} {w:World}
def chunks(agg:Bool)(esz:Nat):Nat→List CV→List CV
 |0,_=>[]
 |n+1,cs=>(if agg then .agg (cs.take esz)else cs.headD .junk)::chunks agg esz n (cs.drop esz)
theorem zYi{agg:Bool}{esz:Nat}(h1:agg=false→esz=1):∀(n:Nat) (cs:List CV),n*esz≤cs.length→cs.all CV.one=true→
  (chunks agg esz n cs).flatMap CV.flat=cs.take (n*esz)∧∀x∈chunks agg esz n cs,x.flat.length=esz
 |0,cs,_,_=>by simp[chunks]
 | n+1,cs,hl,ho=>by
  have e1:(n+1)*esz=esz+n*esz:=by rw[Qz];omega
  obtain⟨g1,g2⟩:=zYi h1 n (cs.drop esz) (by simp;omega) (by
   rw[Qq]at ho⊢;exact fun x hx=>ho x (Kv hx))
  have hx:(if agg then CV.agg (cs.take esz)else cs.headD .junk).flat=cs.take esz:=by
   cases agg with
   |true=>rfl
   | false=>
    have:=h1 rfl;subst this;cases cs with
    |nil=>simp at hl
    |cons c cs=>
     have:c.one=true:=by rw[Qq]at ho;exact ho c (by simp)
     simp[CV.yKx this]
  refine⟨?_, ?_⟩
  ·simp only[chunks,Qo,hx,g1]
   rw[e1,List.take_add]
  ·intro x hx'
   simp only[chunks,Jm]at hx';rcases hx' with rfl|hx'
   ·rw[hx];simp;omega
   ·exact g2 x hx'
theorem zXr{agg:Bool}{esz:Nat}:∀(n:Nat) (cs:List CV),(chunks agg esz n cs).length=n
 |0,_=>rfl
 |n+1,cs=>by simp[chunks,zXr n]
def yXl(x:CV)(y:Nat):Option Nat:=
 match x with
 | .int _ n=>if 0≤n∧n≤y then some n.toNat else none
 |_=>none
def zXh(x:Option CV)(y d:Nat):Option Nat:=
 match x with
 |some x=>yXl x y
 |none=>some d
def zX4(lo hi mx:Option CV)(y d:Nat):Option (Nat×Nat×Nat):=
 match mx,hi with
 |some _,none=>none
 | _,_=>
  match zXh mx y y with
  |none=>none
  | some m=>match zXh hi m d with
   |none=>none
   |some h=>match zXh lo h 0 with
    |none=>none
    |some l=>some (l,h,m)
theorem yQo{x:CV}{y n:Nat}(hb:yXl x y=some n){v:Value}(hv:VR φ St w x v)(Y:Nat)(hY:y≤Y)(code:BoundsCode):
  (Instr.sliceBound v Y code).run P w=.ok n w∧n≤y:=by
 unfold yXl at hb;split at hb<;>(try (simp at hb;done))
 split at hb<;>(try (simp at hb;done))
 rename_i hc;simp at hb;subst hb;cases hv;refine⟨?_,by omega⟩
 simp only[Instr.sliceBound,asIntOf,Sem.run_bind,Sem.run_pure,Result.andThen_ok];rw[Qf (by omega)]
 rfl
inductive VRO (φ:Phi) (St:Stab) (w:World):Option CV→Option Value→Prop where
 |none:VRO φ St w none none
 |some (c:CV) (v:Value) (h:VR φ St w c v):VRO φ St w (some c) (some v)
theorem zJ3{lo hi mx:Option CV}{y d l hh m:Nat}(hb:zX4 lo hi mx y d=some (l,hh,m)){vlo vhi vmx:Option Value}
  (h1:VRO φ St w lo vlo) (h2:VRO φ St w hi vhi) (h3:VRO φ St w mx vmx) (isSlice:Bool) (Y:Nat) (hY:y≤Y) (hd:d≤y) (hmx:mx=none→vmx=none):
  (Instr.sliceBounds isSlice d Y vlo vhi vmx).run P w=.ok (l,hh,if mx.isSome then m else Y) w∧l≤hh∧hh≤m∧m≤y∧(mx=none→m=y):=by
 unfold zX4 at hb;cases h3 with
 | none=>
  simp only[zXh]at hb;cases h2 with
  | none=>
   simp only at hb;cases h1 with
   |none=>simp at hb;obtain⟨rfl,rfl,rfl⟩:=hb;simp[Instr.sliceBounds];omega
   | some c v hv=>
    simp only at hb;cases hx:yXl c d with
    |none=>simp[hx]at hb
    |some n=>
     simp[hx]at hb;obtain⟨rfl,rfl,rfl⟩:=hb;obtain⟨g1,g2⟩:=yQo (P:=P) hx hv d (Qe _) .sliceB;simp[Instr.sliceBounds,g1];omega
  | some c v hv=>
   simp only at hb;cases hx:yXl c y with
   |none=>simp[hx]at hb
   | some n=>
    simp only[hx]at hb;obtain⟨g1,g2⟩:=yQo (P:=P) hx hv Y hY (if isSlice then .sliceAcap else .sliceAlen)
    cases h1 with
    |none=>simp at hb;obtain⟨rfl,rfl,rfl⟩:=hb;simp[Instr.sliceBounds,g1];omega
    | some c' v' hv'=>
     simp only at hb;cases hx':yXl c' n with
     |none=>simp[hx']at hb
     |some n'=>
      simp[hx']at hb;obtain⟨rfl,rfl,rfl⟩:=hb;obtain⟨k1,k2⟩:=yQo (P:=P) hx' hv' n (Qe _) .sliceB;simp[Instr.sliceBounds,g1,k1];omega
 | some cm vm hm=>
  cases h2 with
  |none=>simp at hb
  | some c v hv=>
   simp only[zXh]at hb;cases hxm:yXl cm y with
   |none=>simp[hxm]at hb
   | some nm=>
    simp only[hxm]at hb;obtain⟨m1,m2⟩:=yQo (P:=P) hxm hm Y hY (if isSlice then .slice3Acap else .slice3Alen)
    cases hx:yXl c nm with
    |none=>simp[hx]at hb
    | some n=>
     simp only[hx]at hb;obtain⟨g1,g2⟩:=yQo (P:=P) hx hv nm (Qe _) .slice3B;cases h1 with
     |none=>simp at hb;obtain⟨rfl,rfl,rfl⟩:=hb;simp[Instr.sliceBounds,m1,g1];omega
     | some c' v' hv'=>
      simp only at hb;cases hx':yXl c' n with
      |none=>simp[hx']at hb
      |some n'=>
       simp[hx']at hb;obtain⟨rfl,rfl,rfl⟩:=hb;obtain⟨k1,k2⟩:=yQo (P:=P) hx' hv' n (Qe _) .slice3C;simp[Instr.sliceBounds,m1,g1,k1];omega
def zXq(ty:Ty)(h:Heap)(t:TypeId)(x:CV)(lo hi mx:Option CV):Option CV:=
 match ty t with
 |none=>none
 | some i=>
  match i.desc,x with
  | .string, .str s=>if mx.isSome then none else
   match zX4 lo hi none s.length s.length with
   |some (l,hh,_)=>some (.str ((s.take hh).drop l))
   |none=>none
  | .slice e, .slice esz xs tok full=>
   match ty e with
   |none=>none
   | some j=>if esz=j.size∨xs=[]then
     match zX4 lo hi mx xs.length xs.length with
     | some (l,hh,m)=>some (.slice j.size ((xs.take hh).drop l) (if mx.isNone∧l=0∧hh=xs.length∧esz=j.size then tok else none)
       (if mx.isSome then false else full&&hh==xs.length))
     |none=>none
    else none
  | .slice e, .sref esz b off len cap ex=>
   match ty e with
   |none=>none
   | some j=>if esz=j.size∧live h b then
     match zX4 lo hi mx cap len with
     |some (l,hh,m)=>
      if l<m then some (.sref esz b (off+l*esz) (hh-l) (m-l) (mx.isSome||ex))else some (.slice j.size [] none (mx.isSome||ex))
     |none=>none
    else none
  | .slice e, .gref esz b k off len gen=>
   match ty e with
   |none=>none
   | some j=>if esz=j.size∧(rowG h b k gen).isSome then
     match zX4 lo hi mx len len with
     |some (l,hh,m)=>if lo.isNone=true∧mx.isSome=true∧m=0 then some (.slice j.size [] none true)else some (.gref esz b k (off+l*esz) (hh-l) gen)
     |none=>none
    else none
  | .array n e, .ptr b off=>
   match ty e,h[b]? with
   | some j,some (.cells cs)=>
    if off+n*j.size≤cs.length then
     match zX4 lo hi mx n n with
     |some (l,hh,m)=>if l<m then some (.sref j.size b (off+l*j.size) (hh-l) (m-l) true)else some (.slice j.size [] none true)
     |none=>none
    else none
   |_,_=>none
  | .array n e, .rop (.agg cs)=>
   match ty e with
   | some j=>
    if n*j.size≤cs.length∧cs.all CV.one then
     match zX4 lo hi mx n n with
     |some (l,hh,m)=>some (.slice j.size (((chunks j.agg j.size n cs).take hh).drop l) none (hh==m))
     |none=>none
    else none
   |none=>none
  |_,_=>none
theorem wQ8{esz:Nat}:∀(xs:List CV) (l:Nat),(∀x∈xs,x.flat.length=esz)→(xs.drop l).flatMap CV.flat=(xs.flatMap CV.flat).drop (l*esz)
 |[],l,_=>by simp
 |x::xs,0,_=>by simp
 | x::xs,l+1,hx=>by
  have:=wQ8 xs l (fun y hy=>hx y (by simp[hy]))
  have h1:=hx x (by simp)
  rw[List.drop_succ_cons,this,Qo,show(l+1)*esz=x.flat.length+l*esz by rw[h1,Qz];omega,
   List.drop_append,Jx (as:=x.flat) (by omega),K2,Ki]
theorem yXd{esz:Nat}:∀(xs:List CV) (l:Nat),(∀x∈xs,x.flat.length=esz)→(xs.take l).flatMap CV.flat=(xs.flatMap CV.flat).take (l*esz)
 |[],l,_=>by simp
 |x::xs,0,_=>by simp
 | x::xs,l+1,hx=>by
  have:=yXd xs l (fun y hy=>hx y (by simp[hy]))
  have h1:=hx x (by simp)
  rw[List.take_succ_cons,Qo,this,Qo,show(l+1)*esz=x.flat.length+l*esz by rw[h1,Qz];omega,
   List.take_append,Q9 (l:=x.flat) (by omega),Ki]
theorem zX2{esz:Nat}:∀(xs:List CV),(∀x∈xs,x.flat.length=esz)→(xs.flatMap CV.flat).length=xs.length*esz
 |[],_=>by simp
 |x::xs,hx=>by
  rw[Qo,Q5,zX2 xs (fun y hy=>hx y (by simp[hy])),hx x (by simp),Jc,Qz];omega
theorem wK7{esz:Nat}{xs:List CV}{a:Option Addr}{vs:List Value}(hat:xs=[]∨∃a',a=some a'∧At St w a' vs)(hvs:VRL φ St w (xs.flatMap CV.flat) vs)
  (hsz:∀x∈xs,x.flat.length=esz) (l hh:Nat) (hl:l≤hh) (hhl:hh≤xs.length) (cap m:Nat) (hm:hh≤m) (tok:Option Nat) (full:Bool) (hf:full=true→m-l=hh-l)
  (htok:yY0 φ tok (if m=l then a else a.map (·.add (l*esz))) (hh-l) esz (m-l)):
  VR φ St w (.slice esz ((xs.take hh).drop l) tok full) (.slice (if m=l then a else a.map (·.add (l*esz))) (hh-l) (m-l)):=by
 have hlen:((xs.take hh).drop l).length=hh-l:=by simp;omega
 have hsz':∀x∈(xs.take hh).drop l,x.flat.length=esz:=fun x hx=>hsz x (Kk (Kv hx))
 have hfl:((xs.take hh).drop l).flatMap CV.flat=((xs.flatMap CV.flat).take (hh*esz)).drop (l*esz):=by
  rw[wQ8 _ _ (fun x hx=>hsz x (Kk hx)),yXd _ _ hsz]
 have:=VR.slice (φ:=φ) (St:=St) (w:=w) esz ((xs.take hh).drop l) tok full (if m=l then a else a.map (·.add (l*esz))) (m-l) ((vs.take (hh*esz)).drop (l*esz))
  ?_ (by rw[hfl];exact(hvs.take _).drop _) hsz' (by rw[hlen];omega) (by rw[hlen];exact hf) (by rw[hlen];exact htok)
 ·rwa [hlen]at this
 ·rcases hat with hat|⟨a',rfl,hat⟩
  ·subst hat;left;simp
  ·by_cases hml:m=l
   ·left;apply List.eq_nil_of_length_eq_zero;omega
   ·right
    refine⟨a'.add (l*esz),by simp[hml], ?_⟩
    rw[List.drop_take];exact hat.sub _ _
section
variable {ty:Ty} (hty:ty.Ok P) (R:Rel N φ St h w)
include hty R
theorem vQ9{t:TypeId}{x c:CV}{lo hi mx:Option CV}(hc:zXq ty h t x lo hi mx=some c){v:Value}{vlo vhi vmx:Option Value}(hx:VR φ St w x v)
  (h1:VRO φ St w lo vlo) (h2:VRO φ St w hi vhi) (h3:VRO φ St w mx vmx):∃r,(Instr.sliceAt t v vlo vhi vmx).run P w=.ok r w∧VR φ St w c r:=by
 have hmx:mx=none→vmx=none:=by intro e;subst e;cases h3;rfl
 have hms:mx.isSome=vmx.isSome:=by cases h3<;>rfl
 unfold zXq at hc;split at hc
 ·simp at hc
 rename_i i hi;have hu:=zWv hty hi w;split at hc
 ·-- a string
  rename_i s hd;rw[hd]at hu;split at hc<;>(try (simp at hc;done))
  rename_i hm;have hmn:mx=none:=by simpa using hm
  subst hmn;cases h3;split at hc<;>(try (simp at hc;done))
  rename_i l hh m hb;simp at hc;subst hc;cases hx with|str _ ts hs=>
  subst hs;obtain⟨g1,g2,g3,g4,g5⟩:=zJ3 (P:=P) hb h1 h2 .none false _ (Qe _) (Qe _) (fun _=>rfl)
  refine rd (v:=.string (ts.extract l hh)) ?_ (.str _ _ ?_)
  ·have hsz:ts.data.toList.length=ts.size:=Jk
   rw[hsz]at g1;simp[Instr.sliceAt,Instr.slice,hu,g1]
  ·simp[ByteArray.data_extract,List.extract_eq_take_drop,List.drop_take]
 ·-- a slice that is not written
  rename_i e esz xs tok full hd;rw[hd]at hu;split at hc<;>(try (simp at hc;done))
  rename_i j hj;split at hc<;>(try (simp at hc;done))
  rename_i hes;split at hc<;>(try (simp at hc;done))
  rename_i l hh m hb;simp only[Qa]at hc;subst hc;cases hx with|slice _ _ _ _ a cap vs hat hvs hsz hcap hfull htok=>
  obtain⟨g1,g2,g3,g4,g5⟩:=zJ3 (P:=P) hb h1 h2 h3 true cap hcap (Qe _) hmx;have hsz':∀x∈xs,x.flat.length=j.size:=by
   rcases hes with rfl|rfl
   ·exact hsz
   ·simp
  refine rd (v:=.slice (if(if mx.isSome then m else cap)=l then a else a.map (·.add (l*j.size))) (hh-l) ((if mx.isSome then m else cap)-l)) ?_ ?_
  ·simp[Instr.sliceAt,Instr.slice,hu,g1,zQ0 hty hj]
  ·refine wK7 hat hvs hsz' l hh g2 (by omega) cap _ ?_ _ _ ?_ ?_
   ·split<;>omega
   ·intro hf
    split at hf
    ·rename_i hm;simp at hf
    ·rename_i hm;simp at hf;simp[hm,hf.2,hfull hf.1]
   ·split
    ·rename_i ht
     obtain⟨ht1,rfl,ht2,rfl⟩:=ht;have:mx=none:=by simpa using ht1
     subst this;simp only[Wk,Jv,if_false,Nat.zero_mul,Nat.sub_zero];have e:(if cap=0 then a else a.map (·.add 0))=a:=by
      split
      ·rfl
      ·cases a<;>simp[Addr.add]
     rw[e,ht2];exact htok
    ·trivial
 ·-- a slice of own cells
  rename_i e esz b off len cap ex hd;rw[hd]at hu;split at hc<;>(try (simp at hc;done))
  rename_i j hj;split at hc<;>(try (simp at hc;done))
  rename_i hes;obtain⟨rfl,hlive⟩:=hes;split at hc<;>(try (simp at hc;done))
  rename_i l hh m hb;obtain⟨r,base,size,rcap,hφ,rfl,k1,k2,k3,k4⟩:=zQn R hx hlive;obtain⟨g1,g2,g3,g4,g5⟩:=zJ3 (P:=P) hb h1 h2 h3 true rcap k1 k2 hmx;have hrun:(Instr.sliceAt t (.slice (some ⟨r,base+off,none⟩) len rcap) vlo vhi vmx).run P w=
    .ok (.slice (if(if mx.isSome then m else rcap)=l then some ⟨r,base+off,none⟩else some ⟨r,base+(off+l*j.size),none⟩) (hh-l) ((if mx.isSome then m else rcap)-l)) w:=by
   simp[Instr.sliceAt,Instr.slice,hu,g1,zQ0 hty hj,zKw,Jp]
  split at hc
  ·rename_i hlm
   simp at hc;subst hc;refine rd hrun ?_;have:¬((if mx.isSome then m else rcap)=l):=by
    cases hms:mx with
    |none=>have:=g5 hms;simp;omega
    |some _=>simp;omega
   rw[Qi this];refine .sref _ _ _ _ _ _ r base size _ hφ ?_ (by omega) ?_ ?_
   ·cases hms:mx with
    |none=>have:=g5 hms;simp;omega
    |some _=>simp
   ·cases hms:mx with
    |none=>have:=g5 hms;simp;intro hex;have:=k3 hex;omega
    |some _=>simp
   ·have:(if mx.isSome then m else rcap)-l≤rcap-l:=by split<;>omega
    have h5:=Qn j.size this;have h6:l*j.size+(rcap-l)*j.size=rcap*j.size:=by rw[←Qz];congr 1;omega
    omega
  ·rename_i hlm
   simp at hc;subst hc;refine rd hrun ?_;have e1:hh-l=0:=by omega
   rw[e1];refine .slice _ [] none _ _ _ [] (.inl rfl) .nil (by simp) (Jd _) ?_ trivial
   intro hf;cases hms:mx with
   |none=>
    have:=g5 hms;simp[hms]at hf;have:=k3 hf;simp;omega
   |some _=>simp;omega
 ·-- a slice of a row that may grow
  rename_i e esz b k off len gen hd;rw[hd]at hu;split at hc<;>(try (simp at hc;done))
  rename_i j hj;split at hc<;>(try (simp at hc;done))
  rename_i hes;obtain⟨rfl,hlive⟩:=hes;obtain⟨cs,hlive⟩:=Wh.1 hlive;split at hc<;>(try (simp at hc;done))
  rename_i l hh m hb;obtain⟨rs,row,a,cap,hφ,hr,rfl,hcap,ho,hu',hg⟩:=zW9 R hx hlive;obtain⟨g1,g2,g3,g4,g5⟩:=zJ3 (P:=P) hb h1 h2 h3 true cap hcap (Qe _) hmx;have hrun:(Instr.sliceAt t (.slice a len cap) vlo vhi vmx).run P w=
    .ok (.slice (if(if mx.isSome then m else cap)=l then a else a.map (·.add (l*j.size))) (hh-l) ((if mx.isSome then m else cap)-l)) w:=by
   simp[Instr.sliceAt,Instr.slice,hu,g1,zQ0 hty hj]
  have hM:hh≤(if mx.isSome then m else cap):=by
   cases hms:mx with
   |none=>have:=g5 hms;simp;omega
   |some _=>simp;omega
  have hM2:(if mx.isSome then m else cap)≤cap:=by
   cases hms:mx with
   |none=>simp
   |some _=>simp;omega
  split at hc
  ·rename_i hfull
   obtain⟨_,q2,q3⟩:=hfull;simp at hc;subst hc;refine rd hrun ?_;have e1:hh-l=0:=by omega
   rw[e1];refine .slice _ [] none _ _ _ [] (.inl rfl) .nil (by simp) (Jd _) ?_ trivial
   intro _;rw[Qf q2];simp;omega
  simp at hc;subst hc;refine rd hrun (.gref _ _ _ _ _ _ rs _ _ hφ (by omega) ?_)
  by_cases hz:(if mx.isSome then m else cap)=l
  ·left;omega
  ·rw[Qi hz]
   rcases hg with h0|hg
   ·left;omega
   ·refine .inr ⟨(List.getElem?_eq_some_iff.1 hr).1,fun row' hr'=> ?_⟩
    rw[hr]at hr';simp at hr';subst hr';refine⟨by omega,fun _=>?_⟩
    unfold GOk at hg⊢;split at hg
    ·rename_i r base lim hbk
     obtain⟨rfl,hle⟩:=hg;refine⟨by simp[zKw,Jp], ?_⟩
     have h5:=Qn j.size (show(if mx.isSome then m else cap)-l≤cap-l by omega)
     have h6:l*j.size+(cap-l)*j.size=cap*j.size:=by rw[←Qz];congr 1;omega
     omega
    ·omega
 ·-- an own array
  rename_i n e b off hd;rw[hd]at hu;split at hc<;>(try (simp at hc;done))
  rename_i j cs hj hb;split at hc<;>(try (simp at hc;done))
  rename_i hle;split at hc<;>(try (simp at hc;done))
  rename_i l hh m hbd;obtain⟨r,base,size,hφ,rfl⟩:=zKv R hx (by simp[live,hb])
  obtain⟨_,cs',arr,elem,hcs,hw,⟨ha,_⟩,hb2,_⟩:=R.own b r base size hφ;rw[hb]at hcs;simp at hcs;subst hcs;obtain⟨g1,g2,g3,g4,g5⟩:=zJ3 (P:=P) hbd h1 h2 h3 false n (Qe _) (Qe _) hmx
  have hm':(if mx.isSome then m else n)=m:=by
   cases hms:mx with
   |none=>have:=g5 hms;simp;omega
   |some _=>simp
  rw[hm']at g1;have hrun:(Instr.sliceAt t (.pointer (some ⟨r,base+off,none⟩)) vlo vhi vmx).run P w=
    .ok (.slice (if m=l then some ⟨r,base+off,none⟩else some ⟨r,base+(off+l*j.size),none⟩) (hh-l) (m-l)) w:=by
   simp only[Instr.sliceAt,Sem.run_bind,hu,Result.andThen_ok,Instr.sureAddr,Sem.run_pure,g1,zQ0 hty hj,zKw,Jp];split<;>rfl
  split at hc
  ·rename_i hlm
   simp at hc;subst hc;refine rd hrun ?_;rw[Qi (by omega)]
   refine .sref _ _ _ _ _ _ r base size _ hφ (Qe _) (by omega) (fun _=>rfl) ?_
   have h5:=Qn j.size g4;have h6:l*j.size+(m-l)*j.size=m*j.size:=by rw[←Qz];congr 1;omega
   omega
  ·rename_i hlm
   simp at hc;subst hc;refine rd hrun ?_;have e1:hh-l=0:=by omega
   have e2:m-l=0:=by omega
   rw[e1,e2];exact .slice _ [] none _ _ _ [] (.inl rfl) .nil (by simp) (Jd _) (fun _=>rfl) trivial
 ·-- an array that is not written
  rename_i n e cs hd;rw[hd]at hu;split at hc<;>(try (simp at hc;done))
  rename_i j hj;split at hc<;>(try (simp at hc;done))
  rename_i hle;split at hc<;>(try (simp at hc;done))
  rename_i l hh m hbd;simp at hc;subst hc;cases hx with|rop _ a vs hat hvs=>
  obtain⟨g1,g2,g3,g4,g5⟩:=zJ3 (P:=P) hbd h1 h2 h3 false n (Qe _) (Qe _) hmx;have hm':(if mx.isSome then m else n)=m:=by
   cases hms:mx with
   |none=>have:=g5 hms;simp;omega
   |some _=>simp
  rw[hm']at g1;obtain⟨c1,c2⟩:=zYi (hty _ _ hj).one n cs hle.1 hle.2;have hrun:(Instr.sliceAt t (.pointer (some a)) vlo vhi vmx).run P w=
    .ok (.slice (if m=l then some a else(some a).map (·.add (l*j.size))) (hh-l) (m-l)) w:=by
   simp only[Instr.sliceAt,Sem.run_bind,hu,Result.andThen_ok,Instr.sureAddr,Sem.run_pure,g1,zQ0 hty hj];split<;>rfl
  refine rd hrun ?_;refine wK7 (vs:=vs.take (n*j.size)) (.inr ⟨a,rfl, ?_⟩) (by rw[c1];exact hvs.take _) c2 l hh g2 (by rw[zXr];omega) n m (by omega) none _ (by simp;omega) trivial
  have:=hat.sub 0 (n*j.size);simpa[Addr.add]using this
 ·simp at hc
end
end
end Go.Eng
