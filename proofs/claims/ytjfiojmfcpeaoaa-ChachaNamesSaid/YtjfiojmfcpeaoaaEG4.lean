/- The evaluator. -/
import Derived.Test.YtjfiojmfcpeaoaaEG3
namespace Go.Eng
set_option linter.unusedVariables false

structure XFunc where
  ntmps : Nat
  results : List ResultVar
  body : X

inductive Out where
  | normal
  | exit (id : Nat)
  | goto (l : Nat)
  | ret
  | panic (v : CV)

abbrev Ans := Option (Out × List CV × Heap)

structure Cfg where
  ty : Ty
  code : FuncId → Option XFunc
  glob : Nat → Option CV
  lit : FuncId → Bool
  sum : FuncId → Option (Heap → List CV → Option (CV × Heap))
  pure : FuncId → Option (List TypeId) := fun _ => none

def ev (g : Nat → Option CV) (tmps : List CV) : Operand → CV
  | .tmp t => tmps.getD t undefC
  | .const v => (ofV v).getD .junk
  | .global i => (g i).getD .junk
  | .func f => .func f [] []

def putC (tmps : List CV) (dst : Option Tmp) (v : CV) : List CV :=
  match dst with
  | some d => tmps.set d v
  | none => tmps

/-- Is the operation wanted? -/
def wantedC (ops : Array Oper) (tmps : List CV) (o : Oper) : Option Bool :=
  match o.guard with
  | none => some true
  | some (j, want) =>
    match (ops[j]?).bind (·.dst) with
    | none => some false
    | some d => match tmps[d]? with
      | some (.bool b) => some (b == want)
      | some (.tuple _) => some false
      | none => some false
      | _ => none

/-- Who is called: a function, or a round of a loop over a function. -/
inductive Who where
  | fn (f : FuncId)
  | yl (l : Nat)
  deriving DecidableEq

/-- What is called, and with what. -/
inductive Called where
  | who (f : Who) (args : List CV)
  | panic (v : CV)

def calledC (ρ : Operand → CV) (o : Op) : Option Called :=
  match o with
  | .call cl => match cl.callee with
    | .value f => match ρ f with
      | .func g first captured => some (.who (.fn g) (first ++ cl.args.toList.map ρ ++ captured))
      | .yield l => some (.who (.yl l) (cl.args.toList.map ρ))
      | _ => none
    | .builtin .panic => match cl.args.toList with
      | [x] => match ρ x with
        | .iface t v => some (.panic (.iface t v))
        | _ => none
      | _ => none
    | _ => none
  | .panic x => match ρ x with
    | .iface t v => some (.panic (.iface t v))
    | _ => none
  | _ => none

inductive Stp where
  | quiet (v : CV) (new : Option HObj)
  | loud (v : CV) (h : Heap)
  | panic (v : CV) (h : Heap)

/-- One operation. -/
def opStep (c : Cfg) (lit : Bool) (call : Who → List CV → Heap → Ans) (h : Heap) (ρ : Operand → CV) (o : Op) : Option Stp :=
  match opQ c.ty h h.length ρ o with
  | some (v, new) => some (.quiet v new)
  | none => match opL c.ty lit h ρ o with
    | some (v, h') => some (.loud v h')
    | none => match calledC ρ o with
      | some (.who f args) => match call f args h with
        | some (.ret, [v], h') => some (.loud v h')
        | some (.panic v, _, h') => some (.panic v h')
        | _ => none
      | some (.panic v) => some (.panic v h)
      | none => none

def resultC (ty : Ty) (h : Heap) (tmps : List CV) : ResultVar → Option CV
  | .tmp t => some (tmps.getD t undefC)
  | .cell a t => loadC ty h t (tmps.getD a undefC)

def resultsC (ty : Ty) (h : Heap) (tmps : List CV) : List ResultVar → Option (List CV)
  | [] => some []
  | r :: rs => match resultC ty h tmps r with
    | none => none
    | some c => match resultsC ty h tmps rs with
      | some cs => some (c :: cs)
      | none => none

def oneOf : List CV → CV
  | [c] => c
  | cs => .tuple cs

inductive Job where
  | code (x : X)
  | round (b : X)
  | scope (b cur : X)
  | ops (ops : Array Oper) (draw : Bool) (l : List (Nat × List Nat))
  | call (f : Who) (args : List CV)

mutual
/-- Equal, and known to be. -/
def CV.same : CV → CV → Bool
  | .bool a, .bool b => a == b
  | .int j a, .int k b => j == k && a == b
  | .str a, .str b => a == b
  | .nilptr, .nilptr => true
  | .ptr a b, .ptr c d => a == c && b == d
  | .rop a, .rop b => a.same b
  | .slice e xs t f, .slice e' ys t' f' => e == e' && t == t' && f == f' && CV.sames xs ys
  | .sref a b c d e f, .sref a' b' c' d' e' f' => a == a' && b == b' && c == c' && d == d' && e == e' && f == f'
  | .map a, .map b => a == b
  | .nilmap, .nilmap => true
  | .func f xs ys, .func g us vs => f == g && CV.sames xs us && CV.sames ys vs
  | .yield a, .yield b => a == b
  | .nilfunc, .nilfunc => true
  | .iface t a, .iface u b => t == u && a.same b
  | .niliface, .niliface => true
  | .agg a, .agg b => CV.sames a b
  | .tuple a, .tuple b => CV.sames a b
  | _, _ => false
def CV.sames : List CV → List CV → Bool
  | [], [] => true
  | a :: as, b :: bs => a.same b && CV.sames as bs
  | _, _ => false
end

/-- Has what was read before a loud operation stayed as it was? -/
def again (c : Cfg) (h : Heap) (ops : Array Oper) (tmps : List CV) : List Nat → Bool
  | [] => true
  | r :: rs =>
    (match ops[r]? with
    | none => true
    | some o => match wantedC ops tmps o with
      | some false => true
      | some true => match opQ c.ty h 0 (ev c.glob tmps) o.op with
        | some (_, some _) => true
        | some (v, none) => match o.dst with
          | none => true
          | some d => match tmps[d]? with
            | some u => v.same u
            | none => false
        | none => false
      | none => false) && again c h ops tmps rs

def planOf (ops : Array Oper) (draw : Bool) (plan : List (Nat × List Nat)) : List (Nat × List Nat) :=
  if draw then plan else (List.range ops.size).map fun i => (i, [])

mutual
/-- Does a value hang on no place of the clean heap? -/
def pureC : CV → Bool
  | .ptr _ _ | .sref _ _ _ _ _ _ | .map _ | .yield _ => false
  | .rop v => pureC v
  | .slice _ xs tok _ => tok.isNone && pureCs xs
  | .func _ xs ys => pureCs xs && pureCs ys
  | .iface _ v => pureC v
  | .agg cs => pureCs cs
  | .tuple cs => pureCs cs
  | _ => true
def pureCs : List CV → Bool
  | [] => true
  | c :: cs => pureC c && pureCs cs
end

def wrapV (v : CV) (cs : List CV) : CV :=
  match v with
  | .agg _ => .agg cs
  | _ => cs.headD .junk

def mapO {α β : Type} (f : α → Option β) : List α → Option (List β)
  | [] => some []
  | x :: xs => match f x with
    | some y => match mapO f xs with
      | some ys => some (y :: ys)
      | none => none
    | none => none

def exFs (ty : Ty) (f : TypeId → List CV → Option (List CV)) : List Field → List CV → Option (List CV)
  | [], cs => if cs.isEmpty then some [] else none
  | fld :: fs, cs => match ty fld.type with
    | some j => match f fld.type (cs.take j.size), exFs ty f fs (cs.drop j.size) with
      | some a, some b => some (a ++ b)
      | _, _ => none
    | none => none

def exEs (f : List CV → Option (List CV)) (size : Nat) : Nat → List CV → Option (List CV)
  | 0, cs => if cs.isEmpty then some [] else none
  | n + 1, cs => match f (cs.take size), exEs f size n (cs.drop size) with
    | some a, some b => some (a ++ b)
    | _, _ => none

def CV.isStr : CV → Bool
  | .str _ => true
  | _ => false

/-- Cells, taken out of the clean heap. -/
def exC (ty : Ty) (H : Heap) : Nat → TypeId → List CV → Option (List CV)
  | 0, _, _ => none
  | n + 1, t, cs => match ty t with
    | none => none
    | some i => match i.desc with
      | .struct fs => exFs ty (exC ty H n) fs.toList cs
      | .array len e => match ty e with
        | some j => exEs (exC ty H n e) j.size len cs
        | none => none
      | .slice e => match ty e, cs with
        | some j, [c] => if c.isStr then none else match srcE H j c with
          | some xs => match mapO (fun x => (exC ty H n e x.flat).map (wrapV x)) xs with
            | some ys => some [.slice j.size ys none false]
            | none => none
          | none => none
        | _, _ => none
      | _ => if pureCs cs && cs.all CV.one then some cs else none

def exV (ty : Ty) (H : Heap) (t : TypeId) (v : CV) : Option CV :=
  match v with
  | .junk => none
  | v => (exC ty H 12 t v.flat).map (wrapV v)

def exVs (ty : Ty) (H : Heap) : List TypeId → List CV → Option (List CV)
  | [], [] => some []
  | t :: ts, v :: vs => match exV ty H t v, exVs ty H ts vs with
    | some a, some b => some (a :: b)
    | _, _ => none
  | _, _ => none

def Out.jump : Out → Option (Option Jump)
  | .normal => some none
  | .ret => some (some .ret)
  | .exit id => some (some (.exit id))
  | .goto l => some (some (.goto l))
  | .panic _ => none

def Jump.out : Jump → Out
  | .ret => .ret
  | .exit id => .exit id
  | .goto l => .goto l

def inLoop (rd : Option Nat) (h : Heap) : Bool :=
  match rd with
  | none => true
  | some b => match h[b]? with
    | some (.loop _ _ _ _ _ _ _) => true
    | _ => false

/-- A loop over a function has ended. -/
def endLoopC (l : Nat) (tmps : List CV) (h : Heap) : Ans :=
  match h[l]? with
  | some (.loop f ts ps a b st pend) => match st with
    | .busy => none
    | _ => some ((match pend with | none => .normal | some j => j.out), tmps, h.set l (.loop f ts ps a b .exhausted pend))
  | _ => none

/-- A round begins. -/
def beginC (l : Nat) (h : Heap) : Option Heap :=
  match h[l]? with
  | some (.loop f ts ps a b .ready pend) => some (h.set l (.loop f ts ps a b .busy pend))
  | _ => none

/-- A round has ended. -/
def endC (l : Nat) (o : Out) (h : Heap) : Ans :=
  match h[l]?, o.jump with
  | some (.loop f ts ps a b _ _), some jmp => some (.ret, [.bool jmp.isNone], h.set l (.loop f ts ps a b (if jmp.isNone then .ready else .done) jmp))
  | _, _ => none

/-- The evaluation: fuel, the function under way, the round that it is in, what is to be done, its slots, the heap. -/
def ex (c : Cfg) : Nat → FuncId → Option Nat → Job → List CV → Heap → Ans
  | 0, _, _, _, _, _ => none
  | n + 1, fn, rd, j, tmps, h =>
    match j with
    | .code .skip => some (.normal, tmps, h)
    | .code (.label _) => some (.normal, tmps, h)
    | .code (.seq a b) => match ex c n fn rd (.code a) tmps h with
      | some (.normal, t, h) => ex c n fn rd (.code b) t h
      | r => r
    | .code (.cond x a b) => match ev c.glob tmps x with
      | .bool true => ex c n fn rd (.code a) tmps h
      | .bool false => ex c n fn rd (.code b) tmps h
      | _ => none
    | .code (.block id b) => match ex c n fn rd (.code b) tmps h with
      | some (.exit id', t, h) => if id' = id then some (.normal, t, h) else some (.exit id', t, h)
      | r => r
    | .code (.loop b) => ex c n fn rd (.round b) tmps h
    | .round b => match ex c n fn rd (.code b) tmps h with
      | some (.normal, t, h) => ex c n fn rd (.round b) t h
      | r => r
    | .code (.rangeFunc g ps a b) =>
      if inLoop rd h then match ev c.glob tmps g with
        | .func gf first captured => match ex c n gf none (.call (.fn gf) (first ++ [.yield h.length] ++ captured)) [] (h ++ [.loop fn tmps ps a b .ready none]) with
          | some (.ret, [_], h1) => endLoopC h.length tmps h1
          | some (.panic v, _, h1) => some (.panic v, tmps, h1)
          | _ => none
        | _ => none
      else none
    | .code (.scope b) => ex c n fn rd (.scope b b) tmps h
    | .scope b cur => match ex c n fn rd (.code cur) tmps h with
      | some (.goto l, t, h) => match xFind b l with
        | some rest => ex c n fn rd (.scope b rest) t h
        | none => some (.goto l, t, h)
      | r => r
    | .code (.exit id) => some (.exit id, tmps, h)
    | .code (.goto l) => some (.goto l, tmps, h)
    | .code .ret => some (.ret, tmps, h)
    | .code (.region _ ops draw plan) => ex c n fn rd (.ops ops draw (planOf ops draw plan)) tmps h
    | .ops _ _ [] => some (.normal, tmps, h)
    | .ops ops draw ((i, rs) :: l) => match ops[i]? with
      | none => if draw then none else ex c n fn rd (.ops ops draw l) tmps h
      | some o => match wantedC ops tmps o with
        | none => none
        | some false => ex c n fn rd (.ops ops draw l) (putC tmps o.dst undefC) h
        | some true => match opStep c (c.lit fn) (fun f args h => ex c n fn none (.call f args) [] h) h (ev c.glob tmps) o.op with
          | some (.quiet v new) => ex c n fn rd (.ops ops draw l) (putC tmps o.dst v) (h ++ new.toList)
          | some (.loud v h') => if (!draw || loudOp o.op) && again c h' ops tmps rs then ex c n fn rd (.ops ops draw l) (putC tmps o.dst v) h' else none
          | some (.panic v h') => some (.panic v, tmps, h')
          | none => none
    | .call (.fn f) args => match c.sum f with
      | some F => (F h args).map fun p => (.ret, [p.1], p.2)
      | none => match c.code f with
        | none => none
        | some fd => match (if pureCs args then c.pure f else none) with
        | some ts => match ex c n f none (.code fd.body) (args ++ List.replicate (fd.ntmps - args.length) undefC) [] with
            | some (.normal, t, h') => ((resultsC c.ty h' t fd.results).bind (exVs c.ty h' ts)).map fun cs => (.ret, [oneOf cs], h)
            | some (.ret, t, h') => ((resultsC c.ty h' t fd.results).bind (exVs c.ty h' ts)).map fun cs => (.ret, [oneOf cs], h)
            | _ => none
        | none => match ex c n f none (.code fd.body) (args ++ List.replicate (fd.ntmps - args.length) undefC) h with
          | some (.normal, t, h') => (resultsC c.ty h' t fd.results).map fun cs => (.ret, [oneOf cs], h')
          | some (.ret, t, h') => (resultsC c.ty h' t fd.results).map fun cs => (.ret, [oneOf cs], h')
          | some (.panic v, t, h') => some (.panic v, [], h')
          | _ => none
    | .call (.yl l) args => match h[l]? with
      | some (.loop f ts ps a b .ready _) =>
        if args.length = ps.size then
          match ex c n f (some l) (.code a) ((ps.toList.zip args).foldl (fun T p => T.set p.1 p.2) ts) h with
          | some (.normal, t1, h1) => match beginC l h1 with
            | some h2 => match ex c n f (some l) (.code b) t1 h2 with
              | some (o, _, h3) => endC l o h3
              | none => none
            | none => none
          | _ => none
        else none
      | _ => none
end Go.Eng
