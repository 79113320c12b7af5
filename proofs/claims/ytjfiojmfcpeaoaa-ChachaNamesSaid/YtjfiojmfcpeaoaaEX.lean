/- Code with the order in which a region is gone through. -/
import Derived.Calls
import Derived.Orders
namespace Go.Eng
set_option linter.unusedVariables false

def loudOp : Op → Bool
  | .store .. | .mapUpdate .. | .panic _ => true
  | .call cl => match cl.callee with
    | .builtin .len | .builtin .cap | .builtin .max | .builtin .min => false
    | _ => true
  | _ => false

/-- The answer does not hang on the heap. -/
def stillOp : Op → Bool
  | .move _ | .assign _ | .pick .. | .alloc _ | .box .. | .build .. | .buildSlice .. | .unOp .. | .makeInterface .. | .makeFunc .. | .makeMap .. | .makeSlice .. | .field .. | .index .. | .typeAssert .. | .extract .. => true
  | _ => false

def deps (ops : Array Oper) (i : Nat) : List Nat := ((ops[i]?).map fun o => (o.after.toList.filter (Region.binds .any)).map (·.on)).getD []
def anc (bs : Array Nat) (i j : Nat) : Bool := (bs.getD j 0).testBit i
def looks (ops : Array Oper) (i : Nat) : List Tmp := ((ops[i]?).map (·.looksAt ops)).getD []
def dstOf (ops : Array Oper) (i : Nat) : Option Tmp := (ops[i]?).bind (·.dst)
def loudAt (ops : Array Oper) (i : Nat) : Bool := ((ops[i]?).map fun o => loudOp o.op).getD false
def stillAt (ops : Array Oper) (i : Nat) : Bool := ((ops[i]?).map fun o => stillOp o.op).getD false
def touch (ops : Array Oper) (i j : Nat) : Prop := ∃ d, (dstOf ops i = some d ∧ (d ∈ looks ops j ∨ dstOf ops j = some d)) ∨ (dstOf ops j = some d ∧ d ∈ looks ops i)

structure PlanOkW (ops : Array Oper) (plan : List (Nat × List Nat)) (bs : Array Nat) : Prop where
  len : plan.length = ops.size
  mem : ∀ i, i < ops.size → ∃ (p : Nat) (rs : List Nat), plan[p]? = some (i, rs)
  lt : ∀ (p i : Nat) (rs : List Nat), plan[p]? = some (i, rs) → i < ops.size
  inj : ∀ (p q i : Nat) (rs rs' : List Nat), plan[p]? = some (i, rs) → plan[q]? = some (i, rs') → p = q
  lin : ∀ (p j : Nat) (rs : List Nat), plan[p]? = some (j, rs) → ∀ e ∈ deps ops j, ∃ (q : Nat) (rs' : List Nat), q < p ∧ plan[q]? = some (e, rs')
  step : ∀ i j, anc bs i j = true → ∃ e ∈ deps ops j, e = i ∨ anc bs i e = true
  slots : ∀ (p q i j : Nat) (rs rs' : List Nat), p < q → plan[p]? = some (i, rs) → plan[q]? = some (j, rs') → touch ops i j → anc bs i j = true
  loud1 : ∀ (p q i j : Nat) (rs rs' : List Nat), p < q → plan[p]? = some (i, rs) → plan[q]? = some (j, rs') → loudAt ops i = true → anc bs i j = true
  loud2 : ∀ (p q i j : Nat) (rs rs' : List Nat), p < q → plan[p]? = some (i, rs) → plan[q]? = some (j, rs') → loudAt ops j = true → anc bs i j = true ∨ stillAt ops i = true ∨ i ∈ rs'
  again : ∀ (p k q i w j : Nat) (rs rs'' rs' : List Nat), p < k → k < q → plan[p]? = some (i, rs) → plan[k]? = some (w, rs'') → plan[q]? = some (j, rs') → i ∈ rs' → ∀ t, dstOf ops w = some t → t ∉ looks ops i ∧ dstOf ops i ≠ some t
  again0 : ∀ (p q i j : Nat) (rs rs' : List Nat), p < q → plan[p]? = some (i, rs) → plan[q]? = some (j, rs') → i ∈ rs' → ∀ t, dstOf ops i = some t → t ∉ looks ops i

def PlanOk (ops : Array Oper) (plan : List (Nat × List Nat)) : Prop := ∃ bs, PlanOkW ops plan bs

/-- Code with the order in which a region is gone through, and what is looked at again after each loud operation. -/
inductive X where
  | skip
  | region (id : Nat) (ops : Array Oper) (draw : Bool) (plan : List (Nat × List Nat))
  | seq (a b : X)
  | cond (c : Operand) (thn els : X)
  | block (id : Nat) (body : X)
  | loop (body : X)
  | rangeFunc (g : Operand) (ps : Array Tmp) (assign body : X)
  | exit (id : Nat)
  | scope (body : X)
  | label (l : Nat)
  | goto (l : Nat)
  | ret
  deriving Inhabited

def X.code : X → Code
  | .skip => .skip
  | .region id ops draw _ => .region id ops draw
  | .seq a b => .seq a.code b.code
  | .cond c a b => .cond c a.code b.code
  | .block id b => .block id b.code
  | .loop b => .loop b.code
  | .rangeFunc g ps a b => .rangeFunc g ps a.code b.code
  | .exit id => .exit id
  | .scope b => .scope b.code
  | .label l => .label l
  | .goto l => .goto l
  | .ret => .ret

def X.ok : X → Prop
  | .region _ ops draw plan => draw = true → PlanOk ops plan
  | .seq a b => a.ok ∧ b.ok
  | .cond _ a b => a.ok ∧ b.ok
  | .block _ b => b.ok
  | .loop b => b.ok
  | .rangeFunc _ _ a b => a.ok ∧ b.ok
  | .scope b => b.ok
  | _ => True

def xFind : X → Nat → Option X
  | .seq a b, l => match xFind a l with
    | some rest => some (.seq rest b)
    | none => xFind b l
  | .label l', l => if l' == l then some .skip else none
  | _, _ => none

theorem xFind_eq (l : Nat) : ∀ b : X, findLabel b.code l = (xFind b l).map X.code := by
  intro b
  induction b with
  | seq a b iha ihb =>
    simp only [X.code, findLabel, xFind, iha]
    cases xFind a l with
    | some q => rfl
    | none => simpa using ihb
  | label l' => simp only [X.code, findLabel, xFind]; split <;> rfl
  | _ => rfl

theorem xFind_ok {l : Nat} : ∀ {b r : X}, b.ok → xFind b l = some r → r.ok := by
  intro b
  induction b with
  | seq a b iha ihb =>
    intro r hb h
    simp only [xFind] at h
    cases ha : xFind a l with
    | some q => rw [ha] at h; simp at h; subst h; exact ⟨iha hb.1 ha, hb.2⟩
    | none => rw [ha] at h; exact ihb hb.2 h
  | label l' => intro r hb h; simp only [xFind] at h; split at h <;> simp at h; subst h; trivial
  | _ => intro r hb h; simp [xFind] at h

/-- A jump out of a round. -/
inductive Jump where
  | ret
  | exit (id : Nat)
  | goto (l : Nat)
  deriving Inhabited

def Jump.code : Jump → Code
  | .ret => .ret
  | .exit id => .exit id
  | .goto l => .goto l
end Go.Eng
