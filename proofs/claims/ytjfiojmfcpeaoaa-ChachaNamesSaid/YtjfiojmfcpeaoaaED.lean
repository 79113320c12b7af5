/- Clean operations on values: what they answer, and that the model answers so. -/
import Derived.Test.YtjfiojmfcpeaoaaEC
import Derived.Laws.Strings
namespace Go.Eng
set_option linter.unusedVariables false

/-- What is known of a type. -/
structure TI where
  desc : TypeDesc
  agg : Bool
  size : Nat
  bytes : Nat
  zero : List CV
  comparable : Bool
  held : Bool
  eqg : Bool

def ofV1 : Value → Option CV
  | .bool b => some (.bool b)
  | .int k n => some (.int k n)
  | .string s => some (.str s.data.toList)
  | .pointer none => some .nilptr
  | .slice none 0 0 => some (.slice 0 [] none true)
  | .map none => some .nilmap
  | .nilFunc => some .nilfunc
  | .nilIface => some .niliface
  | .func (.func f) ⟨[]⟩ ⟨[]⟩ => some (.func f [] [])
  | _ => none

def ofVs : List Value → Option (List CV)
  | [] => some []
  | v :: vs => match ofV1 v, ofVs vs with
    | some c, some cs => some (c :: cs)
    | _, _ => none

def ofV : Value → Option CV
  | .agg cs => (ofVs cs.toList).map .agg
  | .tuple ⟨[]⟩ => some (.tuple [])
  | v => ofV1 v

theorem ofV1_ok {φ : Phi} {St : Stab} {w : World} {v : Value} {c : CV} (h : ofV1 v = some c) : VR φ St w c v := by
  unfold ofV1 at h
  split at h <;> first | (simp at h; done) | (simp only [Option.some.injEq] at h; subst h)
  · exact .bool _
  · exact .int _ _
  · exact .str _ _ rfl
  · exact .nilptr
  · exact .slice 0 [] none true none 0 [] (.inl rfl) .nil (by simp) (Nat.le_refl _) (fun _ => rfl) trivial
  · exact .nilmap
  · exact .nilfunc
  · exact .niliface
  · exact .func _ [] [] [] [] .nil .nil

theorem ofVs_ok {φ : Phi} {St : Stab} {w : World} {vs : List Value} {cs : List CV} (h : ofVs vs = some cs) : VRL φ St w cs vs := by
  induction vs generalizing cs with
  | nil => simp [ofVs] at h; subst h; exact .nil
  | cons v vs ih =>
    simp only [ofVs] at h
    split at h
    · rename_i c ds h1 h2
      simp at h; subst h
      exact .cons _ _ _ _ (ofV1_ok h1) (ih h2)
    · simp at h

theorem ofV_ok {φ : Phi} {St : Stab} {w : World} {v : Value} {c : CV} (h : ofV v = some c) : VR φ St w c v := by
  unfold ofV at h
  split at h
  · rename_i cs
    cases hc : ofVs cs.toList with
    | none => simp [hc] at h
    | some ds =>
      simp [hc] at h; subst h
      have := VR.agg (φ := φ) (St := St) (w := w) ds cs.toList (ofVs_ok hc)
      simpa using this
  · simp at h; subst h; exact .tuple [] [] .nil
  · exact ofV1_ok h

def isAggD : TypeDesc → Bool
  | .struct _ | .array _ _ => true
  | _ => false

def isAggV : Value → Bool
  | .agg _ => true
  | _ => false

/-- What is known of a type is so. -/
structure TyFits (P : Program) (t : TypeId) (i : TI) : Prop where
  und : P.underlying t = some i.desc
  info : ∃ inf z, P.info? t = some inf ∧ inf.size = i.size ∧ inf.bytes = i.bytes ∧ inf.zero = some z ∧ ofVs z.cells.toList = some i.zero ∧ i.zero.length = i.size ∧ inf.comparable = i.comparable ∧ isAggV z = i.agg
  agg : i.agg = isAggD i.desc
  one : i.agg = false → i.size = 1
  held : P.stoodInHeld t = i.held
  eqg : P.eqGuardType P.depth t = i.eqg

abbrev Ty := TypeId → Option TI
def Ty.Ok (ty : Ty) (P : Program) : Prop := ∀ t i, ty t = some i → TyFits P t i

/-- A part of an aggregate's cells. -/
def partC (i : TI) (cs : List CV) (off : Nat) : Option CV :=
  if i.agg then (if off + i.size ≤ cs.length then some (.agg ((cs.drop off).take i.size)) else none) else
  match cs[off]? with
  | some c => if c.one then some c else none
  | none => none

section
variable {P : Program} {ty : Ty} (hty : ty.Ok P)
include hty
theorem run_und {t : TypeId} {i : TI} (h : ty t = some i) (w : World) : (underlying t).run P w = .ok i.desc w := by
  simp [underlying, (hty t i h).und]
theorem run_isAggC {t : TypeId} {i : TI} (h : ty t = some i) (w : World) : (isAgg t).run P w = .ok i.agg w := by
  have f := hty t i h
  simp only [isAgg, Sem.run_bind, run_und hty h, Result.andThen_ok]
  rw [f.agg]
  cases i.desc <;> rfl
theorem run_sizeC {t : TypeId} {i : TI} (h : ty t = some i) (w : World) : (sizeOf t).run P w = .ok i.size w := by
  obtain ⟨inf, z, h1, h2, _⟩ := (hty t i h).info
  simp [sizeOf, typeInfo, h1, h2]
theorem run_bytesC {t : TypeId} {i : TI} (h : ty t = some i) (w : World) : ∃ inf, (typeInfo t).run P w = .ok inf w ∧ inf.bytes = i.bytes ∧ inf.size = i.size ∧ inf.comparable = i.comparable := by
  obtain ⟨inf, z, h1, h2, h3, _, _, _, h4, _⟩ := (hty t i h).info
  exact ⟨inf, by simp [typeInfo, h1], h3, h2, h4⟩
theorem run_zeroC {t : TypeId} {i : TI} (h : ty t = some i) (w : World) : ∃ z, (zeroValue t).run P w = .ok z w ∧ ofVs z.cells.toList = some i.zero ∧ i.zero.length = i.size ∧ isAggV z = i.agg := by
  obtain ⟨inf, z, h1, h2, h3, h4, h5, h6, _, h7⟩ := (hty t i h).info
  exact ⟨z, by simp [zeroValue, typeInfo, h1, h4], h5, h6, h7⟩

theorem run_partC {φ : Phi} {St : Stab} {w : World} {t : TypeId} {i : TI} (h : ty t = some i) {cs : List CV} {vs : List Value} (hv : VRL φ St w cs vs) {off : Nat} {c : CV}
    (hc : partC i cs off = some c) : ∃ v, (part t vs.toArray off).run P w = .ok v w ∧ VR φ St w c v := by
  unfold partC at hc
  simp only [part, Sem.run_bind, run_isAggC hty h, Result.andThen_ok]
  split at hc
  · rename_i ha
    split at hc
    · simp at hc; subst hc
      refine ⟨.agg ((vs.drop off).take i.size).toArray, ?_, .agg _ _ ((hv.drop off).take i.size)⟩
      simp [ha, run_sizeC hty h]
    · simp at hc
  · rename_i ha
    split at hc
    · rename_i x hx
      split at hc
      · simp at hc; subst hc
        obtain ⟨v, hv', hr⟩ := hv.get off x hx
        refine ⟨v, ?_, hr⟩
        simp [ha, hv']
      · simp at hc
    · simp at hc
end

/-- Integers. -/
def intC (op : BinOp) (k : IntKind) (a b : Int) : Option CV :=
  match op with
  | .add => some (.int k (k.wrap (a + b)))
  | .sub => some (.int k (k.wrap (a - b)))
  | .mul => some (.int k (k.wrap (a * b)))
  | .quo => if b = 0 then none else some (.int k (k.wrap (a.tdiv b)))
  | .rem => if b = 0 then none else some (.int k (a.tmod b))
  | .and => some (.int k (k.wrap (BitVec.ofInt k.bits a &&& BitVec.ofInt k.bits b).toNat))
  | .or => some (.int k (k.wrap (BitVec.ofInt k.bits a ||| BitVec.ofInt k.bits b).toNat))
  | .xor => some (.int k (k.wrap (BitVec.ofInt k.bits a ^^^ BitVec.ofInt k.bits b).toNat))
  | .andNot => some (.int k (k.wrap (BitVec.ofInt k.bits a &&& ~~~(BitVec.ofInt k.bits b)).toNat))
  | .eql => some (.bool (a == b))
  | .neq => some (.bool (a != b))
  | .lss => some (.bool (decide (a < b)))
  | .leq => some (.bool (decide (a ≤ b)))
  | .gtr => some (.bool (decide (a > b)))
  | .geq => some (.bool (decide (a ≥ b)))
  | .shl | .shr => none

def shiftC (op : BinOp) (k : IntKind) (a b : Int) : Option CV :=
  if b < 0 then none else
  match op with
  | .shl => some (.int k (k.wrap (a * 2 ^ (min b.toNat k.bits))))
  | .shr => some (.int k (a.fdiv (2 ^ (min b.toNat k.bits))))
  | _ => none

def strC (op : BinOp) (a b : List UInt8) : Option CV :=
  match op with
  | .add => if a.length + b.length < 2 ^ 40 then some (.str (a ++ b)) else none
  | .eql => some (.bool (a == b))
  | .neq => some (.bool !(a == b))
  | .lss => some (.bool (Op.bytesLess a b))
  | .leq => some (.bool (Op.bytesLess a b || a == b))
  | .gtr => some (.bool !(Op.bytesLess a b || a == b))
  | .geq => some (.bool !(Op.bytesLess a b))
  | _ => none

/-- Is a value surely no nil, in a heap? -/
def CV.sure (h : Heap) : CV → Option Bool
  | .nilptr | .nilmap | .nilfunc | .niliface => some false
  | .ptr b _ => match h[b]? with
    | some .dead => none
    | none => none
    | some _ => some true
  | .sref _ b _ _ _ _ => match h[b]? with
    | some .dead => none
    | none => none
    | some _ => some true
  | .rop _ | .func _ _ _ | .iface _ _ => some true
  | .slice _ (_ :: _) _ _ => some true
  | _ => none

def eqFields (ty : Ty) (eq : TypeId → CV → CV → Option Bool) : List Field → List CV → List CV → Option Bool
  | [], _, _ => some true
  | f :: fs, xs, ys =>
    if f.name ≠ "_" then
      match ty f.type with
      | none => none
      | some j =>
        match partC j xs f.offset, partC j ys f.offset with
        | some a, some b => match eq f.type a b with
          | some true => eqFields ty eq fs xs ys
          | r => r
        | _, _ => none
    else eqFields ty eq fs xs ys
def eqElems (ty : Ty) (eq : TypeId → CV → CV → Option Bool) (e : TypeId) : Nat → Nat → List CV → List CV → Option Bool
  | 0, _, _, _ => some true
  | n + 1, i, xs, ys =>
    match ty e with
    | none => none
    | some j =>
      match partC j xs (i * j.size), partC j ys (i * j.size) with
      | some a, some b => match eq e a b with
        | some true => eqElems ty eq e n (i + 1) xs ys
        | r => r
      | _, _ => none
/-- Whether two values are the same. -/
def eqV (ty : Ty) : Nat → TypeId → CV → CV → Option Bool
  | 0, _, _, _ => none
  | d + 1, t, x, y =>
    match ty t with
    | none => none
    | some i =>
      match i.desc, x, y with
      | .bool, .bool a, .bool b => some (a == b)
      | .int _, .int k a, .int k' b => if k = k' then some (a == b) else none
      | .string, .str a, .str b => some (a == b)
      | .interface _, .iface tx vx, .iface ty' vy =>
        if tx ≠ ty' then some false else
        match ty tx with
        | none => none
        | some j => if j.comparable then eqV ty d tx vx vy else none
      | .interface _, .niliface, .niliface => some true
      | .interface _, .niliface, .iface _ _ | .interface _, .iface _ _, .niliface => some false
      | .struct fs, .agg xs, .agg ys => if i.held then none else eqFields ty (eqV ty d) fs.toList xs ys
      | .array len e, .agg xs, .agg ys => match ty e with
        | none => none
        | some _ => eqElems ty (eqV ty d) e len 0 xs ys
      | _, _, _ => none

end Go.Eng
