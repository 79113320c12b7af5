/- Operators. -/
import Derived.Test.YtjfiojmfcpeaoaaEE1
import GoSem.Dispatch
namespace Go.Eng
set_option linter.unusedVariables false

def isConst : Operand → Bool
  | .const _ => true
  | _ => false
def isNilSlice : Operand → Bool
  | .const (.slice none _ _) => true
  | _ => false

/-- Is there such a block? -/
def live (h : Heap) (b : Nat) : Bool :=
  match h[b]? with
  | some .dead => false
  | none => false
  | some _ => true

/-- A value against nil. -/
def cmpNil (h : Heap) (d : TypeDesc) (yn : Bool) (a b : CV) : Option Bool :=
  match d, a, b with
  | .pointer _, .nilptr, .nilptr => some true
  | .pointer _, .ptr b _, .nilptr => if live h b then some false else none
  | .pointer _, .nilptr, .ptr b _ => if live h b then some false else none
  | .pointer _, .rop _, .nilptr => some false
  | .func _ _ _, .nilfunc, .nilfunc => some true
  | .func _ _ _, .func _ _ _, .nilfunc => some false
  | .func _ _ _, .nilfunc, .func _ _ _ => some false
  | .map _ _, .nilmap, .nilmap => some true
  | .map _ _, .map b, .nilmap => if live h b then some false else none
  | .slice _, .sref _ b _ _ _ _, .slice _ [] _ _ => if yn && live h b then some false else none
  | .slice _, .slice _ (_ :: _) _ _, .slice _ [] _ _ => if yn then some false else none
  | _, _, _ => none

def eqC (ty : Ty) (h : Heap) (t : TypeId) (cst yn : Bool) (a b : CV) : Option Bool :=
  match ty t with
  | none => none
  | some i =>
    match a, b with
    | .agg xs, .agg ys => if i.eqg then none else eqV ty 40 t (.agg xs) (.agg ys)
    | .niliface, .niliface => if cst then eqV ty 40 t .niliface .niliface else none
    | .bool x, .bool y => eqV ty 40 t (.bool x) (.bool y)
    | .iface u x, .iface v y => eqV ty 40 t (.iface u x) (.iface v y)
    | .iface u x, .niliface => eqV ty 40 t (.iface u x) .niliface
    | .niliface, .iface v y => eqV ty 40 t .niliface (.iface v y)
    | a, b => cmpNil h i.desc yn a b

def binC (ty : Ty) (h : Heap) (op : BinOp) (t : TypeId) (cst yn : Bool) (a b : CV) : Option CV :=
  match a, b with
  | .int k x, .int k' y =>
    match op with
    | .shl | .shr => shiftC op k x y
    | _ => if k = k' then intC op k x y else none
  | .str x, .str y => strC op x y
  | a, b => match op with
    | .eql => (eqC ty h t cst yn a b).map .bool
    | .neq => (eqC ty h t cst yn a b).map fun r => .bool !r
    | _ => none

theorem run_eqGuard_int {P : Program} {w : World} (op : BinOp) (t : TypeId) (x y : Operand) (k k' : IntKind) (a b : Int) : (eqGuard op t x y (.int k a) (.int k' b)).run P w = .ok () w := by
  unfold eqGuard; cases op <;> rfl
theorem run_eqGuard_str {P : Program} {w : World} (op : BinOp) (t : TypeId) (x y : Operand) (a b : ByteArray) : (eqGuard op t x y (.string a) (.string b)).run P w = .ok () w := by
  unfold eqGuard; cases op <;> rfl

theorem run_intC {P : Program} {w : World} (op : BinOp) (k : IntKind) (a b : Int) (t : TypeId) {c : CV} (h : intC op k a b = some c) :
    ∃ v, (binOp op t (.int k a) (.int k b)).run P w = .ok v w ∧ ∀ φ St, VR φ St w c v := by
  cases op <;> simp only [intC] at h <;> (try (simp at h; done)) <;> (try split at h) <;> (try (simp at h; done)) <;> (simp only [Option.some.injEq] at h; subst h) <;>
    simp only [binOp, ne_eq, not_true_eq_false, if_false, Op.intArith, Op.intDiv, Op.intBits, Op.intCmp, *] <;> exact ⟨_, rfl, fun _ _ => by constructor⟩

theorem run_shiftC {P : Program} {w : World} (op : BinOp) (k k' : IntKind) (a b : Int) (t : TypeId) {c : CV} (h : shiftC op k a b = some c) :
    ∃ v, (binOp op t (.int k a) (.int k' b)).run P w = .ok v w ∧ ∀ φ St, VR φ St w c v := by
  unfold shiftC at h
  split at h
  · simp at h
  · rename_i hb
    cases op <;> simp only at h <;> (try (simp at h; done)) <;> (simp only [Option.some.injEq] at h; subst h) <;>
      simp only [binOp, Op.shift, hb, if_false] <;> exact ⟨_, rfl, fun _ _ => by constructor⟩

theorem run_strC {P : Program} {w : World} (op : BinOp) (a b : ByteArray) (t : TypeId) {c : CV} (h : strC op a.data.toList b.data.toList = some c) :
    ∃ v, (binOp op t (.string a) (.string b)).run P w = .ok v w ∧ ∀ φ St, VR φ St w c v := by
  have hb : ∀ (o : BinOp), binOp o t (.string a) (.string b) = Op.stringOp o a b := by intro o; cases o <;> rfl
  rw [hb]
  have hl : ∀ x : ByteArray, x.toList = x.data.toList := fun x => ByteArray.toList_eq x
  cases op <;> simp only [strC] at h <;> (try (simp at h; done)) <;> (try split at h) <;> (try (simp at h; done)) <;> (simp only [Option.some.injEq] at h; subst h) <;>
    simp only [Op.stringOp, hl]
  case add hlt =>
    have : ¬ ((a.size + b.size : Nat) : Int) > IntKind.i64.max := by
      have h1 : a.size = a.data.toList.length := (Array.length_toList (xs := a.data)).symm
      have h2 : b.size = b.data.toList.length := (Array.length_toList (xs := b.data)).symm
      have : IntKind.i64.max = 9223372036854775807 := by decide
      omega
    rw [if_neg this]
    exact ⟨_, rfl, fun _ _ => .str _ _ (by simp [ByteArray.data_append])⟩
  all_goals exact ⟨_, rfl, fun _ _ => by constructor⟩

section
variable {P : Program} {ty : Ty} (hty : ty.Ok P) {N : Nat} {φ : Phi} {St : Stab} {h : Heap} {w : World} (R : Rel N φ St h w)
include R
theorem alive_ptr {b off : Nat} {v : Value} (hv : VR φ St w (.ptr b off) v) (hl : live h b = true) :
    ∃ r base size, φ b = some (.own r base size) ∧ v = .pointer (some ⟨r, base + off, none⟩) := by
  cases hv with
  | ptr _ _ r base size hφ => exact ⟨r, base, size, hφ, rfl⟩
  | ptrDead _ _ _ hφ => have := R.dead b hφ; simp [live, this] at hl
theorem alive_sref {esz b off len cap : Nat} {ex : Bool} {v : Value} (hv : VR φ St w (.sref esz b off len cap ex) v) (hl : live h b = true) :
    ∃ r base size rcap, φ b = some (.own r base size) ∧ v = .slice (some ⟨r, base + off, none⟩) len rcap ∧ cap ≤ rcap ∧ len ≤ cap ∧ (ex = true → rcap = cap) ∧ base + off + rcap * esz ≤ size := by
  cases hv with
  | sref _ _ _ _ _ _ r base size rcap hφ h1 h2 h3 h4 => exact ⟨r, base, size, rcap, hφ, rfl, h1, h2, h3, h4⟩
  | srefDead _ _ _ _ _ _ _ _ hφ => have := R.dead b hφ; simp [live, this] at hl
theorem alive_map {b : Nat} {v : Value} (hv : VR φ St w (.map b) v) (hl : live h b = true) :
    ∃ r, φ b = some (.obj r) ∧ v = .map (some r) := by
  cases hv with
  | map _ r hφ => exact ⟨r, hφ, rfl⟩
  | mapDead _ _ hφ => have := R.dead b hφ; simp [live, this] at hl

omit R in
theorem equal_step (t : TypeId) (x y : Value) : Op.equal t x y = Op.equalIn (9999 + 1) t x y := rfl

theorem cmpNil_ok {d : TypeDesc} {t : TypeId} (hu : P.underlying t = some d) {yn : Bool} {a b : CV} {r : Bool} (hc : cmpNil h d yn a b = some r) {va vb : Value}
    (ha : VR φ St w a va) (hb : VR φ St w b vb) (hyn : yn = true → ∃ l c, vb = .slice none l c) : (Op.equal t va vb).run P w = .ok r w := by
  rw [equal_step]
  generalize 9999 = D
  unfold cmpNil at hc
  split at hc
  · cases ha; cases hb; simp at hc; subst hc; simp [Op.equalIn, run_underlying hu]
  · cases hb; split at hc
    · rename_i hl; simp at hc; subst hc
      obtain ⟨r, base, size, _, rfl⟩ := alive_ptr R ha hl
      simp [Op.equalIn, run_underlying hu]
    · simp at hc
  · cases ha; split at hc
    · rename_i hl; simp at hc; subst hc
      obtain ⟨r, base, size, _, rfl⟩ := alive_ptr R hb hl
      simp [Op.equalIn, run_underlying hu]
    · simp at hc
  · cases ha; cases hb; simp at hc; subst hc; simp [Op.equalIn, run_underlying hu]
  · cases ha; cases hb; simp at hc; subst hc; simp [Op.equalIn, run_underlying hu]
  · cases ha; cases hb; simp at hc; subst hc; simp [Op.equalIn, run_underlying hu]
  · cases ha; cases hb; simp at hc; subst hc; simp [Op.equalIn, run_underlying hu]
  · cases ha; cases hb; simp at hc; subst hc; simp [Op.equalIn, run_underlying hu]
  · cases hb; split at hc
    · rename_i hl; simp at hc; subst hc
      obtain ⟨r, _, rfl⟩ := alive_map R ha hl
      simp [Op.equalIn, run_underlying hu]
    · simp at hc
  · split at hc
    · rename_i hl; simp at hc; subst hc
      simp at hl
      obtain ⟨l, c, rfl⟩ := hyn hl.1
      obtain ⟨r, base, size, rcap, _, rfl, _⟩ := alive_sref R ha hl.2
      simp [Op.equalIn, run_underlying hu]
    · simp at hc
  · split at hc
    · rename_i hl; simp at hc; subst hc
      obtain ⟨l, c, rfl⟩ := hyn hl
      cases ha with
      | slice _ _ _ _ a cap vs hat =>
        rcases hat with hat | ⟨a', rfl, _⟩
        · simp at hat
        · simp [Op.equalIn, run_underlying hu]
    · simp at hc
  · simp at hc

omit R in
theorem run_eqGuard_free {op : BinOp} {t : TypeId} {x y : Operand} {va vb : Value} (h1 : va = .nilIface → vb = .nilIface → (isConst x || isConst y) = true)
    (h2 : ∀ c d, va = .agg c → vb = .agg d → P.eqGuardType P.depth t = false) : (eqGuard op t x y va vb).run P w = .ok () w := by
  have key : ∀ (hop : op = .eql ∨ op = .neq), (eqGuard op t x y va vb).run P w = .ok () w := by
    intro hop
    rcases hop with rfl | rfl
    all_goals
      unfold eqGuard
      simp only [Bool.not_true, Bool.false_eq_true, if_false]
      cases va <;> (try rfl)
      · cases vb <;> (try rfl)
        have := h1 rfl rfl
        cases x <;> cases y <;> first | rfl | (simp [isConst] at this)
      · cases vb <;> (try rfl)
        have := h2 _ _ rfl rfl
        simp [this]
  cases op <;> first | rfl | exact key (.inl rfl) | exact key (.inr rfl)

def eqShape : Value → Bool
  | .bool _ | .agg _ | .nilIface | .iface _ _ | .pointer _ | .func _ _ _ | .nilFunc | .map _ | .slice _ _ _ => true
  | _ => false

omit R in
theorem binOp_eql (t : TypeId) {va vb : Value} (h : eqShape va = true) : binOp .eql t va vb = (do pure (.bool (← Op.equal t va vb))) := by
  cases va <;> simp [eqShape] at h <;> cases vb <;> rfl
omit R in
theorem binOp_neq (t : TypeId) {va vb : Value} (h : eqShape va = true) : binOp .neq t va vb = (do pure (.bool (!(← Op.equal t va vb)))) := by
  cases va <;> simp [eqShape] at h <;> cases vb <;> rfl

theorem cmpNil_shape {d : TypeDesc} {yn : Bool} {a b : CV} {r : Bool} (hc : cmpNil h d yn a b = some r) {va vb : Value}
    (ha : VR φ St w a va) (hb : VR φ St w b vb) : (∀ c, va ≠ .agg c) ∧ va ≠ .nilIface ∧ eqShape va = true := by
  unfold cmpNil at hc
  split at hc
  all_goals first
    | (cases ha; simp [eqShape]; done)
    | (split at hc
       · rename_i hl; obtain ⟨r, base, size, _, rfl⟩ := alive_ptr R ha hl; simp [eqShape]
       · simp at hc)
    | (split at hc
       · rename_i hl; obtain ⟨r, _, rfl⟩ := alive_map R ha hl; simp [eqShape]
       · simp at hc)
    | (split at hc
       · rename_i hl; simp at hl; obtain ⟨r, base, size, rcap, _, rfl, _⟩ := alive_sref R ha hl.2; simp [eqShape]
       · simp at hc)
    | (simp at hc; done)

include hty
theorem eqC_ok {t : TypeId} {x y : Operand} {a b : CV} {r : Bool} (hc : eqC ty h t (isConst x || isConst y) (isNilSlice y) a b = some r) {va vb : Value}
    (ha : VR φ St w a va) (hb : VR φ St w b vb) (hyn : isNilSlice y = true → ∃ l c, vb = .slice none l c) (op : BinOp) :
    (eqGuard op t x y va vb).run P w = .ok () w ∧ (Op.equal t va vb).run P w = .ok r w ∧ eqShape va = true := by
  unfold eqC at hc
  split at hc
  · simp at hc
  · rename_i i hi
    have f := hty t i hi
    have go : ∀ a b va vb, VR φ St w a va → VR φ St w b vb → eqV ty 40 t a b = some r → (Op.equal t va vb).run P w = .ok r w := by
      intro a b va vb ha hb hc
      rw [equal_step]
      exact eqV_ok hty 40 t a b r va vb hc ha hb _ (by omega)
    split at hc
    · split at hc
      · simp at hc
      · rename_i hg
        refine ⟨run_eqGuard_free (fun e => ?_) (fun _ _ _ _ => by rw [f.eqg]; simpa using hg), go _ _ _ _ ha hb hc, by cases ha; rfl⟩
        subst e; cases ha
    · split at hc
      · rename_i hg
        refine ⟨run_eqGuard_free (fun _ _ => hg) (fun c d e _ => ?_), go _ _ _ _ ha hb hc, by cases ha; rfl⟩
        subst e; cases ha
      · simp at hc
    · refine ⟨run_eqGuard_free (fun e => ?_) (fun c d e _ => ?_), go _ _ _ _ ha hb hc, by cases ha; rfl⟩ <;> (subst e; cases ha)
    · refine ⟨run_eqGuard_free (fun e => ?_) (fun c d e _ => ?_), go _ _ _ _ ha hb hc, by cases ha; rfl⟩ <;> (subst e; cases ha)
    · refine ⟨run_eqGuard_free (fun e => ?_) (fun c d e _ => ?_), go _ _ _ _ ha hb hc, by cases ha; rfl⟩ <;> (subst e; cases ha)
    · refine ⟨run_eqGuard_free (fun _ e => ?_) (fun c d e _ => ?_), go _ _ _ _ ha hb hc, by cases ha; rfl⟩
      · subst e; cases hb
      · subst e; cases ha
    · have hs := cmpNil_shape R hc ha hb
      exact ⟨run_eqGuard_free (fun e => absurd e hs.2.1) (fun c d e _ => absurd e (hs.1 c)), cmpNil_ok R f.und hc ha hb hyn, hs.2.2⟩

/-- A binary operator. -/
theorem binC_ok {op : BinOp} {t : TypeId} {x y : Operand} {a b c : CV} (hc : binC ty h op t (isConst x || isConst y) (isNilSlice y) a b = some c) {va vb : Value}
    (ha : VR φ St w a va) (hb : VR φ St w b vb) (hyn : isNilSlice y = true → ∃ l c, vb = .slice none l c) :
    ∃ v, ((do eqGuard op t x y va vb; binOp op t va vb) : Sem Value).run P w = .ok v w ∧ VR φ St w c v := by
  unfold binC at hc
  split at hc
  · rename_i k x' k' y'
    cases ha; cases hb
    simp only [Sem.run_bind, run_eqGuard_int, Result.andThen_ok]
    split at hc
    · obtain ⟨v, h1, h2⟩ := run_shiftC (P := P) (w := w) _ _ k' _ _ t hc
      exact ⟨v, h1, h2 _ _⟩
    · obtain ⟨v, h1, h2⟩ := run_shiftC (P := P) (w := w) _ _ k' _ _ t hc
      exact ⟨v, h1, h2 _ _⟩
    · split at hc
      · rename_i hk; subst hk
        obtain ⟨v, h1, h2⟩ := run_intC (P := P) (w := w) _ _ _ _ t hc
        exact ⟨v, h1, h2 _ _⟩
      · simp at hc
  · cases ha with | str _ ta h1 => cases hb with | str _ tb h2 =>
    subst h1; subst h2
    obtain ⟨v, h1, h2⟩ := run_strC (P := P) (w := w) _ _ _ t hc
    exact ⟨v, by simp only [Sem.run_bind, run_eqGuard_str, Result.andThen_ok]; exact h1, h2 _ _⟩
  · rename_i n1 n2
    split at hc
    · cases hr : eqC ty h t (isConst x || isConst y) (isNilSlice y) a b with
      | none => simp [hr] at hc
      | some r =>
        simp [hr] at hc; subst hc
        obtain ⟨g1, g2, g3⟩ := eqC_ok hty R hr ha hb hyn .eql
        refine ⟨.bool r, ?_, .bool r⟩
        simp only [Sem.run_bind, g1, Result.andThen_ok, binOp_eql t g3, g2, Sem.run_pure]
    · cases hr : eqC ty h t (isConst x || isConst y) (isNilSlice y) a b with
      | none => simp [hr] at hc
      | some r =>
        simp [hr] at hc; subst hc
        obtain ⟨g1, g2, g3⟩ := eqC_ok hty R hr ha hb hyn .neq
        refine ⟨.bool !r, ?_, .bool !r⟩
        simp only [Sem.run_bind, g1, Result.andThen_ok, binOp_neq t g3, g2, Sem.run_pure]
    · simp at hc
end
end Go.Eng
