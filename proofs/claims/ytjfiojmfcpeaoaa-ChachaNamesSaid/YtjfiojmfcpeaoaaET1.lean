/- Calls whose answers are known already: a long evaluation, cut into theorems. -/
import Derived.Test.YtjfiojmfcpeaoaaEP3
namespace Go.Eng
set_option linter.unusedVariables false

abbrev Memo := FuncId × List CV × CV

def memoFind (f : FuncId) (args : List CV) : List Memo → Option CV
  | [] => none
  | e :: es => if e.1 == f && CV.sames e.2.1 args then some e.2.2 else memoFind f args es

def memo (tab : List Memo) (f : FuncId) : Option (Heap → List CV → Option (CV × Heap)) :=
  if tab.any (fun e => e.1 == f) then some fun H args => (memoFind f args tab).map fun v => (v, H) else none

def Cfg.memo (c : Cfg) (tab : List Memo) : Cfg := { c with sum := Eng.memo tab }

def MemoFact (P : Program) (c : Cfg) (e : Memo) : Prop := PureFact P c e.1 e.2.1 e.2.2 ∧ pureCs e.2.1 = true ∧ pureC e.2.2 = true

inductive MemoOk (P : Program) (c : Cfg) : List Memo → Prop where
  | nil : MemoOk P c []
  | cons {e : Memo} {es : List Memo} (h : MemoFact P c e) (k : MemoOk P c es) : MemoOk P c (e :: es)

section
variable {P : Program} {c : Cfg}

theorem MemoOk.find {f : FuncId} {args : List CV} {v : CV} {tab : List Memo} (h : MemoOk P c tab) : memoFind f args tab = some v → MemoFact P c (f, args, v) := by
  induction h with
  | nil => intro h; simp [memoFind] at h
  | @cons e es h k ih =>
    intro hf
    simp only [memoFind] at hf
    split at hf
    · rename_i hc
      simp only [Bool.and_eq_true, beq_iff_eq] at hc
      simp at hf
      rw [← hf, ← hc.1, ← CV.sames_eq _ _ hc.2]
      exact h
    · exact ih hf

theorem MemoOk.enters {f : FuncId} {tab : List Memo} (h : MemoOk P c tab) : tab.any (fun e => e.1 == f) = true → Enters P f := by
  induction h with
  | nil => intro h; simp at h
  | @cons e es h k ih =>
    intro hf
    simp only [List.any_cons, Bool.or_eq_true, beq_iff_eq] at hf
    rcases hf with hf | hf
    · rw [← hf]; exact h.1.1
    · exact ih hf

theorem Cfg.Ok.memo (hc : c.Ok P) {tab : List Memo} (ht : MemoOk P c tab) : (c.memo tab).Ok P where
  ty := hc.ty
  code := hc.code
  mixed := hc.mixed
  glob := hc.glob
  sum := by
    intro f F hF
    simp only [Cfg.memo, Eng.memo] at hF
    split at hF
    · rename_i ha
      simp at hF; subst hF
      refine ⟨ht.enters ha, fun N φ St H w args us v H' R hg hu hr => ?_⟩
      simp only [Option.map_eq_some_iff] at hr
      obtain ⟨v', hv, he⟩ := hr
      simp at he
      obtain ⟨rfl, rfl⟩ := he
      obtain ⟨h1, h2, h3⟩ := ht.find hv
      exact (h1.call hc.glob h2 h3 H).2 N φ St w us R hg hu
    · simp at hF

def expOne (ty : Ty) (H : Heap) (ts : List TypeId) (v : CV) : Option CV :=
  match ts with
  | [_] => (exVs ty H ts [v]).map oneOf
  | _ => match v with
    | .tuple cs => if cs.length = 1 then none else (exVs ty H ts cs).map oneOf
    | _ => none

/-- A call of its own, its answer taken out of memory. -/
def exPure (c : Cfg) (n : Nat) (ts : List TypeId) (f : FuncId) (args : List CV) : Option CV :=
  match ex c n f none (.call (.fn f) args) [] [] with
  | some (.ret, [v], H') => expOne c.ty H' ts v
  | _ => none

def exPureB (c : Cfg) (n : Nat) (ts : List TypeId) (e : Memo) : Bool :=
  pureCs e.2.1 && match exPure c n ts e.1 e.2.1 with
  | some v => v.same e.2.2
  | none => false

theorem memo_fact (hc : c.Ok P) {tab : List Memo} (ht : MemoOk P c tab) {n : Nat} {ts : List TypeId} {e : Memo} (h : exPureB (c.memo tab) n ts e = true) : MemoFact P c e := by
  obtain ⟨f, args, v⟩ := e
  simp only [exPureB, Bool.and_eq_true] at h
  obtain ⟨ha, h⟩ := h
  split at h <;> (try (simp at h; done))
  rename_i v' hv
  have := CV.same_eq _ _ h
  subst this
  simp only [exPure] at hv
  split at hv <;> (try (simp at hv; done))
  rename_i u H' he
  have hf : CallFact P (c.memo tab) (.fn f) args [] .ret [u] H' := (ex_ok (hc.memo ht) n f none _ _ _ _ _ _ he trivial).1
  have key : ∃ cs cs', oneOf cs = u ∧ exVs c.ty H' ts cs = some cs' ∧ oneOf cs' = v' := by
    unfold expOne at hv
    split at hv
    · simp only [Option.map_eq_some_iff] at hv
      obtain ⟨cs', h1, h2⟩ := hv
      exact ⟨[u], cs', rfl, h1, h2⟩
    · split at hv <;> (try (simp at hv; done))
      rename_i cs
      split at hv <;> (try (simp at hv; done))
      rename_i hl
      simp only [Option.map_eq_some_iff] at hv
      obtain ⟨cs', h1, h2⟩ := hv
      refine ⟨cs, cs', ?_, h1, h2⟩
      match cs, hl with
      | [], _ => rfl
      | [_], hl => simp at hl
      | _ :: _ :: _, _ => rfl
  obtain ⟨cs, cs', rfl, h1, rfl⟩ := key
  have hp : PureFact P (c.memo tab) f args (oneOf cs') := PureFact.of_call hc.ty hf h1
  exact ⟨hp, ha, exVs_pure h1⟩
end
end Go.Eng
