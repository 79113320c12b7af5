/- The evaluator says what the machine does: operations, in the text's order. -/
import Derived.Test.YtjfiojmfcpeaoaaEG4
import Derived.OrdersIn
import Derived.RangeFuncRecord
namespace Go.Eng
set_option linter.unusedVariables false

def Keep (φ : Phi) (H H' : Heap) : Prop := H.length ≤ H'.length ∧ ∀ b, b < H.length → φ b = none → H'[b]? = H[b]?

theorem Keep.refl (φ : Phi) (H : Heap) : Keep φ H H := ⟨Nat.le_refl _, fun _ _ _ => rfl⟩
theorem Keep.trans {n : Nat} {φ φ' : Phi} {St St' : Stab} {w w' : World} {H H' H'' : Heap} (h : Keep φ H H') (F : Frm n φ St w φ' St' w') (hn : n = H.length) (k : Keep φ' H' H'') : Keep φ H H'' :=
  ⟨Nat.le_trans h.1 k.1, fun b hb hn' => (k.2 b (Nat.lt_of_lt_of_le hb h.1) (F.idNew b (by omega) hn')).trans (h.2 b hb hn')⟩
theorem Keep.append (φ : Phi) (H x : Heap) : Keep φ H (H ++ x) := ⟨by simp, fun b hb _ => List.getElem?_append_left hb⟩

def GlobR (c : Cfg) (φ : Phi) (St : Stab) (w : World) : Prop := ∀ i v, c.glob i = some v → VR φ St w v (.pointer (some ⟨i, 0, none⟩))
theorem GlobR.mono {c : Cfg} {φ φ' : Phi} {St St' : Stab} {w w' : World} (m : Mono φ St w φ' St' w') (h : GlobR c φ St w) : GlobR c φ' St' w' := fun i v hv => (h i v hv).mono m

section
variable {P : Program} {N : Nat} {φ : Phi} {St : Stab} {H : Heap} {w : World} {c : Cfg}

theorem undef_ok : VR φ St w undefC undef := .tuple [] [] .nil

theorem ev_ok {tmps : List CV} {a : Act} (hg : GlobR c φ St w) (ht : VRL φ St w tmps a.tmps.toList) (x : Operand) : VR φ St w (ev c.glob tmps x) (a.eval x) := by
  cases x with
  | tmp t =>
    simp only [ev, Act.eval]
    cases hc : tmps[t]? with
    | none =>
      have : a.tmps.size ≤ t := by have := ht.length; simp at this hc; omega
      simp [List.getD, hc, this]; exact undef_ok
    | some x =>
      obtain ⟨v, h1, h2⟩ := ht.get t x hc
      have h1' : a.tmps[t]? = some v := by simpa using h1
      simp [List.getD, hc, h1']; exact h2
  | const v =>
    simp only [ev, Act.eval]
    cases hv : ofV v with
    | none => exact .junk _
    | some x => exact ofV_ok hv
  | global i =>
    simp only [ev, Act.eval]
    cases hv : c.glob i with
    | none => exact .junk _
    | some x => exact hg i x hv
  | func f => exact .func f [] [] [] [] .nil .nil

theorem put_ok {tmps : List CV} {a : Act} (ht : VRL φ St w tmps a.tmps.toList) (dst : Option Tmp) {x : CV} {v : Value} (hv : VR φ St w x v) : VRL φ St w (putC tmps dst x) (a.put dst v).tmps.toList := by
  cases dst with
  | none => exact ht
  | some d => simpa [putC, Act.put] using ht.set d hv

theorem wantedC_ok {ops : Array Oper} {tmps : List CV} {a : Act} {o : Oper} {b : Bool} (ht : VRL φ St w tmps a.tmps.toList) (h : wantedC ops tmps o = some b) : Region.wanted o (yielded ops a.tmps) = b := by
  unfold wantedC at h
  unfold Region.wanted yielded
  cases hg : o.guard with
  | none => simp [hg] at h; simpa using h
  | some p =>
    obtain ⟨j, want⟩ := p
    simp only [hg] at h ⊢
    cases hd : (ops[j]?).bind (·.dst) with
    | none => simp [hd] at h ⊢; exact h
    | some d =>
      simp only [hd] at h ⊢
      simp only [Option.bind_some]
      cases hc : tmps[d]? with
      | none =>
        have : a.tmps[d]? = none := by have := ht.length; simp at this hc ⊢; omega
        simp [hc] at h; simp [this]; exact h
      | some x =>
        obtain ⟨v, h1, h2⟩ := ht.get d x hc
        have h1' : a.tmps[d]? = some v := by simpa using h1
        simp only [hc] at h
        rw [h1']
        split at h <;> rename_i heq <;> simp at heq <;> (try (simp at h; done))
        · subst heq; cases h2; simp at h; simp [← h]
        · subst heq; cases h2; simp at h; simp [← h]

/-- What code leaves. -/
structure Left (N : Nat) (φ : Phi) (St : Stab) (H : Heap) (w : World) (H' : Heap) (φ' : Phi) (St' : Stab) (w' : World) : Prop where
  rel : Rel N φ' St' H' w'
  frm : Frm H.length φ St w φ' St' w'
  keep : Keep φ H H'

theorem Left.refl (R : Rel N φ St H w) : Left N φ St H w H φ St w := ⟨R, Frm.refl _ _ _ _, Keep.refl _ _⟩
theorem Left.trans {H' H'' : Heap} {φ' φ'' : Phi} {St' St'' : Stab} {w' w'' : World} (a : Left N φ St H w H' φ' St' w') (b : Left N φ' St' H' w' H'' φ'' St'' w'') : Left N φ St H w H'' φ'' St'' w'' :=
  ⟨b.rel, a.frm.trans b.frm a.keep.1, a.keep.trans a.frm rfl b.keep⟩

def OutIs (φ : Phi) (St : Stab) (w : World) (tmps : List CV) (ds : List Deferred) : Out → Exit → Act → Prop
  | .normal, .normal, a => VRL φ St w tmps a.tmps.toList ∧ a.defers = ds
  | .exit i, .exit j, a => i = j ∧ VRL φ St w tmps a.tmps.toList ∧ a.defers = ds
  | .goto i, .goto j, a => i = j ∧ VRL φ St w tmps a.tmps.toList ∧ a.defers = ds
  | .ret, .ret, a => VRL φ St w tmps a.tmps.toList ∧ a.defers = ds
  | .panic c, .panic ch, a => (∃ v, ch = [{ v, recovered := false }] ∧ VR φ St w c v) ∧ a.defers = ds
  | _, _, _ => False

/-- A mark among the deferred calls: its block is nobody's, and holds no call. -/
def IsMark (m : Nat) (φ : Phi) (w : World) (d : Deferred) : Prop :=
  ∃ r, d = { target := .collected r, args := #[] } ∧ m ≤ r ∧ w.heap[r]? = some (.deferred (some [])) ∧ ∀ b e, φ b = some e → e.blk ≠ some r

/-- Marks, each of a block of its own. -/
def Marks (m : Nat) (φ : Phi) (w : World) (ms : List Deferred) : Prop := (∀ d ∈ ms, IsMark m φ w d) ∧ ms.Pairwise (fun a b => a.target ≠ b.target)

theorem Marks.nil (m : Nat) (φ : Phi) (w : World) : Marks m φ w [] := ⟨by simp, .nil⟩

theorem IsMark.step {m n : Nat} {φ φ' : Phi} {St St' : Stab} {w w' : World} {d : Deferred} (h : IsMark m φ w d) (f : Frm n φ St w φ' St' w') : IsMark m φ' w' d := by
  obtain ⟨r, h1, h2, h3, h4⟩ := h
  have hr : r < w.heap.size := (Array.getElem?_eq_some_iff.1 h3).1
  refine ⟨r, h1, h2, by rw [f.keepBlk r hr h4]; exact h3, fun b e hb he => ?_⟩
  rcases f.blkNew b e r hb he with ⟨b0, e0, hb0, he0⟩ | hx
  · exact h4 b0 e0 hb0 he0
  · omega
theorem Marks.step {m n : Nat} {φ φ' : Phi} {St St' : Stab} {w w' : World} {ms : List Deferred} (h : Marks m φ w ms) (f : Frm n φ St w φ' St' w') : Marks m φ' w' ms := ⟨fun d hd => (h.1 d hd).step f, h.2⟩
theorem Marks.le {m m' : Nat} {φ : Phi} {w : World} {ms : List Deferred} (h : Marks m φ w ms) (hm : m' ≤ m) : Marks m' φ w ms :=
  ⟨fun d hd => let ⟨r, h1, h2, h3⟩ := h.1 d hd; ⟨r, h1, by omega, h3⟩, h.2⟩
/-- New marks ahead of older ones. -/
theorem Marks.append {m m' : Nat} {φ : Phi} {w : World} {ms ms' : List Deferred} (h : Marks m φ w ms) (h' : Marks m' φ w ms') (hm : m' ≤ m) (hlt : ∀ d ∈ ms', ∃ r, d.target = .collected r ∧ r < m) : Marks m' φ w (ms ++ ms') := by
  refine ⟨fun d hd => ?_, List.pairwise_append.2 ⟨h.2, h'.2, fun a ha b hb => ?_⟩⟩
  · rcases List.mem_append.1 hd with hd | hd
    · exact (h.le hm).1 d hd
    · exact h'.1 d hd
  · obtain ⟨r, h1, h2, _⟩ := h.1 a ha
    obtain ⟨r', h1', h2'⟩ := hlt b hb
    rw [h1, h1']
    intro e
    simp at e
    omega

/-- What code ends with: marks may have come to the deferred calls. -/
def Post (N : Nat) (φ : Phi) (St : Stab) (H : Heap) (w : World) (ds : List Deferred) (out : Out) (tmps : List CV) (H' : Heap) (e : Exit) (a : Act) (w' : World) : Prop :=
  ∃ φ' St', Left N φ St H w H' φ' St' w' ∧ ∃ ms, Marks w.heap.size φ' w' ms ∧ OutIs φ' St' w' tmps (ms ++ ds) out e a

theorem Post.plain {φ' : Phi} {St' : Stab} {H' : Heap} {w' : World} {ds : List Deferred} {out : Out} {tmps : List CV} (l : Left N φ St H w H' φ' St' w') {e : Exit} {a : Act} (o : OutIs φ' St' w' tmps ds out e a) :
    Post N φ St H w ds out tmps H' e a w' := ⟨φ', St', l, [], .nil _ _ _, by simpa using o⟩

theorem Post.trans {φ' : Phi} {St' : Stab} {H' H'' : Heap} {w' : World} {ds ms : List Deferred} {out : Out} {tmps : List CV} (l : Left N φ St H w H' φ' St' w') (hm : Marks w.heap.size φ' w' ms) {e : Exit} {a : Act} {w'' : World}
    (p : Post N φ' St' H' w' (ms ++ ds) out tmps H'' e a w'') : Post N φ St H w ds out tmps H'' e a w'' := by
  obtain ⟨φ'', St'', l2, ms2, hm2, o⟩ := p
  refine ⟨φ'', St'', l.trans l2, ms2 ++ ms, hm2.append (hm.step l2.frm) l.frm.size fun d hd => ?_, by rw [List.append_assoc]; exact o⟩
  obtain ⟨r, h1, _, h3, _⟩ := hm.1 d hd
  exact ⟨r, by rw [h1], (Array.getElem?_eq_some_iff.1 h3).1⟩
theorem Post.trans0 {φ' : Phi} {St' : Stab} {H' H'' : Heap} {w' : World} {ds : List Deferred} {out : Out} {tmps : List CV} (l : Left N φ St H w H' φ' St' w') {e : Exit} {a : Act} {w'' : World}
    (p : Post N φ' St' H' w' ds out tmps H'' e a w'') : Post N φ St H w ds out tmps H'' e a w'' := Post.trans (ms := []) l (.nil _ _ _) p

/-- All frames, those of a round that is given. -/
def Fw (ro : Option Nat) : Fence := { Fence.wide with round := ro }
theorem room_fw (ro : Option Nat) (n : Nat) : (Fw ro).room n := fun _ h => by simp [Fw, Fence.wide] at h

/-- The round that code is in. -/
def RdOk (φ : Phi) : Option Nat → Option Nat → Prop
  | none, none => True
  | some b, some l => φ b = some (.obj l) ∨ φ b = some .dead
  | _, _ => False
theorem RdOk.mono {φ φ' : Phi} {St St' : Stab} {w w' : World} (m : Mono φ St w φ' St' w') {rd ro : Option Nat} (h : RdOk φ rd ro) : RdOk φ' rd ro := by
  cases rd <;> cases ro <;> simp only [RdOk] at h ⊢
  rename_i b l
  have e := m.ext b
  rcases h with h | h
  · rw [h] at e; exact e.obj
  · rw [h] at e; exact .inr e.dead

/-- A call's answer. -/
def CallPost (N : Nat) (φ : Phi) (St : Stab) (H : Heap) (w : World) (out : Out) (vs : List CV) (H' : Heap) : Ending → World → Prop
  | .returned v, w' => ∃ φ' St', Left N φ St H w H' φ' St' w' ∧ ∃ c, out = .ret ∧ vs = [c] ∧ VR φ' St' w' c v
  | .panicked ch, w' => ∃ φ' St', Left N φ St H w H' φ' St' w' ∧ ∃ c v, out = .panic c ∧ ch = [{ v, recovered := false }] ∧ VR φ' St' w' c v
  | .outgrown, _ => False

def Enters (P : Program) (f : FuncId) : Prop := ∀ (args : Array Value) (w : World), (callFunc f args).run P w = .ok (.enter f args) w

/-- What a call does. -/
def CallFact (P : Program) (c : Cfg) (f : Who) (args : List CV) (H : Heap) (out : Out) (vs : List CV) (H' : Heap) : Prop :=
  match f with
  | .fn f => Enters P f ∧ ∀ N φ St w us, Rel N φ St H w → GlobR c φ St w → VRL φ St w args us → Calls P f us.toArray w (CallPost N φ St H w out vs H')
  | .yl l => ∀ N φ St w us r, Rel N φ St H w → GlobR c φ St w → VRL φ St w args us → φ l = some (.obj r) → ∃ g ts a b, (Instr.yield r us.toArray).run P w = .ok (.round r g ts a b) w ∧
      RoundIn Fence.wide 0 P r g ts a b w (CallPost N φ St H w out vs H')

/-- A way to answer calls. -/
def CallOk (P : Program) (c : Cfg) (call : Who → List CV → Heap → Ans) : Prop :=
  ∀ f args H out vs H', call f args H = some (out, vs, H') → CallFact P c f args H out vs H' ∧ ∀ l, f = .yl l → ∃ o, H[l]? = some o ∧ ∀ N φ St w, Rel N φ St H w → φ l ≠ some .dead

theorem Rel.longer (R : Rel N φ St H w) (x : Heap) : Rel N φ St (H ++ x) w := by
  have hl : ∀ b e, φ b = some e → (H ++ x)[b]? = H[b]? := fun b e hb => List.getElem?_append_left (R.dom b e hb)
  refine ⟨fun b e hb => by have := R.dom b e hb; simp; omega, fun b hb => by rw [hl b _ hb]; exact R.dead b hb, ?_, ?_, ?_, R.inj, R.stLt, R.stOwn, R.stTail, R.start, fun k u hk => by rw [hl k _ hk]; exact R.void k u hk⟩
  · intro b r base size hb; rw [hl b _ hb]; exact R.own b r base size hb
  · intro b r used u size hb; rw [hl b _ hb]; exact R.tail b r used u size hb
  · intro b r hb; rw [hl b _ hb]; exact R.obj b r hb

theorem called_ok {ρ : Operand → CV} {ρv : Operand → Value} {o : Oper} {f : FuncId} {args : List CV} (hc : calledC ρ o.op = some (.who (.fn f) args)) (hρ : ∀ x ∈ o.op.operands, VR φ St w (ρ x) (ρv x)) (hent : Enters P f) :
    ∃ us, (execOp ρv o).run P w = .ok (.enter f us.toArray) w ∧ VRL φ St w args us := by
  unfold calledC at hc
  unfold execOp
  cases ho : o.op <;> rw [ho] at hc hρ <;> (try (simp at hc; done)) <;> dsimp only at hc ⊢
  case call cl =>
    have harg : ∀ x ∈ cl.args.toList, VR φ St w (ρ x) (ρv x) := fun x hx => hρ x (by simp [Op.operands, Call.operands]; exact .inr (by simpa using hx))
    split at hc <;> (try (simp at hc; done))
    · rename_i g hcal
      have hf : VR φ St w (ρ g) (ρv g) := hρ g (by simp [Op.operands, Call.operands, hcal])
      split at hc <;> (try (simp at hc; done))
      rename_i g0 first captured hg0
      simp at hc; obtain ⟨rfl, rfl⟩ := hc
      rw [hg0] at hf
      generalize hgv : ρv g = gv at hf
      cases hf with | func _ _ _ us vs h1 h2 =>
      refine ⟨us ++ cl.args.toList.map ρv ++ vs, ?_, by have := (h1.append (VRL.ops harg)).append h2; rwa [List.append_assoc] at this⟩
      simp [resolve, hcal, hgv, Deferred.ofValue, invoke]
      rw [hent]
      congr 2
      apply Array.ext'
      simp
    · split at hc <;> (try (simp at hc; done))
      split at hc <;> (try (simp at hc; done))
  case panic x => split at hc <;> (try (simp at hc; done))

theorem yielded_ok {ρ : Operand → CV} {ρv : Operand → Value} {o : Oper} {l : Nat} {args : List CV} (hc : calledC ρ o.op = some (.who (.yl l) args)) (hρ : ∀ x ∈ o.op.operands, VR φ St w (ρ x) (ρv x)) :
    ∃ us r, (execOp ρv o).run P w = (Instr.yield r us.toArray).run P w ∧ VRL φ St w args us ∧ (φ l = some (.obj r) ∨ φ l = some .dead) := by
  unfold calledC at hc
  unfold execOp
  cases ho : o.op <;> rw [ho] at hc hρ <;> (try (simp at hc; done)) <;> dsimp only at hc ⊢
  case call cl =>
    have harg : ∀ x ∈ cl.args.toList, VR φ St w (ρ x) (ρv x) := fun x hx => hρ x (by simp [Op.operands, Call.operands]; exact .inr (by simpa using hx))
    split at hc <;> (try (simp at hc; done))
    · rename_i g hcal
      have hf : VR φ St w (ρ g) (ρv g) := hρ g (by simp [Op.operands, Call.operands, hcal])
      split at hc <;> (try (simp at hc; done))
      rename_i l0 hg0
      simp at hc; obtain ⟨rfl, rfl⟩ := hc
      rw [hg0] at hf
      generalize hgv : ρv g = gv at hf
      have key : ∀ r, gv = .func (.yield r) #[] #[] → (Sem.run P (do
          let d ← resolve ρv cl o.type
          invoke d.target d.args) w) = (Instr.yield r (cl.args.toList.map ρv).toArray).run P w := by
        intro r e
        subst e
        have : (cl.args.map ρv) = (cl.args.toList.map ρv).toArray := by apply Array.ext'; simp
        simp [resolve, hcal, hgv, Deferred.ofValue, invoke]
        rw [this]
      cases hf with
      | yield _ r h => exact ⟨_, r, key r rfl, VRL.ops harg, .inl h⟩
      | yieldDead _ r h => exact ⟨_, r, key r rfl, VRL.ops harg, .inr h⟩
    · split at hc <;> (try (simp at hc; done))
      split at hc <;> (try (simp at hc; done))
  case panic x => split at hc <;> (try (simp at hc; done))

theorem paniced_ok {ρ : Operand → CV} {ρv : Operand → Value} {o : Oper} {v : CV} (hc : calledC ρ o.op = some (.panic v)) (hρ : ∀ x ∈ o.op.operands, VR φ St w (ρ x) (ρv x)) :
    ∃ u, (execOp ρv o).run P w = .halt (.panic u) w ∧ VR φ St w v u := by
  unfold calledC at hc
  unfold execOp
  cases ho : o.op <;> rw [ho] at hc hρ <;> (try (simp at hc; done)) <;> dsimp only at hc ⊢
  case call cl =>
    have harg : ∀ x ∈ cl.args.toList, VR φ St w (ρ x) (ρv x) := fun x hx => hρ x (by simp [Op.operands, Call.operands]; exact .inr (by simpa using hx))
    split at hc <;> (try (simp at hc; done))
    · split at hc <;> (try (simp at hc; done))
    · rename_i hcal
      split at hc <;> (try (simp at hc; done))
      rename_i x hx
      have hv := harg x (by simp [hx])
      split at hc <;> (try (simp at hc; done))
      rename_i t u hu
      simp at hc; subst hc
      rw [hu] at hv
      generalize hgv : ρv x = gv at hv
      cases hv with | iface _ _ y hy =>
      have ha : cl.args = #[x] := by apply Array.ext'; simpa using hx
      refine ⟨.iface t y, ?_, .iface _ _ _ hy⟩
      simp [resolve, hcal, ha, invoke, builtin, Instr.panic, hgv, goPanic]
  case panic x =>
    have hv := hρ x (by simp [Op.operands])
    split at hc <;> (try (simp at hc; done))
    rename_i t u hu
    simp at hc; subst hc
    rw [hu] at hv
    generalize hgv : ρv x = gv at hv
    cases hv with | iface _ _ y hy =>
    exact ⟨.iface t y, by simp [Instr.panic, goPanic], .iface _ _ _ hy⟩

theorem Keep.set {b : Nat} (hb : φ b ≠ none) (o : HObj) : Keep φ H (H.set b o) :=
  ⟨by simp, fun b' _ hn => List.getElem?_set_ne fun e => by subst e; exact hb hn⟩
theorem Keep.append' {H' : Heap} (k : Keep φ H H') (x : Heap) : Keep φ H (H' ++ x) :=
  ⟨by simp; have := k.1; omega, fun b hb hn => by rw [List.getElem?_append_left (Nat.lt_of_lt_of_le hb k.1)]; exact k.2 b hb hn⟩
theorem ptr_in {b off : Nat} {v : Value} (h : VR φ St w (.ptr b off) v) : φ b ≠ none := by
  cases h with
  | ptr _ _ _ _ _ h => rw [h]; simp
  | ptrDead _ _ _ h => rw [h]; simp
theorem sref_in {esz b off len cap : Nat} {ex : Bool} {v : Value} (h : VR φ St w (.sref esz b off len cap ex) v) : φ b ≠ none := by
  cases h with
  | sref _ _ _ _ _ _ _ _ _ _ h => rw [h]; simp
  | srefDead _ _ _ _ _ _ _ _ h => rw [h]; simp

variable (hty : c.ty.Ok P)
include hty

omit hty in
theorem loud_keep {lit : Bool} {ρ : Operand → CV} {ρv : Operand → Value} {o : Op} {x : CV} {h' : Heap} (R : Rel N φ St H w) (hq : opL c.ty lit H ρ o = some (x, h')) (hρ : ∀ x ∈ o.operands, VR φ St w (ρ x) (ρv x)) : Keep φ H h' := by
  cases o <;> simp only [opL] at hq <;> (try (simp at hq; done))
  case store t a x =>
    have ha := hρ a (by simp [Op.operands])
    cases hst : storeC c.ty H t (ρ a) (ρ x) with
    | none => simp [hst] at hq
    | some hh =>
      simp [hst] at hq; obtain ⟨_, rfl⟩ := hq
      unfold storeC at hst
      split at hst <;> (try (simp at hst; done))
      rename_i j b off _ hx
      rw [hx] at ha
      split at hst <;> (try (simp at hst; done))
      split at hst <;> (try (simp at hst; done))
      simp at hst; subst hst
      exact Keep.set (ptr_in ha) _
  case mapUpdate t m k v =>
    have ha := hρ m (by simp [Op.operands])
    cases hst : mapUpdateC c.ty H t (ρ m) (ρ k) (ρ v) with
    | none => simp [hst] at hq
    | some hh =>
      simp [hst] at hq; obtain ⟨_, rfl⟩ := hq
      unfold mapUpdateC at hst
      split at hst <;> (try (simp at hst; done))
      rename_i i b _ hx
      rw [hx] at ha
      have hb : φ b ≠ none := by
        generalize ρv m = mv at ha
        cases ha with
        | map _ r hb => rw [hb]; simp
        | mapDead _ r hb => rw [hb]; simp
      split at hst <;> (try (simp at hst; done))
      split at hst <;> (try (simp at hst; done))
      split at hst <;> (try (simp at hst; done))
      split at hst <;> (try (simp at hst; done))
      split at hst <;> (try (simp at hst; done))
      all_goals
        simp at hst; subst hst
        exact Keep.set hb _
  case call cl =>
    have harg : ∀ x ∈ cl.args.toList, VR φ St w (ρ x) (ρv x) := fun x hx => hρ x (by simp [Op.operands, Call.operands]; exact .inr (by simpa using hx))
    split at hq <;> (try (simp at hq; done))
    · rename_i s x t u hcal hx ht
      have hs := harg s (by simp [hx])
      unfold appendC at hq
      split at hq <;> (try (simp at hq; done))
      split at hq <;> (try (simp at hq; done))
      split at hq <;> (try (simp at hq; done))
      split at hq <;> (try (simp at hq; done))
      split at hq <;> (try (simp at hq; done))
      split at hq
      · split at hq <;> (try (simp at hq; done))
        · rename_i esz xs tok full hsl
          rw [hsl] at hs
          split at hq
          · split at hq
            · simp at hq; obtain ⟨_, rfl⟩ := hq; exact Keep.append _ _ _
            · split at hq <;> (try (simp at hq; done))
              rename_i k
              have hk : φ k ≠ none := by
                generalize ρv s = sv at hs
                cases hs with | slice _ _ _ _ _ _ _ _ _ _ _ _ htok => exact htok.1
              split at hq <;> (try (simp at hq; done))
              split at hq <;> (try (simp at hq; done))
              simp at hq; obtain ⟨_, rfl⟩ := hq
              exact Keep.set hk _
          · simp at hq; obtain ⟨_, rfl⟩ := hq; exact Keep.refl _ _
        · simp at hq; obtain ⟨_, rfl⟩ := hq; exact Keep.refl _ _
      split at hq <;> (try (simp at hq; done))
      split at hq <;> (try (simp at hq; done))
      · rename_i esz xs tok full hsl
        rw [hsl] at hs
        split at hq
        · split at hq <;> simp at hq <;> (obtain ⟨_, rfl⟩ := hq; exact Keep.append _ _ _)
        · split at hq <;> (try (simp at hq; done))
          rename_i k
          have hk : φ k ≠ none := by
            generalize ρv s = sv at hs
            cases hs with | slice _ _ _ _ _ _ _ _ _ _ _ _ htok => exact htok.1
          split at hq <;> (try (simp at hq; done))
          split at hq <;> (try (simp at hq; done))
          simp at hq; obtain ⟨_, rfl⟩ := hq
          exact Keep.set hk _
      · rename_i esz b off len cap ex hsl
        rw [hsl] at hs
        have hb : φ b ≠ none := sref_in hs
        split at hq <;> simp at hq <;> (obtain ⟨_, rfl⟩ := hq; exact (Keep.set hb _).append' _)
    · rename_i d s t u hcal hx ht
      have hs := harg d (by simp [hx])
      unfold copyC at hq
      split at hq <;> (try (simp at hq; done))
      split at hq <;> (try (simp at hq; done))
      split at hq <;> (try (simp at hq; done))
      split at hq <;> (try (simp at hq; done))
      split at hq <;> (try (simp at hq; done))
      · rename_i hsl
        rw [hsl] at hs
        split at hq <;> (try (simp at hq; done))
        dsimp only at hq
        split at hq <;> (try (simp at hq; done))
        simp at hq; obtain ⟨_, rfl⟩ := hq
        exact Keep.set (sref_in hs) _
      · simp at hq; obtain ⟨_, rfl⟩ := hq
        exact Keep.refl _ _

/-- What is evaluated defers nothing. -/
def plainOp : Op → Bool
  | .defer _ => false
  | _ => true

omit hty in
theorem semAt_plain {o : Oper} (h : plainOp o.op = true) (ro : Option Nat) (ρ : Operand → Value) : o.semAt ro ρ = execOp ρ o :=
  Oper.semAt_eq ro ρ o fun c hc => by rw [hc] at h; simp [plainOp] at h

omit hty in
theorem Q_plain {h : Heap} {n : Nat} {ρ : Operand → CV} {o : Op} {r : CV × Option HObj} {ty : Ty} (hq : opQ ty h n ρ o = some r) : plainOp o = true := by
  cases o <;> first | rfl | (simp [opQ] at hq; done)

omit hty in
theorem step_plain {call : Who → List CV → Heap → Ans} {lit : Bool} {h : Heap} {ρ : Operand → CV} {o : Op} {r : Stp} (hq : opStep c lit call h ρ o = some r) : plainOp o = true := by
  cases o <;> first | rfl | (simp [opStep, opQ, opL, calledC] at hq; done)

/-- A quiet operation, made by the machine at a heap that has its place. -/
theorem quiet_wp {ro : Option Nat} {h : Heap} {n : Nat} {ρ : Operand → CV} {a : Act} {o : Oper} {x : CV} {new : Option HObj} (hq : opQ c.ty h n ρ o.op = some (x, new))
    (R : Rel N φ St H w) (hs : Sub h H) (hnew : ∀ b, new = some b → φ n = none ∧ H[n]? = some b) (hρ : ∀ x ∈ o.op.operands, VR φ St w (ρ x) (a.eval x)) {next : Act → World → Prop} {Q : Exit → Act → World → Prop}
    (hn : ∀ φ' w' v, Rel N φ' St H w' → Frm n φ St w φ' St w' → (∀ b, b ≠ n → φ' b = φ b) → VR φ' St w' x v → next (a.put o.dst v) w') : o.wpIn (Fw ro) 0 P a w next Q := by
  obtain ⟨v, w', φ', h1, h2, h3, h4, h5⟩ := opQ_ok hty R hs hq hnew hρ (fun _ => rfl)
  refine ⟨fun _ _ => trivial, ?_⟩
  rw [semAt_plain (Q_plain hq), h1]
  exact hn φ' w' v h2 h4 h5 h3

omit hty in
theorem callsIn_fw {ro : Option Nat} {n : Nat} {f : FuncId} {args : Array Value} {w : World} {R : Ending → World → Prop} (h : Calls P f args w R) : CallsIn (Fw ro) n P f args w R := by
  have := callsIn_wide (n := n) |>.2 h
  exact this
omit hty in
theorem roundIn_fw {ro : Option Nat} {n m : Nat} {r : Nat} {g : FuncId} {ts : Array Value} {x y : Code} {w : World} {R : Ending → World → Prop} (h : RoundIn Fence.wide m P r g ts x y w R) : RoundIn (Fw ro) n P r g ts x y w R :=
  ⟨trivial, fun c cs _ => h.2 c cs (room_wide _)⟩

theorem loud_wp {ro : Option Nat} {call : Who → List CV → Heap → Ans} (hcall : CallOk P c call) {lit : Bool} {ρ : Operand → CV} {a : Act} {o : Oper} {x : CV} {h' : Heap} (hq : opStep c lit call H ρ o.op = some (.loud x h'))
    (R : Rel N φ St H w) (hg : GlobR c φ St w) (hρ : ∀ x ∈ o.op.operands, VR φ St w (ρ x) (a.eval x)) {next : Act → World → Prop} {Q : Exit → Act → World → Prop}
    (hn : ∀ φ' St' w' v, Left N φ St H w h' φ' St' w' → VR φ' St' w' x v → next (a.put o.dst v) w') : o.wpIn (Fw ro) 0 P a w next Q := by
  refine ⟨fun _ _ => trivial, ?_⟩
  rw [semAt_plain (step_plain hq)]
  unfold opStep at hq
  split at hq <;> (try (simp at hq; done))
  split at hq
  · rename_i x' h'' hl
    simp at hq; obtain ⟨rfl, rfl⟩ := hq
    have hk := loud_keep R hl hρ
    obtain ⟨r, w', φ', St', h1, h2, h3, h4⟩ := opL_ok hty R hl hρ
    rw [h1]
    rcases h2 with ⟨rfl, rfl⟩ | ⟨v, rfl, hv⟩
    · exact hn φ' St' w' undef ⟨h3, h4, hk⟩ undef_ok
    · exact hn φ' St' w' v ⟨h3, h4, hk⟩ hv
  · split at hq <;> (try (simp at hq; done))
    rename_i f args hcd
    split at hq <;> (try (simp at hq; done))
    rename_i v1 h1 hans
    simp at hq; obtain ⟨rfl, rfl⟩ := hq
    obtain ⟨hC, hd⟩ := hcall f args H _ _ _ hans
    cases f with
    | fn f =>
      obtain ⟨hent, hC⟩ := hC
      obtain ⟨us, hrun, hus⟩ := called_ok (P := P) (o := o) (ρv := a.eval) (w := w) hcd hρ hent
      rw [hrun]
      rw [Oper.uponIn_enter]
      refine ⟨by simp [Fw, Fence.wide], callsIn_fw ((hC N φ St _ us R hg hus).mono ?_)⟩
      intro e w' he
      cases e with
      | returned v =>
        obtain ⟨φ', St', hl, c1, h2, h3, h4⟩ := he
        simp at h3; subst h3
        exact hn φ' St' w' v hl h4
      | panicked ch =>
        obtain ⟨φ', St', hl, c1, v, h2, _⟩ := he
        simp at h2
      | outgrown => exact he.elim
    | yl l =>
      obtain ⟨us, r, hrun, hus, hφ⟩ := yielded_ok (P := P) (o := o) (ρv := a.eval) (w := w) hcd hρ
      obtain ⟨_, _, hdead⟩ := hd l rfl
      have hφ := hφ.resolve_right (hdead N φ St w R)
      obtain ⟨g, ts, x1, y1, hy, hR⟩ := hC N φ St w us r R hg hus hφ
      rw [hrun, hy]
      rw [Oper.uponIn_round]
      refine ⟨by simp [Fw, Fence.wide], (roundIn_fw hR).mono ?_⟩
      intro e w' he
      cases e with
      | returned v =>
        obtain ⟨φ', St', hl, c1, h2, h3, h4⟩ := he
        simp at h3; subst h3
        exact hn φ' St' w' v hl h4
      | panicked ch =>
        obtain ⟨φ', St', hl, c1, v, h2, _⟩ := he
        simp at h2
      | outgrown => exact he.elim

omit hty in
theorem panic_wp {ro : Option Nat} {call : Who → List CV → Heap → Ans} (hcall : CallOk P c call) {lit : Bool} {ρ : Operand → CV} {a : Act} {o : Oper} {x : CV} {h' : Heap} (hq : opStep c lit call H ρ o.op = some (.panic x h'))
    (R : Rel N φ St H w) (hg : GlobR c φ St w) (hρ : ∀ x ∈ o.op.operands, VR φ St w (ρ x) (a.eval x)) {next : Act → World → Prop} {Q : Exit → Act → World → Prop}
    (hn : ∀ φ' St' w' v, Left N φ St H w h' φ' St' w' → VR φ' St' w' x v → Q (.panic [{ v, recovered := false }]) a w') : o.wpIn (Fw ro) 0 P a w next Q := by
  refine ⟨fun _ _ => trivial, ?_⟩
  rw [semAt_plain (step_plain hq)]
  unfold opStep at hq
  split at hq <;> (try (simp at hq; done))
  split at hq <;> (try (simp at hq; done))
  split at hq <;> (try (simp at hq; done))
  · rename_i f args hcd
    split at hq <;> (try (simp at hq; done))
    rename_i v1 h1 _ hans
    simp at hq; obtain ⟨rfl, rfl⟩ := hq
    obtain ⟨hC, hd⟩ := hcall f args H _ _ _ hans
    cases f with
    | fn f =>
      obtain ⟨hent, hC⟩ := hC
      obtain ⟨us, hrun, hus⟩ := called_ok (P := P) (o := o) (ρv := a.eval) (w := w) hcd hρ hent
      rw [hrun]
      rw [Oper.uponIn_enter]
      refine ⟨by simp [Fw, Fence.wide], callsIn_fw ((hC N φ St _ us R hg hus).mono ?_)⟩
      intro e w' he
      cases e with
      | returned v =>
        obtain ⟨φ', St', hl, c1, h2, _⟩ := he
        simp at h2
      | panicked ch =>
        obtain ⟨φ', St', hl, c1, v, h2, rfl, h4⟩ := he
        simp at h2; subst h2
        exact hn φ' St' w' v hl h4
      | outgrown => exact he.elim
    | yl l =>
      obtain ⟨us, r, hrun, hus, hφ⟩ := yielded_ok (P := P) (o := o) (ρv := a.eval) (w := w) hcd hρ
      obtain ⟨_, _, hdead⟩ := hd l rfl
      have hφ := hφ.resolve_right (hdead N φ St w R)
      obtain ⟨g, ts, x1, y1, hy, hR⟩ := hC N φ St w us r R hg hus hφ
      rw [hrun, hy]
      rw [Oper.uponIn_round]
      refine ⟨by simp [Fw, Fence.wide], (roundIn_fw hR).mono ?_⟩
      intro e w' he
      cases e with
      | returned v =>
        obtain ⟨φ', St', hl, c1, h2, _⟩ := he
        simp at h2
      | panicked ch =>
        obtain ⟨φ', St', hl, c1, v, h2, rfl, h4⟩ := he
        simp at h2; subst h2
        exact hn φ' St' w' v hl h4
      | outgrown => exact he.elim
  · rename_i v1 hcd
    simp at hq; obtain ⟨rfl, rfl⟩ := hq
    obtain ⟨v, hrun, hv⟩ := paniced_ok (P := P) (o := o) (ρv := a.eval) (w := w) hcd hρ
    rw [hrun]
    exact hn φ St w v (Left.refl R) hv
end
end Go.Eng
