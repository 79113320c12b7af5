/- What each kind of code does, one behind the other. -/
import Derived.Test.YtjfiojmfcpeaoaaEH3c
namespace Go.Eng
set_option linter.unusedVariables false

section
variable {P : Program} {ro : Option Nat}

theorem fenced_fw (m : Machine) : m.fenced P (Fw ro) := fenced_wide P m

/-- A loop under way. -/
def loopWp (ro : Option Nat) (P : Program) (c : Code) (Q : Exit → Act → World → Prop) (a : Act) (w : World) : Prop :=
  ∀ (b : Frame) (k : List Item) (cs : List Frame), b.roundOf = ro → ∃ e a' w', Q e a' w' ∧ ArrivesIn (Machine.fenced P (Fw ro)) P (lone (b.atR a (.code c :: .inLoop c :: k)) cs w) b k cs e a' w'

def scopeWp (ro : Option Nat) (P : Program) (c cur : Code) (Q : Exit → Act → World → Prop) (a : Act) (w : World) : Prop :=
  ∀ (b : Frame) (k : List Item) (cs : List Frame), b.roundOf = ro → ∃ e a' w', Q e a' w' ∧ ArrivesIn (Machine.fenced P (Fw ro)) P (lone (b.atR a (.code cur :: .inScope c :: k)) cs w) b k cs e a' w'

theorem stepR_scope {b : Frame} {a : Act} {k : List Item} {cs : List Frame} {w : World} {c : Code} : step P (lone (b.atR a (.code (.scope c) :: k)) cs w) = .next (lone (b.atR a (.code c :: .inScope c :: k)) cs w) :=
  step_lone_go (by simp [stepG, stepG.exec, Frame.atR])
theorem stepR_inScope {b : Frame} {a : Act} {k : List Item} {cs : List Frame} {w : World} {c : Code} : step P (lone (b.atR a (.inScope c :: k)) cs w) = .next (lone (b.atR a k) cs w) :=
  step_lone_go (by simp [stepG, stepG.exec, Frame.atR])

variable {Q : Exit → Act → World → Prop} {a : Act} {w : World}

theorem wp_of_loopWp {c : Code} (h : loopWp ro P c Q a w) : (Code.loop c).wpIn (Fw ro) 0 P Q a w := by
  intro b k cs hro _ _
  obtain ⟨e, a', w', hq, harr⟩ := h b k cs hro
  exact ⟨e, a', w', hq, .of_steps (.one (fenced_fw _) stepR_loop) harr⟩
theorem loopWp_of {c : Code} (h : c.wpIn (Fw ro) 0 P (Exit.then (loopWp ro P c Q) Q) a w) : loopWp ro P c Q a w := by
  intro b k cs hro
  obtain ⟨e, a₁, w₁, hq, harr⟩ := h b (.inLoop c :: k) cs hro trivial (room_fw _ _)
  cases e with
  | normal =>
    obtain ⟨e₂, a₂, w₂, hq₂, harr₂⟩ := hq b k cs hro
    exact ⟨e₂, a₂, w₂, hq₂, .of_steps (StepsIn.trans harr (.one (fenced_fw _) stepR_inLoop)) harr₂⟩
  | exit id => exact ⟨_, a₁, w₁, hq, .pass (x := .inLoop c) rfl (fun _ _ => .inl (by simp)) harr⟩
  | goto l => exact ⟨_, a₁, w₁, hq, .pass (x := .inLoop c) rfl (fun _ _ => .inl (by simp)) harr⟩
  | ret => exact ⟨_, a₁, w₁, hq, .pass (x := .inLoop c) rfl (fun _ _ => .inl (by simp)) harr⟩
  | panic ch => exact ⟨_, a₁, w₁, hq, .pass (x := .inLoop c) rfl (fun _ _ => .inl (by simp)) harr⟩
  | outgrown => exact ⟨_, a₁, w₁, hq, .pass (x := .inLoop c) rfl (fun _ _ => .inl (by simp)) harr⟩

theorem wp_of_scopeWp {c : Code} (h : scopeWp ro P c c Q a w) : (Code.scope c).wpIn (Fw ro) 0 P Q a w := by
  intro b k cs hro _ _
  obtain ⟨e, a', w', hq, harr⟩ := h b k cs hro
  exact ⟨e, a', w', hq, .of_steps (.one (fenced_fw _) stepR_scope) harr⟩

/-- What a scope makes of a jump. -/
def Exit.jumped (ro : Option Nat) (P : Program) (c : Code) (Q : Exit → Act → World → Prop) : Exit → Act → World → Prop
  | .goto l, a, w => match findLabel c l with
    | some rest => scopeWp ro P c rest Q a w
    | none => Q (.goto l) a w
  | e, a, w => Q e a w

theorem scopeWp_of {c cur : Code} (h : cur.wpIn (Fw ro) 0 P (Exit.jumped ro P c Q) a w) : scopeWp ro P c cur Q a w := by
  intro b k cs hro
  obtain ⟨e, a₁, w₁, hq, harr⟩ := h b (.inScope c :: k) cs hro trivial (room_fw _ _)
  cases e with
  | normal => exact ⟨.normal, a₁, w₁, hq, StepsIn.trans harr (.one (fenced_fw _) stepR_inScope)⟩
  | exit id =>
    have hx : exitTo id (.inScope c :: k) = exitTo id k := by simp [exitTo]
    exact ⟨.exit id, a₁, w₁, hq, fun k' hk => harr.1 k' (by rw [hx]; exact hk), fun hr hk => harr.2 hr (by rw [hx]; exact hk)⟩
  | goto l =>
    simp only [Exit.jumped] at hq
    split at hq
    · rename_i rest hf
      obtain ⟨e₂, a₂, w₂, hq₂, harr₂⟩ := hq b k cs hro
      exact ⟨e₂, a₂, w₂, hq₂, .of_steps (harr.1 _ (by simp [gotoIn, hf])) harr₂⟩
    · rename_i hf
      have hx : gotoIn l (.inScope c :: k) = gotoIn l k := by simp [gotoIn, hf]
      exact ⟨.goto l, a₁, w₁, hq, fun k' hk => harr.1 k' (by rw [hx]; exact hk), fun hr hk => harr.2 hr (by rw [hx]; exact hk)⟩
  | ret => exact ⟨_, a₁, w₁, hq, harr⟩
  | panic ch => exact ⟨_, a₁, w₁, hq, harr⟩
  | outgrown => exact ⟨_, a₁, w₁, hq, harr⟩
end

section
variable {P : Program} {N : Nat} {φ : Phi} {St : Stab} {H : Heap} {w : World} {c : Cfg}

/-- A slot's summary. -/
def SumOk (P : Program) (c : Cfg) (f : FuncId) (F : Heap → List CV → Option (CV × Heap)) : Prop :=
  Enters P f ∧ ∀ N φ St H w args us v H', Rel N φ St H w → GlobR c φ St w → VRL φ St w args us → F H args = some (v, H') → Calls P f us.toArray w (CallPost N φ St H w .ret [v] H')

structure Cfg.Ok (P : Program) (c : Cfg) : Prop where
  ty : c.ty.Ok P
  code : ∀ f xf, c.code f = some xf → ∃ fn, P.funcs[f]? = some fn ∧ (fn.name == "runtime.NumGoroutine") = false ∧ fn.body = some xf.body.code ∧ fn.ntmps = xf.ntmps ∧ fn.results.toList = xf.results ∧ xf.body.ok
  sum : ∀ f F, c.sum f = some F → SumOk P c f F
  mixed : P.follows .mixedOrders = true
  glob : ∀ i v, c.glob i = some v → pureC v = true

theorem enters_of {f : FuncId} {fn : Func} {b : Code} (h : P.funcs[f]? = some fn) (hn : (fn.name == "runtime.NumGoroutine") = false) (hb : fn.body = some b) : Enters P f := by
  intro args w
  have hn' : ¬ fn.name = "runtime.NumGoroutine" := by simpa using hn
  simp [callFunc, h, hn', hb]

/-- What code does, in the round that it is in. -/
def CodeOk (P : Program) (c : Cfg) (rd : Option Nat) (x : X) (tmps : List CV) (H : Heap) (out : Out) (tmps' : List CV) (H' : Heap) : Prop :=
  ∀ N φ St w a ro, Rel N φ St H w → GlobR c φ St w → RdOk φ rd ro → VRL φ St w tmps a.tmps.toList → x.code.wpIn (Fw ro) 0 P (Post N φ St H w a.defers out tmps' H') a w
def RoundOk (P : Program) (c : Cfg) (rd : Option Nat) (b : X) (tmps : List CV) (H : Heap) (out : Out) (tmps' : List CV) (H' : Heap) : Prop :=
  ∀ N φ St w a ro, Rel N φ St H w → GlobR c φ St w → RdOk φ rd ro → VRL φ St w tmps a.tmps.toList → loopWp ro P b.code (Post N φ St H w a.defers out tmps' H') a w
def ScopeOk (P : Program) (c : Cfg) (rd : Option Nat) (b cur : X) (tmps : List CV) (H : Heap) (out : Out) (tmps' : List CV) (H' : Heap) : Prop :=
  ∀ N φ St w a ro, Rel N φ St H w → GlobR c φ St w → RdOk φ rd ro → VRL φ St w tmps a.tmps.toList → scopeWp ro P b.code cur.code (Post N φ St H w a.defers out tmps' H') a w
def OpsOk (P : Program) (c : Cfg) (rd : Option Nat) (ops : Array Oper) (l : List Nat) (tmps : List CV) (H : Heap) (out : Out) (tmps' : List CV) (H' : Heap) : Prop :=
  ∀ N φ St w a ro, Rel N φ St H w → GlobR c φ St w → RdOk φ rd ro → VRL φ St w tmps a.tmps.toList → wpOpsIn (Fw ro) 0 P ops (Post N φ St H w a.defers out tmps' H') l a w

/-- Slots after a job: defers stay. -/
theorem Post.normal {ds : List Deferred} {tmps : List CV} {H' : Heap} {e : Exit} {a : Act} {w' : World} (h : Post N φ St H w ds .normal tmps H' e a w') :
    e = .normal ∧ ∃ φ' St', Left N φ St H w H' φ' St' w' ∧ ∃ ms, Marks w.heap.size φ' w' ms ∧ VRL φ' St' w' tmps a.tmps.toList ∧ a.defers = ms ++ ds := by
  obtain ⟨φ', St', l, ms, hm, o⟩ := h
  cases e <;> simp [OutIs] at o
  exact ⟨rfl, φ', St', l, ms, hm, o⟩

theorem quiet_of {call : Who → List CV → Heap → Ans} {lit : Bool} {ρ : Operand → CV} {o : Op} {v : CV} {new : Option HObj} (hs : opStep c lit call H ρ o = some (.quiet v new)) : opQ c.ty H H.length ρ o = some (v, new) := by
  unfold opStep at hs
  split at hs
  · rename_i hq; simp at hs; obtain ⟨rfl, rfl⟩ := hs; exact hq
  · split at hs <;> (try (simp at hs; done))
    split at hs <;> (try (simp at hs; done))
    split at hs <;> (try (simp at hs; done))

theorem panic_loud {call : Who → List CV → Heap → Ans} {lit : Bool} {ρ : Operand → CV} {o : Op} {v : CV} {h' : Heap} (hs : opStep c lit call H ρ o = some (.panic v h')) : loudOp o = true := by
  unfold opStep at hs
  split at hs <;> (try (simp at hs; done))
  split at hs <;> (try (simp at hs; done))
  split at hs <;> (try (simp at hs; done))
  · rename_i hc; exact called_loud hc
  · rename_i hc; exact called_loud hc

theorem region_any (hc : c.Ok P) {lit : Bool} {ops : Array Oper} {plan : List (Nat × List Nat)} {tmps : List CV} {out : Out} {tmps' : List CV} {H' : Heap} (hp : PlanOk ops plan)
    (ha : Ahead P c lit ops plan tmps H out tmps' H') {ro : Option Nat} {a : Act} (R : Rel N φ St H w) (hg : GlobR c φ St w) (ht : VRL φ St w tmps a.tmps.toList) (t : Nat) :
    wpOpsIn (Fw ro) 0 P ops (Post N φ St H w a.defers out tmps' H') (Region.schedule true ops t) a w := by
  obtain ⟨bs, PW⟩ := hp
  obtain ⟨qs, l2, T1, h1, rfl, hqs, hstop⟩ := ha.split
  simp only [Region.schedule, Bool.true_or, if_true, Region.linearise]
  refine wpAnyIn_sound ops.size t _ a w ?_
  have hD0 : ∀ i, Dl (Array.replicate ops.size false) i = false := fun i => by
    unfold Dl
    by_cases hi : i < ops.size <;> simp [Array.getD, hi]
  have g0 : Good c ops (Dl (Array.replicate ops.size false)) tmps [] tmps H :=
    ⟨by simp, by simp, rfl, by simp, by simp, by simp, by simp, by simp, by simp⟩
  obtain ⟨g1, ⟨x, rfl⟩, hn⟩ := Good.quiets hqs g0
  simp only [List.nil_append] at g1
  refine region_go hc.ty PW ops.size _ a w φ St qs l2 T1 _ (by simp) rfl g1 (fun j hj => by rw [hD0] at hj; simp at hj) (fun p _ => hD0 _) hstop hg ?_ ?_ rfl ⟨R.longer x, Frm.refl _ _ _ _, Keep.append _ _ _⟩ ?_
  · intro r hr _ hs
    have := hn r hr hs
    refine ⟨?_, this⟩
    cases hφ : φ r.n with
    | none => rfl
    | some e => have := R.dom _ _ hφ; omega
  · rw [List.filter_eq_nil_iff.2 fun r _ => by simp [hD0]]; exact ht
  · rw [List.filter_eq_self.2 fun r _ => by simp [hD0]]
    have := PW.len
    simp at this; omega

theorem Left.drew (R : Rel N φ St H w) : Left N φ St H w H φ St { w with drawn := w.drawn + 1 } := ⟨R.drew.1, Frm.drew _ _ _ _, Keep.refl _ _⟩

def resOne (ts : Array Value) : ResultVar → Sem Value
  | .tmp t => pure (ts.getD t undef)
  | .cell a t => do loadVar t (← asAddr (ts.getD a undef))

theorem resultsC_ok (hc : c.Ok P) (R : Rel N φ St H w) {tmps : List CV} {ts : Array Value} (ht : VRL φ St w tmps ts.toList) : ∀ {rs : List ResultVar} {cs : List CV}, resultsC c.ty H tmps rs = some cs →
    ∃ vs, (rs.mapM (resOne ts)).run P w = .ok vs w ∧ VRL φ St w cs vs
  | [], cs, h => by simp [resultsC] at h; subst h; exact ⟨[], rfl, .nil⟩
  | r :: rs, cs, h => by
    have hget : ∀ t, VR φ St w (tmps.getD t undefC) (ts.getD t undef) := fun t => ev_ok (c := { c with glob := fun _ => none }) (a := ⟨ts, []⟩) (fun i v hv => by simp at hv) ht (.tmp t)
    simp only [resultsC] at h
    split at h <;> (try (simp at h; done))
    rename_i x hx
    split at h <;> (try (simp at h; done))
    rename_i xs hxs
    simp at h; subst h
    obtain ⟨vs, h1, h2⟩ := resultsC_ok hc R ht hxs
    have : ∃ v, (resOne ts r).run P w = .ok v w ∧ VR φ St w x v := by
      cases r with
      | tmp t => simp [resultC] at hx; subst hx; exact ⟨_, rfl, by simpa using hget t⟩
      | cell a t =>
        simp only [resultC] at hx
        obtain ⟨v, g1, g2⟩ := loadC_ok hc.ty R hx (hget a)
        refine ⟨v, ?_, g2⟩
        have hgen : ∀ p : Value, (Instr.loadAt t p).run P w = .ok v w → (do loadVar t (← asAddr p) : Sem Value).run P w = .ok v w := by
          intro p g1
          unfold Instr.loadAt Instr.sureAddr at g1
          unfold asAddr
          cases p <;> (try (simp at g1; done))
          rename_i q
          cases q <;> simp at g1 ⊢
          exact g1
        exact hgen _ g1
    obtain ⟨v, g1, g2⟩ := this
    refine ⟨v :: vs, ?_, .cons _ _ _ _ g2 h2⟩
    rw [List.mapM_cons]
    simp only [Sem.run_bind, g1, Result.andThen_ok, h1]
    rfl

theorem results_eq (fn : Func) (ts : Array Value) : results fn ts = (do
    let vs ← fn.results.mapM (resOne ts)
    pure (if h : vs.size = 1 then vs[0] else .tuple vs)) := by
  unfold results
  congr 1

theorem results_ok (hc : c.Ok P) (R : Rel N φ St H w) {tmps : List CV} {ts : Array Value} (ht : VRL φ St w tmps ts.toList) {fn : Func} {rs : List ResultVar} {cs : List CV} (hr : fn.results.toList = rs) (h : resultsC c.ty H tmps rs = some cs) :
    ∃ v, (results fn ts).run P w = .ok v w ∧ VR φ St w (oneOf cs) v := by
  obtain ⟨vs, h1, h2⟩ := resultsC_ok hc R ht h
  have hm : (fn.results.mapM (resOne ts)).run P w = .ok vs.toArray w := by
    rw [Array.mapM_eq_mapM_toList, hr]
    change Sem.run P (List.mapM (resOne ts) rs >>= fun a => pure a.toArray) w = _
    simp [h1]
  rw [results_eq]
  rw [Sem.run_bind]
  rw [hm]
  simp only [Result.andThen_ok]
  cases h2 with
  | nil => exact ⟨_, rfl, .tuple [] [] .nil⟩
  | cons c1 v1 cs vs g1 g2 =>
    cases g2 with
    | nil => exact ⟨v1, by simp, g1⟩
    | cons c2 v2 cs vs g2 g3 => exact ⟨.tuple (v1 :: v2 :: vs).toArray, by simp, .tuple _ _ (.cons _ _ _ _ g1 (.cons _ _ _ _ g2 g3))⟩

theorem Post.then {ds : List Deferred} {out : Out} {tmps : List CV} {H' : Heap} {e : Exit} {a : Act} {w' : World} {K : Act → World → Prop} (hne : out ≠ .normal) (h : Post N φ St H w ds out tmps H' e a w') :
    Exit.then K (Post N φ St H w ds out tmps H') e a w' := by
  cases e <;> first | exact h | skip
  obtain ⟨φ', St', l, ms, hm, o⟩ := h
  cases out <;> simp [OutIs] at o hne

variable {ro : Option Nat}
theorem Post.of_wp {x : Code} {φ' : Phi} {St' : Stab} {H' H'' : Heap} {w' : World} {ds ms : List Deferred} {out : Out} {tmps : List CV} {a : Act} (l : Left N φ St H w H' φ' St' w') (hm : Marks w.heap.size φ' w' ms) (hd : a.defers = ms ++ ds)
    (p : x.wpIn (Fw ro) 0 P (Post N φ' St' H' w' a.defers out tmps H'') a w') : x.wpIn (Fw ro) 0 P (Post N φ St H w ds out tmps H'') a w' := by
  rw [hd] at p; exact wpIn_mono p fun e a w h => Post.trans l hm h
theorem Post.of_loop {x : Code} {φ' : Phi} {St' : Stab} {H' H'' : Heap} {w' : World} {ds ms : List Deferred} {out : Out} {tmps : List CV} {a : Act} (l : Left N φ St H w H' φ' St' w') (hm : Marks w.heap.size φ' w' ms) (hd : a.defers = ms ++ ds)
    (p : loopWp ro P x (Post N φ' St' H' w' a.defers out tmps H'') a w') : loopWp ro P x (Post N φ St H w ds out tmps H'') a w' := by
  rw [hd] at p; exact fun b k cs hro => let ⟨e, a', w'', q, r⟩ := p b k cs hro; ⟨e, a', w'', Post.trans l hm q, r⟩
theorem Post.of_scope {x y : Code} {φ' : Phi} {St' : Stab} {H' H'' : Heap} {w' : World} {ds ms : List Deferred} {out : Out} {tmps : List CV} {a : Act} (l : Left N φ St H w H' φ' St' w') (hm : Marks w.heap.size φ' w' ms) (hd : a.defers = ms ++ ds)
    (p : scopeWp ro P x y (Post N φ' St' H' w' a.defers out tmps H'') a w') : scopeWp ro P x y (Post N φ St H w ds out tmps H'') a w' := by
  rw [hd] at p; exact fun b k cs hro => let ⟨e, a', w'', q, r⟩ := p b k cs hro; ⟨e, a', w'', Post.trans l hm q, r⟩

theorem wpOpsIn_mono {F : Fence} {n : Nat} {ops : Array Oper} {Q Q' : Exit → Act → World → Prop} (hq : ∀ e a w, Q e a w → Q' e a w) : ∀ (l : List Nat) (a : Act) (w : World), wpOpsIn F n P ops Q l a w → wpOpsIn F n P ops Q' l a w := by
  intro l
  induction l with
  | nil => intro a w h; exact hq _ _ _ h
  | cons i l ih =>
    intro a w h
    unfold wpOpsIn at h ⊢
    split
    · rename_i ho; simp only [ho] at h; exact ih _ _ h
    · rename_i o ho
      simp only [ho] at h
      split
      · rename_i hw
        simp only [hw, if_true] at h
        refine ⟨h.1, ?_⟩
        have h := h.2
        generalize (o.semAt F.round a.eval).run P w = r at h ⊢
        cases r with
        | ok n w' =>
          cases n <;> simp only [Oper.uponIn] at h ⊢ <;> first | exact ih _ _ h | exact h.elim | skip
          · refine ⟨h.1, h.2.mono fun e w'' he => ?_⟩
            cases e with
            | returned v => exact ih _ _ he
            | panicked ch => exact hq _ _ _ he
            | outgrown => obtain ⟨a0, w0, h0⟩ := he; exact ⟨a0, w0, hq _ _ _ h0⟩
          all_goals first
            | exact ⟨h.1, h.2.mono fun v w'' he => ih _ _ he⟩
            | (refine ⟨h.1, h.2.mono fun e w'' he => ?_⟩
               cases e with
               | returned v => exact ih _ _ he
               | panicked ch => exact hq _ _ _ he
               | outgrown => obtain ⟨a0, w0, h0⟩ := he; exact ⟨a0, w0, hq _ _ _ h0⟩)
        | halt x w' => cases x <;> simp only [Oper.uponIn] at h ⊢ <;> first | exact hq _ _ _ h | exact h.elim
      · rename_i hw
        simp only [hw] at h
        exact ⟨h.1, ih _ _ h.2⟩

theorem Post.of_ops {ops : Array Oper} {l : List Nat} {φ' : Phi} {St' : Stab} {H' H'' : Heap} {w' : World} {ds : List Deferred} {out : Out} {tmps : List CV} {a : Act} (l' : Left N φ St H w H' φ' St' w') (hd : a.defers = ds)
    (p : wpOpsIn (Fw ro) 0 P ops (Post N φ' St' H' w' a.defers out tmps H'') l a w') : wpOpsIn (Fw ro) 0 P ops (Post N φ St H w ds out tmps H'') l a w' := by
  rw [hd] at p; exact wpOpsIn_mono (fun e a w h => Post.trans0 l' h) _ _ _ p
theorem put_same_defers (a : Act) (d : Option Tmp) (v : Value) : (a.put d v).defers = a.defers := by cases d <;> rfl

/-! ### Each kind of code -/
variable {rd : Option Nat} {tmps tmps' : List CV} {H' : Heap} {out : Out}

theorem CodeOk.skip : CodeOk P c rd .skip tmps H .normal tmps H := fun N φ St w a ro R hg hr ht => wpIn_skip (Post.plain (Left.refl R) ⟨ht, rfl⟩)
theorem CodeOk.label {l : Nat} : CodeOk P c rd (.label l) tmps H .normal tmps H := fun N φ St w a ro R hg hr ht => wpIn_label (Post.plain (Left.refl R) ⟨ht, rfl⟩)
theorem CodeOk.exit {l : Nat} : CodeOk P c rd (.exit l) tmps H (.exit l) tmps H := fun N φ St w a ro R hg hr ht => wpIn_exit (Post.plain (Left.refl R) ⟨rfl, ht, rfl⟩)
theorem CodeOk.goto {l : Nat} : CodeOk P c rd (.goto l) tmps H (.goto l) tmps H := fun N φ St w a ro R hg hr ht => wpIn_goto (Post.plain (Left.refl R) ⟨rfl, ht, rfl⟩)
theorem CodeOk.ret : CodeOk P c rd .ret tmps H .ret tmps H := fun N φ St w a ro R hg hr ht => wpIn_ret (Post.plain (Left.refl R) ⟨ht, rfl⟩)

theorem CodeOk.seq {x y : X} {t1 : List CV} {h1 : Heap} (hx : CodeOk P c rd x tmps H .normal t1 h1) (hy : CodeOk P c rd y t1 h1 out tmps' H') : CodeOk P c rd (.seq x y) tmps H out tmps' H' := by
  intro N φ St w a ro R hg hr ht
  refine wpIn_seq (wpIn_mono (hx N φ St w a ro R hg hr ht) fun e a1 w1 p => ?_)
  obtain ⟨rfl, φ1, St1, l1, ms, hm, ht1, hd1⟩ := p.normal
  exact Post.of_wp l1 hm hd1 (hy N φ1 St1 w1 a1 ro l1.rel (hg.mono l1.frm.toMono) (hr.mono l1.frm.toMono) ht1)
theorem CodeOk.seq_out {x y : X} (ho : out ≠ .normal) (hx : CodeOk P c rd x tmps H out tmps' H') : CodeOk P c rd (.seq x y) tmps H out tmps' H' :=
  fun N φ St w a ro R hg hr ht => wpIn_seq (wpIn_mono (hx N φ St w a ro R hg hr ht) fun e a1 w1 p => p.then ho)

theorem CodeOk.cond_true {o : Operand} {x y : X} (ho : ev c.glob tmps o = .bool true) (hx : CodeOk P c rd x tmps H out tmps' H') : CodeOk P c rd (.cond o x y) tmps H out tmps' H' := by
  intro N φ St w a ro R hg hr ht
  have hv := ev_ok hg ht o
  rw [ho] at hv
  generalize hgv : a.eval o = gv at hv
  cases hv
  exact wpIn_cond_true hgv (hx N φ St w a ro R hg hr ht)
theorem CodeOk.cond_false {o : Operand} {x y : X} (ho : ev c.glob tmps o = .bool false) (hy : CodeOk P c rd y tmps H out tmps' H') : CodeOk P c rd (.cond o x y) tmps H out tmps' H' := by
  intro N φ St w a ro R hg hr ht
  have hv := ev_ok hg ht o
  rw [ho] at hv
  generalize hgv : a.eval o = gv at hv
  cases hv
  exact wpIn_cond_false hgv (hy N φ St w a ro R hg hr ht)

/-- What a block makes of a way out. -/
def Out.inBlock (id : Nat) : Out → Out
  | .exit i => if i = id then .normal else .exit i
  | o => o
theorem CodeOk.block {id : Nat} {x : X} (hx : CodeOk P c rd x tmps H out tmps' H') : CodeOk P c rd (.block id x) tmps H (out.inBlock id) tmps' H' := by
  intro N φ St w a ro R hg hr ht
  refine wpIn_block (wpIn_mono (hx N φ St w a ro R hg hr ht) fun e a1 w1 p => ?_)
  obtain ⟨φ1, St1, l1, ms, hm, hout⟩ := p
  cases out <;> cases e <;> simp only [OutIs] at hout
  case exit.exit i j =>
    obtain ⟨rfl, ht1, hd1⟩ := hout
    simp only [Exit.inBlock, Out.inBlock]
    split
    · exact ⟨φ1, St1, l1, ms, hm, ht1, hd1⟩
    · exact ⟨φ1, St1, l1, ms, hm, rfl, ht1, hd1⟩
  all_goals exact ⟨φ1, St1, l1, ms, hm, hout⟩

theorem CodeOk.loop {x : X} (hx : RoundOk P c rd x tmps H out tmps' H') : CodeOk P c rd (.loop x) tmps H out tmps' H' :=
  fun N φ St w a ro R hg hr ht => wp_of_loopWp (hx N φ St w a ro R hg hr ht)
theorem RoundOk.more {x : X} {t1 : List CV} {h1 : Heap} (hx : CodeOk P c rd x tmps H .normal t1 h1) (hy : RoundOk P c rd x t1 h1 out tmps' H') : RoundOk P c rd x tmps H out tmps' H' := by
  intro N φ St w a ro R hg hr ht
  refine loopWp_of (wpIn_mono (hx N φ St w a ro R hg hr ht) fun e a1 w1 p => ?_)
  obtain ⟨rfl, φ1, St1, l1, ms, hm, ht1, hd1⟩ := p.normal
  exact Post.of_loop l1 hm hd1 (hy N φ1 St1 w1 a1 ro l1.rel (hg.mono l1.frm.toMono) (hr.mono l1.frm.toMono) ht1)
theorem RoundOk.leave {x : X} (ho : out ≠ .normal) (hx : CodeOk P c rd x tmps H out tmps' H') : RoundOk P c rd x tmps H out tmps' H' :=
  fun N φ St w a ro R hg hr ht => loopWp_of (wpIn_mono (hx N φ St w a ro R hg hr ht) fun e a1 w1 p => p.then ho)

theorem CodeOk.scope {x : X} (hx : ScopeOk P c rd x x tmps H out tmps' H') : CodeOk P c rd (.scope x) tmps H out tmps' H' :=
  fun N φ St w a ro R hg hr ht => wp_of_scopeWp (hx N φ St w a ro R hg hr ht)
theorem ScopeOk.jump {b cur rest : X} {l : Nat} {t1 : List CV} {h1 : Heap} (hx : CodeOk P c rd cur tmps H (.goto l) t1 h1) (hf : xFind b l = some rest) (hy : ScopeOk P c rd b rest t1 h1 out tmps' H') : ScopeOk P c rd b cur tmps H out tmps' H' := by
  intro N φ St w a ro R hg hr ht
  refine scopeWp_of (wpIn_mono (hx N φ St w a ro R hg hr ht) fun e a1 w1 p => ?_)
  obtain ⟨φ1, St1, l1, ms, hm, hout⟩ := p
  cases e <;> simp only [OutIs] at hout
  obtain ⟨rfl, ht1, hd1⟩ := hout
  simp only [Exit.jumped, xFind_eq, hf, Option.map_some]
  exact Post.of_scope l1 hm hd1 (hy N φ1 St1 w1 a1 ro l1.rel (hg.mono l1.frm.toMono) (hr.mono l1.frm.toMono) ht1)
theorem ScopeOk.leave {b cur : X} (ho : ∀ l, out = .goto l → xFind b l = none) (hx : CodeOk P c rd cur tmps H out tmps' H') : ScopeOk P c rd b cur tmps H out tmps' H' := by
  intro N φ St w a ro R hg hr ht
  refine scopeWp_of (wpIn_mono (hx N φ St w a ro R hg hr ht) fun e a1 w1 p => ?_)
  obtain ⟨φ1, St1, l1, ms, hm, hout⟩ := p
  cases out <;> cases e <;> simp only [OutIs] at hout
  case goto.goto i j =>
    obtain ⟨rfl, ht1, hd1⟩ := hout
    simp only [Exit.jumped, xFind_eq, ho i rfl, Option.map_none]
    exact ⟨φ1, St1, l1, ms, hm, rfl, ht1, hd1⟩
  all_goals exact ⟨φ1, St1, l1, ms, hm, hout⟩

theorem CodeOk.region {id : Nat} {ops : Array Oper} {plan : List (Nat × List Nat)} (hx : OpsOk P c rd ops (List.range ops.size) tmps H out tmps' H') : CodeOk P c rd (.region id ops false plan) tmps H out tmps' H' :=
  fun N φ St w a ro R hg hr ht => wpIn_region (hx N φ St w a ro R hg hr ht)
theorem CodeOk.region_draw (hc : c.Ok P) {lit : Bool} {id : Nat} {ops : Array Oper} {plan : List (Nat × List Nat)} (hp : PlanOk ops plan) (ha : Ahead P c lit ops plan tmps H out tmps' H') : CodeOk P c rd (.region id ops true plan) tmps H out tmps' H' := by
  intro N φ St w a ro R hg hr ht
  refine wpIn_region_draw fun t => ?_
  rw [hc.mixed]
  have hl := Left.drew R
  have := region_any (ro := ro) hc hp ha hl.rel (hg.mono hl.frm.toMono) (ht.mono hl.frm.toMono) t
  exact wpOpsIn_mono (fun e a w p => Post.trans0 hl p) _ _ _ this

theorem OpsOk.nil {ops : Array Oper} : OpsOk P c rd ops [] tmps H .normal tmps H := fun N φ St w a ro R hg hr ht => Post.plain (Left.refl R) ⟨ht, rfl⟩
theorem OpsOk.none {ops : Array Oper} {i : Nat} {l : List Nat} (ho : ops[i]? = none) (hx : OpsOk P c rd ops l tmps H out tmps' H') : OpsOk P c rd ops (i :: l) tmps H out tmps' H' := by
  intro N φ St w a ro R hg hr ht
  simp only [wpOpsIn, ho]
  exact hx N φ St w a ro R hg hr ht
theorem OpsOk.skip {ops : Array Oper} {i : Nat} {l : List Nat} {o : Oper} (ho : ops[i]? = some o) (hw : wantedC ops tmps o = some false) (hx : OpsOk P c rd ops l (putC tmps o.dst undefC) H out tmps' H') : OpsOk P c rd ops (i :: l) tmps H out tmps' H' := by
  intro N φ St w a ro R hg hr ht
  simp only [wpOpsIn, ho]
  rw [wantedC_ok ht hw]
  exact ⟨fun _ _ => trivial, Post.of_ops (Left.refl R) (put_same_defers _ _ _) (hx N φ St w (a.put o.dst undef) ro R hg hr (put_ok ht o.dst undef_ok))⟩
theorem OpsOk.quiet (hc : c.Ok P) {ops : Array Oper} {i : Nat} {l : List Nat} {o : Oper} {v : CV} {new : Option HObj} (ho : ops[i]? = some o) (hw : wantedC ops tmps o = some true) (hq : opQ c.ty H H.length (ev c.glob tmps) o.op = some (v, new))
    (hx : OpsOk P c rd ops l (putC tmps o.dst v) (H ++ new.toList) out tmps' H') : OpsOk P c rd ops (i :: l) tmps H out tmps' H' := by
  intro N φ St w a ro R hg hr ht
  simp only [wpOpsIn, ho]
  rw [wantedC_ok ht hw]
  refine quiet_wp hc.ty hq (R.longer new.toList) (Sub.append _ _) (fun b hb => ⟨R.noEnt, by subst hb; simp⟩) (fun x _ => ev_ok hg ht x) ?_
  intro φ1 w1 u R1 F1 _ hu
  have l1 : Left N φ St H w (H ++ new.toList) φ1 St w1 := ⟨R1, F1, Keep.append _ _ _⟩
  exact Post.of_ops l1 (put_same_defers _ _ _) (hx N φ1 St w1 _ ro R1 (hg.mono F1.toMono) (hr.mono F1.toMono) (put_ok (ht.mono F1.toMono) o.dst hu))
theorem OpsOk.loud (hc : c.Ok P) {call : Who → List CV → Heap → Ans} (hcall : CallOk P c call) {lit : Bool} {ops : Array Oper} {i : Nat} {l : List Nat} {o : Oper} {v : CV} {h1 : Heap} (ho : ops[i]? = some o) (hw : wantedC ops tmps o = some true)
    (hs : opStep c lit call H (ev c.glob tmps) o.op = some (.loud v h1)) (hx : OpsOk P c rd ops l (putC tmps o.dst v) h1 out tmps' H') : OpsOk P c rd ops (i :: l) tmps H out tmps' H' := by
  intro N φ St w a ro R hg hr ht
  simp only [wpOpsIn, ho]
  rw [wantedC_ok ht hw]
  refine loud_wp hc.ty hcall hs R hg (fun x _ => ev_ok hg ht x) ?_
  intro φ1 St1 w1 u l1 hu
  exact Post.of_ops l1 (put_same_defers _ _ _) (hx N φ1 St1 w1 _ ro l1.rel (hg.mono l1.frm.toMono) (hr.mono l1.frm.toMono) (put_ok (ht.mono l1.frm.toMono) o.dst hu))
theorem OpsOk.panic {call : Who → List CV → Heap → Ans} (hcall : CallOk P c call) {lit : Bool} {ops : Array Oper} {i : Nat} {l : List Nat} {o : Oper} {v : CV} {h1 : Heap} (ho : ops[i]? = some o) (hw : wantedC ops tmps o = some true)
    (hs : opStep c lit call H (ev c.glob tmps) o.op = some (.panic v h1)) : OpsOk P c rd ops (i :: l) tmps H (.panic v) tmps h1 := by
  intro N φ St w a ro R hg hr ht
  simp only [wpOpsIn, ho]
  rw [wantedC_ok ht hw]
  refine panic_wp hcall hs R hg (fun x _ => ev_ok hg ht x) ?_
  intro φ1 St1 w1 u l1 hu
  exact Post.plain l1 ⟨⟨u, rfl, hu⟩, rfl⟩
end
end Go.Eng
