/- The evaluator says what the machine does. -/
import Derived.Test.YtnbbhcmmhhjkdaaEH3c
namespace Go.Eng
set_option linter.unusedVariables false

/-- A loop under way. -/
def loopWp (P : Program) (c : Code) (Q : Exit → Act → World → Prop) (a : Act) (w : World) : Prop :=
  ∀ (b : Frame) (k : List Item) (cs : List Frame), ∃ e a' w', Q e a' w' ∧ Arrives P (lone (b.at a (.code c :: .inLoop c :: k)) cs w) b k cs e a' w'

def scopeWp (P : Program) (c cur : Code) (Q : Exit → Act → World → Prop) (a : Act) (w : World) : Prop :=
  ∀ (b : Frame) (k : List Item) (cs : List Frame), ∃ e a' w', Q e a' w' ∧ Arrives P (lone (b.at a (.code cur :: .inScope c :: k)) cs w) b k cs e a' w'

section
variable {P : Program} {Q : Exit → Act → World → Prop} {a : Act} {w : World}

theorem wp_of_loopWp {c : Code} (h : loopWp P c Q a w) : (Code.loop c).wp P Q a w := by
  intro b k cs
  obtain ⟨e, a', w', hq, harr⟩ := h b k cs
  exact ⟨e, a', w', hq, .of_steps (.one step_loop) harr⟩
theorem loopWp_of {c : Code} (h : c.wp P (Exit.then (loopWp P c Q) Q) a w) : loopWp P c Q a w := by
  intro b k cs
  obtain ⟨e, a₁, w₁, hq, harr⟩ := h b (.inLoop c :: k) cs
  cases e with
  | normal =>
    obtain ⟨e₂, a₂, w₂, hq₂, harr₂⟩ := hq b k cs
    exact ⟨e₂, a₂, w₂, hq₂, .of_steps (Steps.trans harr (.one step_inLoop)) harr₂⟩
  | exit id => exact ⟨_, a₁, w₁, hq, .pass (x := .inLoop c) rfl (fun _ _ => .inl (by simp)) harr⟩
  | goto l => exact ⟨_, a₁, w₁, hq, .pass (x := .inLoop c) rfl (fun _ _ => .inl (by simp)) harr⟩
  | ret => exact ⟨_, a₁, w₁, hq, .pass (x := .inLoop c) rfl (fun _ _ => .inl (by simp)) harr⟩
  | panic ch => exact ⟨_, a₁, w₁, hq, .pass (x := .inLoop c) rfl (fun _ _ => .inl (by simp)) harr⟩
  | outgrown => exact ⟨_, a₁, w₁, hq, .pass (x := .inLoop c) rfl (fun _ _ => .inl (by simp)) harr⟩

theorem wp_of_scopeWp {c : Code} (h : scopeWp P c c Q a w) : (Code.scope c).wp P Q a w := by
  intro b k cs
  obtain ⟨e, a', w', hq, harr⟩ := h b k cs
  exact ⟨e, a', w', hq, .of_steps (.one step_scope) harr⟩

/-- What a scope makes of a jump. -/
def Exit.jumped (P : Program) (c : Code) (Q : Exit → Act → World → Prop) : Exit → Act → World → Prop
  | .goto l, a, w => match findLabel c l with
    | some rest => scopeWp P c rest Q a w
    | none => Q (.goto l) a w
  | e, a, w => Q e a w

theorem scopeWp_of {c cur : Code} (h : cur.wp P (Exit.jumped P c Q) a w) : scopeWp P c cur Q a w := by
  intro b k cs
  obtain ⟨e, a₁, w₁, hq, harr⟩ := h b (.inScope c :: k) cs
  cases e with
  | normal => exact ⟨.normal, a₁, w₁, hq, Steps.trans harr (.one step_inScope)⟩
  | exit id => exact ⟨.exit id, a₁, w₁, hq, fun k' hk => harr k' (by simp [exitTo, hk])⟩
  | goto l =>
    simp only [Exit.jumped] at hq
    split at hq
    · rename_i rest hf
      obtain ⟨e₂, a₂, w₂, hq₂, harr₂⟩ := hq b k cs
      exact ⟨e₂, a₂, w₂, hq₂, .of_steps (harr _ (by simp [gotoIn, hf])) harr₂⟩
    · rename_i hf
      exact ⟨.goto l, a₁, w₁, hq, fun k' hk => harr k' (by simp [gotoIn, hf, hk])⟩
  | ret => exact ⟨_, a₁, w₁, hq, harr⟩
  | panic ch => exact ⟨_, a₁, w₁, hq, harr⟩
  | outgrown => exact ⟨_, a₁, w₁, hq, harr⟩
end

section
variable {P : Program} {N : Nat} {φ : Phi} {St : Stab} {H : Heap} {w : World} {c : Cfg}

/-- A slot's summary. -/
def SumOk (P : Program) (c : Cfg) (f : FuncId) (F : Heap → List CV → Option (CV × Heap)) : Prop :=
  Enters P f ∧ ∀ N φ St H w args us v H', Rel N φ St H w → GlobR c φ St w → VRL φ St w args us → F H args = some (v, H') → Calls P f us.toArray w (CallPost N φ St H w .ret [v] H')

def X.ok : X → Prop
  | .region _ ops draw plan => draw = true → PlanOk ops plan
  | .seq a b => a.ok ∧ b.ok
  | .cond _ a b => a.ok ∧ b.ok
  | .block _ b => b.ok
  | .loop b => b.ok
  | .scope b => b.ok
  | _ => True

theorem xFind_ok {l : Nat} : ∀ {b r : X}, b.ok → xFind b l = some r → r.ok := by
  intro b
  induction b with
  | seq a b iha ihb =>
    intro r hb h
    simp only [xFind] at h
    cases ha : xFind a l with
    | some q => rw [ha] at h; simp at h; subst h; exact ⟨iha hb.1 ha, hb.2⟩
    | none => rw [ha] at h; exact ihb hb.2 h
  | label l' => intro r hb h; simp only [xFind] at h; split at h <;> simp at h; subst h; trivial
  | _ => intro r hb h; simp [xFind] at h

structure Cfg.Ok (P : Program) (c : Cfg) : Prop where
  ty : c.ty.Ok P
  code : ∀ f xf, c.code f = some xf → ∃ fn, P.funcs[f]? = some fn ∧ (fn.name == "runtime.NumGoroutine") = false ∧ fn.body = some xf.body.code ∧ fn.ntmps = xf.ntmps ∧ fn.results.toList = xf.results ∧ xf.body.ok
  sum : ∀ f F, c.sum f = some F → SumOk P c f F
  mixed : P.follows .mixedOrders = true

theorem enters_of {f : FuncId} {fn : Func} {b : Code} (h : P.funcs[f]? = some fn) (hn : (fn.name == "runtime.NumGoroutine") = false) (hb : fn.body = some b) : Enters P f := by
  intro args w
  have hn' : ¬ fn.name = "runtime.NumGoroutine" := by simpa using hn
  simp [callFunc, h, hn', hb]

def Job.ok : Job → Prop
  | .code x => x.ok
  | .round b => b.ok
  | .scope b cur => b.ok ∧ cur.ok
  | .ops _ draw _ => draw = false
  | .call _ _ => True

/-- What a job's answer says. -/
def JobOk (P : Program) (c : Cfg) (j : Job) (tmps : List CV) (H : Heap) (out : Out) (tmps' : List CV) (H' : Heap) : Prop :=
  match j with
  | .code x => ∀ N φ St w a, Rel N φ St H w → GlobR c φ St w → VRL φ St w tmps a.tmps.toList → x.code.wp P (Post N φ St H w a.defers out tmps' H') a w
  | .round b => ∀ N φ St w a, Rel N φ St H w → GlobR c φ St w → VRL φ St w tmps a.tmps.toList → loopWp P b.code (Post N φ St H w a.defers out tmps' H') a w
  | .scope b cur => ∀ N φ St w a, Rel N φ St H w → GlobR c φ St w → VRL φ St w tmps a.tmps.toList → scopeWp P b.code cur.code (Post N φ St H w a.defers out tmps' H') a w
  | .ops ops draw l => ∀ N φ St w a, Rel N φ St H w → GlobR c φ St w → VRL φ St w tmps a.tmps.toList → wpOps P ops (Post N φ St H w a.defers out tmps' H') (l.map (·.1)) a w
  | .call f args => Enters P f ∧ ∀ N φ St w us, Rel N φ St H w → GlobR c φ St w → VRL φ St w args us → Calls P f us.toArray w (CallPost N φ St H w out tmps' H')

theorem wp_and_mono {x : Code} {Q Q' : Exit → Act → World → Prop} {a : Act} (h : x.wp P Q a w) (hq : ∀ e a w, Q e a w → Q' e a w) : x.wp P Q' a w := wp_mono h hq

/-- Slots after a job: defers stay. -/
theorem Post.normal {ds : List Deferred} {tmps : List CV} {H' : Heap} {e : Exit} {a : Act} {w' : World} (h : Post N φ St H w ds .normal tmps H' e a w') :
    e = .normal ∧ ∃ φ' St', Left N φ St H w H' φ' St' w' ∧ VRL φ' St' w' tmps a.tmps.toList ∧ a.defers = ds := by
  obtain ⟨φ', St', l, o⟩ := h
  cases e <;> simp [OutIs] at o
  exact ⟨rfl, φ', St', l, o⟩

theorem quiet_of {call : FuncId → List CV → Heap → Ans} {lit : Bool} {ρ : Operand → CV} {o : Op} {v : CV} {new : Option HObj} (hs : opStep c lit call H ρ o = some (.quiet v new)) : opQ c.ty H H.length ρ o = some (v, new) := by
  unfold opStep at hs
  split at hs
  · rename_i hq; simp at hs; obtain ⟨rfl, rfl⟩ := hs; exact hq
  · split at hs <;> (try (simp at hs; done))
    split at hs <;> (try (simp at hs; done))
    split at hs <;> (try (simp at hs; done))

theorem panic_loud {call : FuncId → List CV → Heap → Ans} {lit : Bool} {ρ : Operand → CV} {o : Op} {v : CV} {h' : Heap} (hs : opStep c lit call H ρ o = some (.panic v h')) : loudOp o = true := by
  unfold opStep at hs
  split at hs <;> (try (simp at hs; done))
  split at hs <;> (try (simp at hs; done))
  split at hs <;> (try (simp at hs; done))
  · rename_i hc; exact called_loud hc
  · rename_i hc; exact called_loud hc

theorem ahead_of (hc : c.Ok P) {fn : FuncId} {ops : Array Oper} : ∀ (n : Nat), (∀ m, m ≤ n → ∀ fn j tmps H out tmps' H', ex c m fn j tmps H = some (out, tmps', H') → j.ok → JobOk P c j tmps H out tmps' H') →
    ∀ (l : List (Nat × List Nat)) (tmps : List CV) (H : Heap) (out : Out) (tmps' : List CV) (H' : Heap), ex c n fn (.ops ops true l) tmps H = some (out, tmps', H') → Ahead P c (c.lit fn) ops l tmps H out tmps' H' := by
  intro n
  induction n with
  | zero => intro _ l tmps H out tmps' H' h; simp [ex] at h
  | succ n ihn =>
    intro ih l tmps H out tmps' H' h
    have ihn := ihn fun m hm => ih m (by omega)
    have hcall : CallOk P c fun f args h => ex c n f (.call f args) [] h := fun f args H out vs H' hh => ih n (by omega) f _ _ _ _ _ _ hh trivial
    cases l with
    | nil => simp [ex] at h; obtain ⟨rfl, rfl, rfl⟩ := h; exact .nil _ _
    | cons p l =>
      obtain ⟨i, rs⟩ := p
      simp only [ex] at h
      cases ho : ops[i]? with
      | none => simp [ho] at h
      | some o =>
        simp only [ho] at h
        cases hw : wantedC ops tmps o with
        | none => simp [hw] at h
        | some b =>
          cases b with
          | false => simp only [hw] at h; exact .skip ho hw (ihn _ _ _ _ _ _ h)
          | true =>
            simp only [hw] at h
            split at h
            · rename_i v new hs
              exact .quiet ho hw (quiet_of hs) (ihn _ _ _ _ _ _ h)
            · rename_i v h1 hs
              split at h <;> (try (simp at h; done))
              rename_i hcond
              simp only [Bool.not_true, Bool.false_or, Bool.and_eq_true] at hcond
              exact .loud ho hw hcall hs hcond.1 hcond.2 (ihn _ _ _ _ _ _ h)
            · rename_i v h1 hs
              simp at h; obtain ⟨rfl, rfl, rfl⟩ := h
              exact .panic ho hw hcall hs (panic_loud hs)
            · simp at h

theorem region_any (hc : c.Ok P) {n : Nat} {fn : FuncId} {ops : Array Oper} {plan : List (Nat × List Nat)} {tmps : List CV} {out : Out} {tmps' : List CV} {H' : Heap} (hp : PlanOk ops plan)
    (ih : ∀ m, m ≤ n → ∀ fn j tmps H out tmps' H', ex c m fn j tmps H = some (out, tmps', H') → j.ok → JobOk P c j tmps H out tmps' H')
    (h : ex c n fn (.ops ops true plan) tmps H = some (out, tmps', H')) {a : Act} (R : Rel N φ St H w) (hg : GlobR c φ St w) (ht : VRL φ St w tmps a.tmps.toList) (t : Nat) :
    wpOps P ops (Post N φ St H w a.defers out tmps' H') (Region.schedule true ops t) a w := by
  obtain ⟨bs, PW⟩ := hp
  have ha := ahead_of hc n ih _ _ _ _ _ _ h
  obtain ⟨qs, l2, T1, h1, rfl, hqs, hstop⟩ := ha.split
  simp only [Region.schedule, Bool.true_or, if_true, Region.linearise]
  refine wpAny_sound ops.size t _ a w ?_
  have hD0 : ∀ i, Dl (Array.replicate ops.size false) i = false := fun i => by
    unfold Dl
    by_cases hi : i < ops.size <;> simp [Array.getD, hi]
  have g0 : Good c ops (Dl (Array.replicate ops.size false)) tmps [] tmps H :=
    ⟨by simp, by simp, rfl, by simp, by simp, by simp, by simp, by simp, by simp⟩
  obtain ⟨g1, ⟨x, rfl⟩, hn⟩ := Good.quiets hqs g0
  simp only [List.nil_append] at g1
  refine region_go hc.ty PW ops.size _ a w φ St qs l2 T1 _ (by simp) rfl g1 (fun j hj => by rw [hD0] at hj; simp at hj) (fun p _ => hD0 _) hstop hg ?_ ?_ rfl ⟨R.longer x, Frm.refl _ _ _ _, Keep.append _ _ _⟩ ?_
  · intro r hr _ hs
    have := hn r hr hs
    refine ⟨?_, this⟩
    cases hφ : φ r.n with
    | none => rfl
    | some e => have := R.dom _ _ hφ; omega
  · rw [List.filter_eq_nil_iff.2 fun r _ => by simp [hD0]]; exact ht
  · rw [List.filter_eq_self.2 fun r _ => by simp [hD0]]
    have := PW.len
    simp at this; omega

theorem Left.drew (R : Rel N φ St H w) : Left N φ St H w H φ St { w with drawn := w.drawn + 1 } := ⟨R.drew.1, Frm.drew _ _ _ _, Keep.refl _ _⟩

def resOne (ts : Array Value) : ResultVar → Sem Value
  | .tmp t => pure (ts.getD t undef)
  | .cell a t => do loadVar t (← asAddr (ts.getD a undef))

theorem resultsC_ok (hc : c.Ok P) (R : Rel N φ St H w) {tmps : List CV} {ts : Array Value} (ht : VRL φ St w tmps ts.toList) : ∀ {rs : List ResultVar} {cs : List CV}, resultsC c.ty H tmps rs = some cs →
    ∃ vs, (rs.mapM (resOne ts)).run P w = .ok vs w ∧ VRL φ St w cs vs
  | [], cs, h => by simp [resultsC] at h; subst h; exact ⟨[], rfl, .nil⟩
  | r :: rs, cs, h => by
    have hget : ∀ t, VR φ St w (tmps.getD t undefC) (ts.getD t undef) := fun t => ev_ok (c := { c with glob := fun _ => none }) (a := ⟨ts, []⟩) (fun i v hv => by simp at hv) ht (.tmp t)
    simp only [resultsC] at h
    split at h <;> (try (simp at h; done))
    rename_i x hx
    split at h <;> (try (simp at h; done))
    rename_i xs hxs
    simp at h; subst h
    obtain ⟨vs, h1, h2⟩ := resultsC_ok hc R ht hxs
    have : ∃ v, (resOne ts r).run P w = .ok v w ∧ VR φ St w x v := by
      cases r with
      | tmp t => simp [resultC] at hx; subst hx; exact ⟨_, rfl, by simpa using hget t⟩
      | cell a t =>
        simp only [resultC] at hx
        obtain ⟨v, g1, g2⟩ := loadC_ok hc.ty R hx (hget a)
        refine ⟨v, ?_, g2⟩
        have hgen : ∀ p : Value, (Instr.loadAt t p).run P w = .ok v w → (do loadVar t (← asAddr p) : Sem Value).run P w = .ok v w := by
          intro p g1
          unfold Instr.loadAt Instr.sureAddr at g1
          unfold asAddr
          cases p <;> (try (simp at g1; done))
          rename_i q
          cases q <;> simp at g1 ⊢
          exact g1
        exact hgen _ g1
    obtain ⟨v, g1, g2⟩ := this
    refine ⟨v :: vs, ?_, .cons _ _ _ _ g2 h2⟩
    rw [List.mapM_cons]
    simp only [Sem.run_bind, g1, Result.andThen_ok, h1]
    rfl

theorem results_eq (fn : Func) (ts : Array Value) : results fn ts = (do
    let vs ← fn.results.mapM (resOne ts)
    pure (if h : vs.size = 1 then vs[0] else .tuple vs)) := by
  unfold results
  congr 1

theorem results_ok (hc : c.Ok P) (R : Rel N φ St H w) {tmps : List CV} {ts : Array Value} (ht : VRL φ St w tmps ts.toList) {fn : Func} {rs : List ResultVar} {cs : List CV} (hr : fn.results.toList = rs) (h : resultsC c.ty H tmps rs = some cs) :
    ∃ v, (results fn ts).run P w = .ok v w ∧ VR φ St w (oneOf cs) v := by
  obtain ⟨vs, h1, h2⟩ := resultsC_ok hc R ht h
  have hm : (fn.results.mapM (resOne ts)).run P w = .ok vs.toArray w := by
    rw [Array.mapM_eq_mapM_toList, hr]
    change Sem.run P (List.mapM (resOne ts) rs >>= fun a => pure a.toArray) w = _
    simp [h1]
  rw [results_eq]
  rw [Sem.run_bind]
  rw [hm]
  simp only [Result.andThen_ok]
  cases h2 with
  | nil => exact ⟨_, rfl, .tuple [] [] .nil⟩
  | cons c1 v1 cs vs g1 g2 =>
    cases g2 with
    | nil => exact ⟨v1, by simp, g1⟩
    | cons c2 v2 cs vs g2 g3 => exact ⟨.tuple (v1 :: v2 :: vs).toArray, by simp, .tuple _ _ (.cons _ _ _ _ g1 (.cons _ _ _ _ g2 g3))⟩

theorem Post.then {ds : List Deferred} {out : Out} {tmps : List CV} {H' : Heap} {e : Exit} {a : Act} {w' : World} {K : Act → World → Prop} (hne : out ≠ .normal) (h : Post N φ St H w ds out tmps H' e a w') :
    Exit.then K (Post N φ St H w ds out tmps H') e a w' := by
  cases e <;> first | exact h | skip
  obtain ⟨φ', St', l, o⟩ := h
  cases out <;> simp [OutIs] at o hne

theorem Post.of_wp {x : Code} {φ' : Phi} {St' : Stab} {H' H'' : Heap} {w' : World} {ds : List Deferred} {out : Out} {tmps : List CV} {a : Act} (l : Left N φ St H w H' φ' St' w') (hd : a.defers = ds)
    (p : x.wp P (Post N φ' St' H' w' a.defers out tmps H'') a w') : x.wp P (Post N φ St H w ds out tmps H'') a w' := by
  subst hd; exact wp_mono p fun e a w h => Post.trans l h
theorem Post.of_loop {x : Code} {φ' : Phi} {St' : Stab} {H' H'' : Heap} {w' : World} {ds : List Deferred} {out : Out} {tmps : List CV} {a : Act} (l : Left N φ St H w H' φ' St' w') (hd : a.defers = ds)
    (p : loopWp P x (Post N φ' St' H' w' a.defers out tmps H'') a w') : loopWp P x (Post N φ St H w ds out tmps H'') a w' := by
  subst hd; exact fun b k cs => let ⟨e, a', w'', q, r⟩ := p b k cs; ⟨e, a', w'', Post.trans l q, r⟩
theorem Post.of_scope {x y : Code} {φ' : Phi} {St' : Stab} {H' H'' : Heap} {w' : World} {ds : List Deferred} {out : Out} {tmps : List CV} {a : Act} (l : Left N φ St H w H' φ' St' w') (hd : a.defers = ds)
    (p : scopeWp P x y (Post N φ' St' H' w' a.defers out tmps H'') a w') : scopeWp P x y (Post N φ St H w ds out tmps H'') a w' := by
  subst hd; exact fun b k cs => let ⟨e, a', w'', q, r⟩ := p b k cs; ⟨e, a', w'', Post.trans l q, r⟩

/-- Regions' ways out, taken farther. -/
theorem Post.of_ops {ops : Array Oper} {Q Q' : Exit → Act → World → Prop} (hq : ∀ e a w, Q e a w → Q' e a w) : ∀ (l : List Nat) (a : Act) (w : World), wpOps P ops Q l a w → wpOps P ops Q' l a w := by
  intro l
  induction l with
  | nil => intro a w h; exact hq _ _ _ h
  | cons i l ih =>
    intro a w h
    unfold wpOps at h ⊢
    split
    · rename_i ho; simp only [ho] at h; exact ih _ _ h
    · rename_i o ho
      simp only [ho] at h
      split
      · rename_i hw
        simp only [hw, if_true] at h
        rcases h with h | ⟨h1, h2⟩
        · refine .inl ?_
          unfold Oper.wp at h ⊢
          generalize (execOp a.eval o).run P w = r at h ⊢
          cases r with
          | ok n w' =>
            cases n <;> simp only [Oper.upon] at h ⊢ <;> first | exact ih _ _ h | exact h.elim | skip
            · refine h.mono fun e w'' he => ?_
              cases e with
              | returned v => exact ih _ _ he
              | panicked ch => exact hq _ _ _ he
              | outgrown => obtain ⟨a0, w0, h0⟩ := he; exact ⟨a0, w0, hq _ _ _ h0⟩
            · exact h.mono fun v w'' he => ih _ _ he
          | halt x w' => cases x <;> simp only [Oper.upon] at h ⊢ <;> first | exact hq _ _ _ h | exact h.elim
        · obtain ⟨a0, w0, h0⟩ := h2
          exact .inr ⟨h1, a0, w0, hq _ _ _ h0⟩
      · rename_i hw
        simp only [hw] at h
        exact ih _ _ h

theorem Post.ops_of {ops : Array Oper} {l : List Nat} {φ' : Phi} {St' : Stab} {H' H'' : Heap} {w' : World} {ds : List Deferred} {out : Out} {tmps : List CV} {a : Act} (l' : Left N φ St H w H' φ' St' w') (hd : a.defers = ds)
    (p : wpOps P ops (Post N φ' St' H' w' a.defers out tmps H'') l a w') : wpOps P ops (Post N φ St H w ds out tmps H'') l a w' := by
  subst hd; exact Post.of_ops (fun e a w h => Post.trans l' h) _ _ _ p
theorem put_same_defers (a : Act) (d : Option Tmp) (v : Value) : (a.put d v).defers = a.defers := by cases d <;> rfl

theorem ex_ok (hc : c.Ok P) : ∀ (n : Nat) (fn : FuncId) (j : Job) (tmps : List CV) (H : Heap) (out : Out) (tmps' : List CV) (H' : Heap), ex c n fn j tmps H = some (out, tmps', H') → j.ok → JobOk P c j tmps H out tmps' H' := by
  intro n
  induction n using Nat.strongRecOn with
  | _ n ihAll =>
  intro fn j tmps H out tmps' H' h hj
  cases n with
  | zero => simp [ex] at h
  | succ n =>
  have ih := ihAll n (by omega)
  cases j with
  | code x =>
    intro N φ St w a R hg ht
    cases x with
    | skip => simp [ex] at h; obtain ⟨rfl, rfl, rfl⟩ := h; exact wp_skip ⟨φ, St, Left.refl R, ht, rfl⟩
    | label l => simp [ex] at h; obtain ⟨rfl, rfl, rfl⟩ := h; exact wp_label ⟨φ, St, Left.refl R, ht, rfl⟩
    | exit l => simp [ex] at h; obtain ⟨rfl, rfl, rfl⟩ := h; exact wp_exit ⟨φ, St, Left.refl R, rfl, ht, rfl⟩
    | goto l => simp [ex] at h; obtain ⟨rfl, rfl, rfl⟩ := h; exact wp_goto ⟨φ, St, Left.refl R, rfl, ht, rfl⟩
    | ret => simp [ex] at h; obtain ⟨rfl, rfl, rfl⟩ := h; exact wp_ret ⟨φ, St, Left.refl R, ht, rfl⟩
    | seq x y =>
      simp only [ex] at h
      refine wp_seq ?_
      cases hx : ex c n fn (.code x) tmps H with
      | none => simp [hx] at h
      | some r =>
        obtain ⟨o1, t1, h1⟩ := r
        have h0 := ih fn _ _ _ _ _ _ hx hj.1 N φ St w a R hg ht
        by_cases ho : o1 = .normal
        · subst ho
          simp only [hx] at h
          refine wp_mono h0 fun e a1 w1 p => ?_
          obtain ⟨rfl, φ1, St1, l1, ht1, hd1⟩ := p.normal
          exact Post.of_wp l1 hd1 (ih fn _ _ _ _ _ _ h hj.2 N φ1 St1 w1 a1 l1.rel (hg.mono l1.frm.toMono) ht1)
        · have h' : some (o1, t1, h1) = some (out, tmps', H') := by
            cases o1 <;> first | exact absurd rfl ho | simpa [hx] using h
          simp at h'; obtain ⟨rfl, rfl, rfl⟩ := h'
          exact wp_mono h0 fun e a1 w1 p => p.then ho
    | cond o x y =>
      simp only [ex] at h
      have hv := ev_ok hg ht o
      split at h <;> (try (simp at h; done))
      · rename_i ho
        rw [ho] at hv
        generalize hgv : a.eval o = gv at hv
        cases hv
        exact wp_cond_true hgv (ih fn _ _ _ _ _ _ h hj.1 N φ St w a R hg ht)
      · rename_i ho
        rw [ho] at hv
        generalize hgv : a.eval o = gv at hv
        cases hv
        exact wp_cond_false hgv (ih fn _ _ _ _ _ _ h hj.2 N φ St w a R hg ht)
    | block id b =>
      simp only [ex] at h
      refine wp_block ?_
      cases hx : ex c n fn (.code b) tmps H with
      | none => simp [hx] at h
      | some r =>
        obtain ⟨o1, t1, h1⟩ := r
        have h0 := ih fn _ _ _ _ _ _ hx hj N φ St w a R hg ht
        refine wp_mono h0 fun e a1 w1 p => ?_
        obtain ⟨φ1, St1, l1, hout⟩ := p
        cases o1 <;> cases e <;> simp only [OutIs] at hout <;> simp only [hx] at h
        case exit.exit i j =>
          obtain ⟨rfl, ht1, hd1⟩ := hout
          simp only [Exit.inBlock]
          split at h <;> simp at h <;> obtain ⟨rfl, rfl, rfl⟩ := h
          · rename_i hid; rw [if_pos hid]; exact ⟨φ1, St1, l1, ht1, hd1⟩
          · rename_i hid; rw [if_neg hid]; exact ⟨φ1, St1, l1, rfl, ht1, hd1⟩
        all_goals
          simp at h; obtain ⟨rfl, rfl, rfl⟩ := h
          exact ⟨φ1, St1, l1, hout⟩
    | loop b =>
      simp only [ex] at h
      exact wp_of_loopWp (ih fn _ _ _ _ _ _ h hj N φ St w a R hg ht)
    | scope b =>
      simp only [ex] at h
      exact wp_of_scopeWp (ih fn _ _ _ _ _ _ h ⟨hj, hj⟩ N φ St w a R hg ht)
    | region id ops draw plan =>
      simp only [ex] at h
      cases draw with
      | false =>
        refine wp_region ?_
        have := ih fn _ _ _ _ _ _ h rfl N φ St w a R hg ht
        simpa [planOf, Function.comp_def] using this
      | true =>
        refine wp_region_draw fun t => ?_
        rw [hc.mixed]
        have hl := Left.drew R
        have := region_any (n := n) hc (hj rfl) (fun m hm => ihAll m (by omega)) (by simpa [planOf] using h) hl.rel (hg.mono hl.frm.toMono) (ht.mono hl.frm.toMono) t
        exact Post.of_ops (fun e a w p => Post.trans hl p) _ _ _ this
  | round b =>
    intro N φ St w a R hg ht
    simp only [ex] at h
    refine loopWp_of ?_
    cases hx : ex c n fn (.code b) tmps H with
    | none => simp [hx] at h
    | some r =>
      obtain ⟨o1, t1, h1⟩ := r
      have h0 := ih fn _ _ _ _ _ _ hx hj N φ St w a R hg ht
      by_cases ho : o1 = .normal
      · subst ho
        simp only [hx] at h
        refine wp_mono h0 fun e a1 w1 p => ?_
        obtain ⟨rfl, φ1, St1, l1, ht1, hd1⟩ := p.normal
        exact Post.of_loop l1 hd1 (ih fn _ _ _ _ _ _ h hj N φ1 St1 w1 a1 l1.rel (hg.mono l1.frm.toMono) ht1)
      · have h' : some (o1, t1, h1) = some (out, tmps', H') := by
          cases o1 <;> first | exact absurd rfl ho | simpa [hx] using h
        simp at h'; obtain ⟨rfl, rfl, rfl⟩ := h'
        exact wp_mono h0 fun e a1 w1 p => p.then ho
  | scope b cur =>
    intro N φ St w a R hg ht
    simp only [ex] at h
    refine scopeWp_of ?_
    cases hx : ex c n fn (.code cur) tmps H with
    | none => simp [hx] at h
    | some r =>
      obtain ⟨o1, t1, h1⟩ := r
      have h0 := ih fn _ _ _ _ _ _ hx hj.2 N φ St w a R hg ht
      refine wp_mono h0 fun e a1 w1 p => ?_
      obtain ⟨φ1, St1, l1, hout⟩ := p
      cases o1 <;> cases e <;> simp only [OutIs] at hout <;> simp only [hx] at h
      case goto.goto i j =>
        obtain ⟨rfl, ht1, hd1⟩ := hout
        simp only [Exit.jumped, xFind_eq]
        cases hf : xFind b i with
        | none => simp [hf] at h; obtain ⟨rfl, rfl, rfl⟩ := h; exact ⟨φ1, St1, l1, rfl, ht1, hd1⟩
        | some rest =>
          simp only [hf] at h
          exact Post.of_scope l1 hd1 (ih fn _ _ _ _ _ _ h ⟨hj.1, xFind_ok hj.1 hf⟩ N φ1 St1 w1 a1 l1.rel (hg.mono l1.frm.toMono) ht1)
      all_goals
        simp at h; obtain ⟨rfl, rfl, rfl⟩ := h
        exact ⟨φ1, St1, l1, hout⟩
  | ops ops draw l =>
    intro N φ St w a R hg ht
    cases hj
    have hcall : CallOk P c fun f args h => ex c n f (.call f args) [] h := fun f args H out vs H' hh => ih f _ _ _ _ _ _ hh trivial
    cases l with
    | nil => simp [ex] at h; obtain ⟨rfl, rfl, rfl⟩ := h; exact ⟨φ, St, Left.refl R, ht, rfl⟩
    | cons p l =>
      obtain ⟨i, rs⟩ := p
      simp only [ex] at h
      simp only [List.map_cons, wpOps]
      cases ho : ops[i]? with
      | none =>
        simp [ho] at h
        exact ih fn _ _ _ _ _ _ h rfl N φ St w a R hg ht
      | some o =>
        simp only [ho] at h ⊢
        have hρ : ∀ x ∈ o.op.operands, VR φ St w (ev c.glob tmps x) (a.eval x) := fun x _ => ev_ok hg ht x
        cases hw : wantedC ops tmps o with
        | none => simp [hw] at h
        | some b =>
          rw [wantedC_ok ht hw]
          cases b with
          | false =>
            simp only [hw] at h
            exact Post.ops_of (Left.refl R) (put_same_defers _ _ _) (ih fn _ _ _ _ _ _ h rfl N φ St w (a.put o.dst undef) R hg (put_ok ht o.dst undef_ok))
          | true =>
            simp only [hw] at h
            refine .inl ?_
            split at h
            · rename_i v new hs
              have hq : opQ c.ty H H.length (ev c.glob tmps) o.op = some (v, new) := by
                unfold opStep at hs
                split at hs
                · rename_i hq; simp at hs; obtain ⟨rfl, rfl⟩ := hs; exact hq
                · split at hs <;> (try (simp at hs; done))
                  split at hs <;> (try (simp at hs; done))
                  split at hs <;> (try (simp at hs; done))
              refine quiet_wp (call := fun _ _ _ => none) (lit := false) hc.ty hq (R.longer new.toList) (Sub.append _ _) (fun b hb => ⟨R.noEnt, by subst hb; simp⟩) hρ ?_
              intro φ1 w1 u R1 F1 _ hu
              have l1 : Left N φ St H w (H ++ new.toList) φ1 St w1 := ⟨R1, F1, Keep.append _ _ _⟩
              exact Post.ops_of l1 (put_same_defers _ _ _) (ih fn _ _ _ _ _ _ h rfl N φ1 St w1 _ R1 (hg.mono F1.toMono) (put_ok (ht.mono F1.toMono) o.dst hu))
            · rename_i v h1 hs
              split at h <;> (try (simp at h; done))
              refine loud_wp hc.ty hcall hs R hg hρ ?_
              intro φ1 St1 w1 u l1 hu
              exact Post.ops_of l1 (put_same_defers _ _ _) (ih fn _ _ _ _ _ _ h rfl N φ1 St1 w1 _ l1.rel (hg.mono l1.frm.toMono) (put_ok (ht.mono l1.frm.toMono) o.dst hu))
            · rename_i v h1 hs
              simp at h; obtain ⟨rfl, rfl, rfl⟩ := h
              refine panic_wp hcall hs R hg hρ ?_
              intro φ1 St1 w1 u l1 hu
              exact ⟨φ1, St1, l1, ⟨u, rfl, hu⟩, rfl⟩
            · simp at h
  | call f args =>
    simp only [ex] at h
    split at h
    · rename_i F hF
      cases hr : F H args with
      | none => simp [hr] at h
      | some p =>
        simp [hr] at h; obtain ⟨rfl, rfl, rfl⟩ := h
        obtain ⟨h1, h2⟩ := hc.sum f F hF
        exact ⟨h1, fun N φ St w us R hg hu => h2 N φ St H w args us p.1 p.2 R hg hu hr⟩
    · split at h <;> (try (simp at h; done))
      rename_i fd hfd
      obtain ⟨fn', hf, hn, hb, hnt, hres, hok⟩ := hc.code f fd hfd
      refine ⟨enters_of hf hn hb, fun N φ St w us R hg hu => calls_of_wp hf hb ?_⟩
      have hul := hu.length
      have ht0 : VRL φ St w (args ++ List.replicate (fd.ntmps - args.length) undefC) (us.toArray ++ Array.replicate (fn'.ntmps - us.toArray.size) undef).toList := by
        simp only [Array.toList_append, Array.toList_replicate, List.size_toArray]
        rw [hnt, ← hul]
        exact hu.append (VRL.replicate _ undef_ok)
      cases hx : ex c n f (.code fd.body) (args ++ List.replicate (fd.ntmps - args.length) undefC) H with
      | none => simp [hx] at h
      | some r =>
        obtain ⟨o1, t1, h1⟩ := r
        simp only [hx] at h
        have h0 := ih f _ _ _ _ _ _ hx hok N φ St w { tmps := us.toArray ++ Array.replicate (fn'.ntmps - us.toArray.size) undef, defers := [] } R hg ht0
        refine wp_mono h0 fun e a1 w1 p => ?_
        obtain ⟨φ1, St1, l1, hout⟩ := p
        have fin : ∀ {t : List CV}, VRL φ1 St1 w1 t a1.tmps.toList → a1.defers = [] → (resultsC c.ty h1 t fd.results).map (fun cs => (Out.ret, [oneOf cs], h1)) = some (out, tmps', H') →
            a1.defers = [] ∧ ∃ v, (results fn' a1.tmps).run P w1 = .ok v w1 ∧ CallPost N φ St H w out tmps' H' (.returned v) w1 := by
          intro t ht1 hd1 h
          cases hcs : resultsC c.ty h1 t fd.results with
          | none => simp [hcs] at h
          | some cs =>
            simp [hcs] at h; obtain ⟨rfl, rfl, rfl⟩ := h
            obtain ⟨v, hv1, hv2⟩ := results_ok hc l1.rel ht1 hres hcs
            exact ⟨hd1, v, hv1, φ1, St1, l1, _, rfl, rfl, hv2⟩
        cases o1 <;> cases e <;> simp only [OutIs] at hout <;> simp only [] at h <;> (try (simp at h; done))
        · exact fin hout.1 hout.2 h
        · exact fin hout.1 hout.2 h
        · obtain ⟨⟨v, rfl, hv⟩, hd⟩ := hout
          simp at h; obtain ⟨rfl, rfl, rfl⟩ := h
          exact ⟨hd, φ1, St1, l1, _, v, rfl, rfl, hv⟩
end
end Go.Eng
