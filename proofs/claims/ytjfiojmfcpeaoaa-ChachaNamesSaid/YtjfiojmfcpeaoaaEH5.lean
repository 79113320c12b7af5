/- The evaluator says what the machine does. -/
import Derived.Test.YtjfiojmfcpeaoaaEQ2
namespace Go.Eng
set_option linter.unusedVariables false

section
variable {P : Program} {c : Cfg}

def Job.ok : Job → Prop
  | .code x => x.ok
  | .round b => b.ok
  | .scope b cur => b.ok ∧ cur.ok
  | .ops _ draw _ => draw = false
  | .call _ _ => True

/-- What a job's answer says. -/
def JobOk (P : Program) (c : Cfg) (rd : Option Nat) (j : Job) (tmps : List CV) (H : Heap) (out : Out) (tmps' : List CV) (H' : Heap) : Prop :=
  match j with
  | .code x => CodeOk P c rd x tmps H out tmps' H'
  | .round b => RoundOk P c rd b tmps H out tmps' H'
  | .scope b cur => ScopeOk P c rd b cur tmps H out tmps' H'
  | .ops ops draw l => OpsOk P c rd ops (l.map (·.1)) tmps H out tmps' H'
  | .call f args => CallFact P c f args H out tmps' H' ∧ ∀ l, f = .yl l → ∃ o, H[l]? = some o ∧ ∀ N φ St w, Rel N φ St H w → φ l ≠ some .dead

theorem ahead_of {fn : FuncId} {rd : Option Nat} {ops : Array Oper} : ∀ (n : Nat), (∀ m, m ≤ n → ∀ fn rd j tmps H out tmps' H', ex c m fn rd j tmps H = some (out, tmps', H') → j.ok → JobOk P c rd j tmps H out tmps' H') →
    ∀ (l : List (Nat × List Nat)) (tmps : List CV) (H : Heap) (out : Out) (tmps' : List CV) (H' : Heap), ex c n fn rd (.ops ops true l) tmps H = some (out, tmps', H') → Ahead P c (c.lit fn) ops l tmps H out tmps' H' := by
  intro n
  induction n with
  | zero => intro _ l tmps H out tmps' H' h; simp [ex] at h
  | succ n ihn =>
    intro ih l tmps H out tmps' H' h
    have ihn := ihn fun m hm => ih m (by omega)
    have hcall : CallOk P c fun f args h => ex c n fn none (.call f args) [] h := fun f args H out vs H' hh => ih n (by omega) fn none _ _ _ _ _ _ hh trivial
    cases l with
    | nil => simp [ex] at h; obtain ⟨rfl, rfl, rfl⟩ := h; exact .nil _ _
    | cons p l =>
      obtain ⟨i, rs⟩ := p
      simp only [ex] at h
      cases ho : ops[i]? with
      | none => simp [ho] at h
      | some o =>
        simp only [ho] at h
        cases hw : wantedC ops tmps o with
        | none => simp [hw] at h
        | some b =>
          cases b with
          | false => simp only [hw] at h; exact .skip ho hw (ihn _ _ _ _ _ _ h)
          | true =>
            simp only [hw] at h
            split at h
            · rename_i v new hs
              exact .quiet ho hw (quiet_of hs) (ihn _ _ _ _ _ _ h)
            · rename_i v h1 hs
              split at h <;> (try (simp at h; done))
              rename_i hcond
              simp only [Bool.not_true, Bool.false_or, Bool.and_eq_true] at hcond
              exact .loud ho hw hcall hs hcond.1 (.inl hcond.2) (ihn _ _ _ _ _ _ h)
            · rename_i v h1 hs
              simp at h; obtain ⟨rfl, rfl, rfl⟩ := h
              exact .panic ho hw hcall hs (panic_loud hs)
            · simp at h

theorem ex_ok (hc : c.Ok P) : ∀ (n : Nat) (fn : FuncId) (rd : Option Nat) (j : Job) (tmps : List CV) (H : Heap) (out : Out) (tmps' : List CV) (H' : Heap), ex c n fn rd j tmps H = some (out, tmps', H') → j.ok → JobOk P c rd j tmps H out tmps' H' := by
  intro n
  induction n using Nat.strongRecOn with
  | _ n ihAll =>
  intro fn rd j tmps H out tmps' H' h hj
  cases n with
  | zero => simp [ex] at h
  | succ n =>
  have ih := ihAll n (by omega)
  cases j with
  | code x =>
    cases x with
    | skip => simp [ex] at h; obtain ⟨rfl, rfl, rfl⟩ := h; exact CodeOk.skip
    | label l => simp [ex] at h; obtain ⟨rfl, rfl, rfl⟩ := h; exact CodeOk.label
    | exit l => simp [ex] at h; obtain ⟨rfl, rfl, rfl⟩ := h; exact CodeOk.exit
    | goto l => simp [ex] at h; obtain ⟨rfl, rfl, rfl⟩ := h; exact CodeOk.goto
    | ret => simp [ex] at h; obtain ⟨rfl, rfl, rfl⟩ := h; exact CodeOk.ret
    | seq x y =>
      simp only [ex] at h
      cases hx : ex c n fn rd (.code x) tmps H with
      | none => simp [hx] at h
      | some r =>
        obtain ⟨o1, t1, h1⟩ := r
        have h0 := ih fn rd _ _ _ _ _ _ hx hj.1
        by_cases ho : o1 = .normal
        · subst ho
          simp only [hx] at h
          exact CodeOk.seq h0 (ih fn rd _ _ _ _ _ _ h hj.2)
        · have h' : some (o1, t1, h1) = some (out, tmps', H') := by
            cases o1 <;> first | exact absurd rfl ho | simpa [hx] using h
          simp at h'; obtain ⟨rfl, rfl, rfl⟩ := h'
          exact CodeOk.seq_out ho h0
    | cond o x y =>
      simp only [ex] at h
      split at h <;> (try (simp at h; done))
      · rename_i ho; exact CodeOk.cond_true ho (ih fn rd _ _ _ _ _ _ h hj.1)
      · rename_i ho; exact CodeOk.cond_false ho (ih fn rd _ _ _ _ _ _ h hj.2)
    | block id b =>
      simp only [ex] at h
      cases hx : ex c n fn rd (.code b) tmps H with
      | none => simp [hx] at h
      | some r =>
        obtain ⟨o1, t1, h1⟩ := r
        have h0 := CodeOk.block (id := id) (ih fn rd _ _ _ _ _ _ hx hj)
        have : some (o1.inBlock id, t1, h1) = some (out, tmps', H') := by
          cases o1 <;> simp only [hx] at h <;> simp only [Out.inBlock] <;> first | exact h | (rw [← h]; split <;> rfl)
        simp at this; obtain ⟨rfl, rfl, rfl⟩ := this
        exact h0
    | loop b => simp only [ex] at h; exact CodeOk.loop (ih fn rd _ _ _ _ _ _ h hj)
    | scope b => simp only [ex] at h; exact CodeOk.scope (ih fn rd _ _ _ _ _ _ h ⟨hj, hj⟩)
    | rangeFunc g ps a b =>
      simp only [ex] at h
      split at h <;> (try (simp at h; done))
      rename_i hin
      split at h <;> (try (simp at h; done))
      rename_i gf first captured hg0
      split at h <;> (try (simp at h; done))
      · rename_i v h1 hx
        have hC := (ih gf none _ _ _ _ _ _ hx trivial).1
        have ht : tmps' = tmps := by
          unfold endLoopC at h
          split at h <;> (try (simp at h; done))
          split at h <;> (try (simp at h; done))
          simp at h; exact h.2.1.symm
        subst ht
        exact CodeOk.range_any fn hin hg0 hC hj.1 hj.2 (.inl ⟨rfl, h⟩)
      · rename_i v vs h1 hx
        have hC := (ih gf none _ _ _ _ _ _ hx trivial).1
        simp at h; obtain ⟨rfl, rfl, rfl⟩ := h
        exact CodeOk.range_any fn hin hg0 hC hj.1 hj.2 (.inr ⟨v, rfl, rfl, rfl⟩)
    | region id ops draw plan =>
      simp only [ex] at h
      cases draw with
      | false =>
        have := ih fn rd _ _ _ _ _ _ h rfl
        refine CodeOk.region ?_
        simpa [JobOk, planOf, Function.comp_def] using this
      | true => exact CodeOk.region_draw hc (hj rfl) (ahead_of n (fun m hm => ihAll m (by omega)) _ _ _ _ _ _ (by simpa [planOf] using h))
  | round b =>
    simp only [ex] at h
    cases hx : ex c n fn rd (.code b) tmps H with
    | none => simp [hx] at h
    | some r =>
      obtain ⟨o1, t1, h1⟩ := r
      have h0 := ih fn rd _ _ _ _ _ _ hx hj
      by_cases ho : o1 = .normal
      · subst ho
        simp only [hx] at h
        exact RoundOk.more h0 (ih fn rd _ _ _ _ _ _ h hj)
      · have h' : some (o1, t1, h1) = some (out, tmps', H') := by
          cases o1 <;> first | exact absurd rfl ho | simpa [hx] using h
        simp at h'; obtain ⟨rfl, rfl, rfl⟩ := h'
        exact RoundOk.leave ho h0
  | scope b cur =>
    simp only [ex] at h
    cases hx : ex c n fn rd (.code cur) tmps H with
    | none => simp [hx] at h
    | some r =>
      obtain ⟨o1, t1, h1⟩ := r
      have h0 := ih fn rd _ _ _ _ _ _ hx hj.2
      have other : (∀ l, o1 = .goto l → xFind b l = none) → some (o1, t1, h1) = some (out, tmps', H') → ScopeOk P c rd b cur tmps H out tmps' H' := by
        intro hl h'
        simp at h'; obtain ⟨rfl, rfl, rfl⟩ := h'
        exact ScopeOk.leave hl h0
      cases o1 with
      | goto l =>
        simp only [hx] at h
        cases hf : xFind b l with
        | none => simp only [hf] at h; exact other (fun l' e => by simp at e; subst e; exact hf) h
        | some rest => simp only [hf] at h; exact ScopeOk.jump h0 hf (ih fn rd _ _ _ _ _ _ h ⟨hj.1, xFind_ok hj.1 hf⟩)
      | normal => simp only [hx] at h; exact other (by simp) h
      | exit i => simp only [hx] at h; exact other (by simp) h
      | ret => simp only [hx] at h; exact other (by simp) h
      | panic v => simp only [hx] at h; exact other (by simp) h
  | ops ops draw l =>
    cases hj
    have hcall : CallOk P c fun f args h => ex c n fn none (.call f args) [] h := fun f args H out vs H' hh => ih fn none _ _ _ _ _ _ hh trivial
    cases l with
    | nil => simp [ex] at h; obtain ⟨rfl, rfl, rfl⟩ := h; exact OpsOk.nil
    | cons p l =>
      obtain ⟨i, rs⟩ := p
      simp only [ex] at h
      simp only [JobOk, List.map_cons]
      cases ho : ops[i]? with
      | none => simp [ho] at h; exact OpsOk.none ho (ih fn rd _ _ _ _ _ _ h rfl)
      | some o =>
        simp only [ho] at h
        cases hw : wantedC ops tmps o with
        | none => simp [hw] at h
        | some b =>
          cases b with
          | false => simp only [hw] at h; exact OpsOk.skip ho hw (ih fn rd _ _ _ _ _ _ h rfl)
          | true =>
            simp only [hw] at h
            split at h
            · rename_i v new hs; exact OpsOk.quiet hc ho hw (quiet_of hs) (ih fn rd _ _ _ _ _ _ h rfl)
            · rename_i v h1 hs
              split at h <;> (try (simp at h; done))
              exact OpsOk.loud hc hcall ho hw hs (ih fn rd _ _ _ _ _ _ h rfl)
            · rename_i v h1 hs
              simp at h; obtain ⟨rfl, rfl, rfl⟩ := h
              exact OpsOk.panic hcall ho hw hs
            · simp at h
  | call f args =>
    cases f with
    | fn f =>
      refine ⟨?_, by simp⟩
      simp only [ex] at h
      split at h
      · rename_i F hF
        cases hr : F H args with
        | none => simp [hr] at h
        | some p =>
          simp [hr] at h; obtain ⟨rfl, rfl, rfl⟩ := h
          exact CallFact.sum hc hF hr
      · split at h <;> (try (simp at h; done))
        rename_i fd hfd
        split at h
        · rename_i ts hts
          have hpa : pureCs args = true := by
            cases hp : pureCs args <;> simp [hp] at hts ⊢
          have fin : ∀ {o : Out} {t1 : List CV} {h1 : Heap}, (o = .normal ∨ o = .ret) → ex c n f none (.code fd.body) (args ++ List.replicate (fd.ntmps - args.length) undefC) [] = some (o, t1, h1) →
              ((resultsC c.ty h1 t1 fd.results).bind (exVs c.ty h1 ts)).map (fun cs => (Out.ret, [oneOf cs], H)) = some (out, tmps', H') → CallFact P c (.fn f) args H out tmps' H' := by
            intro o t1 h1 ho hx h
            cases hcs : resultsC c.ty h1 t1 fd.results with
            | none => simp [hcs] at h
            | some cs =>
              cases hes : exVs c.ty h1 ts cs with
              | none => simp [hcs, hes] at h
              | some cs' =>
                simp [hcs, hes] at h; obtain ⟨rfl, rfl, rfl⟩ := h
                have hF := CallFact.body hc hfd ho (fun hok => ih f none _ _ _ _ _ _ hx hok) hcs
                have hpv : pureC (oneOf cs') = true := by
                  obtain ⟨hent, hC⟩ := hF
                  exact exVs_pure hes
                exact (PureFact.of_call hc.ty hF hes).call hc.glob hpa hpv H
          split at h <;> (try (simp at h; done))
          · rename_i t1 h1 hx; exact fin (.inl rfl) hx h
          · rename_i t1 h1 hx; exact fin (.inr rfl) hx h
        cases hx : ex c n f none (.code fd.body) (args ++ List.replicate (fd.ntmps - args.length) undefC) H with
        | none => simp [hx] at h
        | some r =>
          obtain ⟨o1, t1, h1⟩ := r
          have h0 : fd.body.ok → CodeOk P c none fd.body _ H o1 t1 h1 := fun hok => ih f none _ _ _ _ _ _ hx hok
          simp only [hx] at h
          have fin : ∀ {o}, (o = .normal ∨ o = .ret) → (fd.body.ok → CodeOk P c none fd.body (args ++ List.replicate (fd.ntmps - args.length) undefC) H o t1 h1) → (resultsC c.ty h1 t1 fd.results).map (fun cs => (Out.ret, [oneOf cs], h1)) = some (out, tmps', H') → CallFact P c (.fn f) args H out tmps' H' := by
            intro o ho h0 h
            cases hcs : resultsC c.ty h1 t1 fd.results with
            | none => simp [hcs] at h
            | some cs =>
              simp [hcs] at h; obtain ⟨rfl, rfl, rfl⟩ := h
              exact CallFact.body hc hfd ho h0 hcs
          cases o1 <;> simp only [] at h <;> (try (simp at h; done))
          · exact fin (.inl rfl) h0 h
          · exact fin (.inr rfl) h0 h
          · simp at h; obtain ⟨rfl, rfl, rfl⟩ := h
            exact CallFact.body_panic hc hfd h0
    | yl l =>
      simp only [ex] at h
      split at h <;> (try (simp at h; done))
      rename_i f ts ps a b pend hl
      refine ⟨?_, fun l' e => by simp at e; subst e; exact CallFact.round_alive hl⟩
      split at h <;> (try (simp at h; done))
      rename_i hn
      split at h <;> (try (simp at h; done))
      rename_i t1 h1 hx
      split at h <;> (try (simp at h; done))
      rename_i h2 hb
      split at h <;> (try (simp at h; done))
      rename_i o t2 h3 hx2
      have ho : out = .ret := by
        unfold endC at h
        split at h <;> (try (simp at h; done))
        simp at h; exact h.1.symm
      subst ho
      exact CallFact.round hl hn (fun hok => ih f (some l) _ _ _ _ _ _ hx hok) hb (fun hok => ih f (some l) _ _ _ _ _ _ hx2 hok) h
end
end Go.Eng
