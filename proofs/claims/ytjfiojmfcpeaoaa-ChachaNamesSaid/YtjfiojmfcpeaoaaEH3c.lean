/- Regions in any order. -/
import Derived.Test.YtjfiojmfcpeaoaaEH3b
namespace Go.Eng
set_option linter.unusedVariables false

/-- What the plan's order does. -/
inductive Ahead (P : Program) (c : Cfg) (lit : Bool) (ops : Array Oper) : List (Nat × List Nat) → List CV → Heap → Out → List CV → Heap → Prop where
  | nil (T : List CV) (h : Heap) : Ahead P c lit ops [] T h .normal T h
  | skip {i : Nat} {rs : List Nat} {l : List (Nat × List Nat)} {T : List CV} {h : Heap} {o : Oper} {out : Out} {T' : List CV} {h' : Heap} (ho : ops[i]? = some o) (hw : wantedC ops T o = some false)
      (k : Ahead P c lit ops l (putC T o.dst undefC) h out T' h') : Ahead P c lit ops ((i, rs) :: l) T h out T' h'
  | quiet {i : Nat} {rs : List Nat} {l : List (Nat × List Nat)} {T : List CV} {h : Heap} {o : Oper} {out : Out} {T' : List CV} {h' : Heap} {v : CV} {new : Option HObj} (ho : ops[i]? = some o) (hw : wantedC ops T o = some true)
      (hq : opQ c.ty h h.length (ev c.glob T) o.op = some (v, new)) (k : Ahead P c lit ops l (putC T o.dst v) (h ++ new.toList) out T' h') : Ahead P c lit ops ((i, rs) :: l) T h out T' h'
  | loud {i : Nat} {rs : List Nat} {l : List (Nat × List Nat)} {T : List CV} {h : Heap} {o : Oper} {out : Out} {T' : List CV} {h' : Heap} {v : CV} {h2 : Heap} {call : Who → List CV → Heap → Ans} (ho : ops[i]? = some o) (hw : wantedC ops T o = some true)
      (hcall : CallOk P c call) (hs : opStep c lit call h (ev c.glob T) o.op = some (.loud v h2)) (hl : loudOp o.op = true) (ha : again c h2 ops T rs = true ∨ h2 = h)
      (k : Ahead P c lit ops l (putC T o.dst v) h2 out T' h') : Ahead P c lit ops ((i, rs) :: l) T h out T' h'
  | panic {i : Nat} {rs : List Nat} {l : List (Nat × List Nat)} {T : List CV} {h : Heap} {o : Oper} {v : CV} {h2 : Heap} {call : Who → List CV → Heap → Ans} (ho : ops[i]? = some o) (hw : wantedC ops T o = some true)
      (hcall : CallOk P c call) (hs : opStep c lit call h (ev c.glob T) o.op = some (.panic v h2)) (hl : loudOp o.op = true) : Ahead P c lit ops ((i, rs) :: l) T h (.panic v) T h2

/-- The quiet part before the next loud operation. -/
inductive QS (c : Cfg) (ops : Array Oper) : List Rec → List CV → Heap → List CV → Heap → Prop where
  | nil (T : List CV) (h : Heap) : QS c ops [] T h T h
  | skip {i : Nat} {rs : List Nat} {qs : List Rec} {T T1 : List CV} {h h1 : Heap} {o : Oper} (ho : ops[i]? = some o) (hw : wantedC ops T o = some false) (k : QS c ops qs (putC T o.dst undefC) h T1 h1) :
      QS c ops ({ i, rs, o, val := undefC, live := false, n := 0, new := none, tmps := T } :: qs) T h T1 h1
  | quiet {i : Nat} {rs : List Nat} {qs : List Rec} {T T1 : List CV} {h h1 : Heap} {o : Oper} {v : CV} {new : Option HObj} (ho : ops[i]? = some o) (hw : wantedC ops T o = some true)
      (hq : opQ c.ty h h.length (ev c.glob T) o.op = some (v, new)) (k : QS c ops qs (putC T o.dst v) (h ++ new.toList) T1 h1) :
      QS c ops ({ i, rs, o, val := v, live := true, n := h.length, new, tmps := T } :: qs) T h T1 h1

abbrev mkL (i : Nat) (rs : List Nat) (o : Oper) (v : CV) (T : List CV) : Rec := { i := i, rs := rs, o := o, val := v, live := true, n := 0, new := none, tmps := T }

/-- Where the quiet part ends. -/
inductive Stop (P : Program) (c : Cfg) (lit : Bool) (ops : Array Oper) : List (Nat × List Nat) → List CV → Heap → Out → List CV → Heap → Prop where
  | nil (T : List CV) (h : Heap) : Stop P c lit ops [] T h .normal T h
  | loud {i : Nat} {rs : List Nat} {l : List (Nat × List Nat)} {T : List CV} {h : Heap} {o : Oper} {out : Out} {T' : List CV} {h' : Heap} {v : CV} {h2 : Heap} {call : Who → List CV → Heap → Ans} (ho : ops[i]? = some o) (hw : wantedC ops T o = some true)
      (hcall : CallOk P c call) (hs : opStep c lit call h (ev c.glob T) o.op = some (.loud v h2)) (hl : loudOp o.op = true) (ha : again c h2 ops T rs = true ∨ h2 = h)
      (k : Ahead P c lit ops l (putC T o.dst v) h2 out T' h') : Stop P c lit ops ((i, rs) :: l) T h out T' h'
  | panic {i : Nat} {rs : List Nat} {l : List (Nat × List Nat)} {T : List CV} {h : Heap} {o : Oper} {v : CV} {h2 : Heap} {call : Who → List CV → Heap → Ans} (ho : ops[i]? = some o) (hw : wantedC ops T o = some true)
      (hcall : CallOk P c call) (hs : opStep c lit call h (ev c.glob T) o.op = some (.panic v h2)) (hl : loudOp o.op = true) : Stop P c lit ops ((i, rs) :: l) T h (.panic v) T h2

section
variable {P : Program} {c : Cfg} {lit : Bool} {ops : Array Oper}

theorem Ahead.split {l : List (Nat × List Nat)} {T : List CV} {h : Heap} {out : Out} {T' : List CV} {h' : Heap} (a : Ahead P c lit ops l T h out T' h') :
    ∃ qs l2 T1 h1, l = qs.map Rec.key ++ l2 ∧ QS c ops qs T h T1 h1 ∧ Stop P c lit ops l2 T1 h1 out T' h' := by
  induction a with
  | nil T h => exact ⟨[], [], T, h, rfl, .nil _ _, .nil _ _⟩
  | skip ho hw k ih => obtain ⟨qs, l2, T1, h1, rfl, q, s⟩ := ih; exact ⟨_ :: qs, l2, T1, h1, rfl, .skip ho hw q, s⟩
  | quiet ho hw hq k ih => obtain ⟨qs, l2, T1, h1, rfl, q, s⟩ := ih; exact ⟨_ :: qs, l2, T1, h1, rfl, .quiet ho hw hq q, s⟩
  | loud ho hw hcall hs hl ha k => exact ⟨[], _, _, _, rfl, .nil _ _, .loud ho hw hcall hs hl ha k⟩
  | panic ho hw hcall hs hl => exact ⟨[], _, _, _, rfl, .nil _ _, .panic ho hw hcall hs hl⟩

/-- What is known of the operations of the plan before the next loud one that is not done. -/
structure Good (c : Cfg) (ops : Array Oper) (D : Nat → Bool) (T0 : List CV) (old : List Rec) (T : List CV) (h : Heap) : Prop where
  op : ∀ r ∈ old, ops[r.i]? = some r.o
  tm : ∀ (p : Nat) (r : Rec), old[p]? = some r → r.tmps = fold (old.take p) T0
  fin : T = fold old T0
  want : ∀ r ∈ old, wantedC ops r.tmps r.o = some r.live
  skip : ∀ r ∈ old, r.live = false → r.val = undefC ∧ r.new = none
  valid : ∀ r ∈ old, r.live = true → D r.i = false → ∃ v, opQ c.ty h r.n (ev c.glob r.tmps) r.o.op = some (v, r.new) ∧ ∀ d, r.o.dst = some d → v = r.val
  obj : ∀ r ∈ old, D r.i = false → ∀ b, r.new = some b → h[r.n]? = some b
  ns : ∀ (p q : Nat) (r r' : Rec), p < q → old[p]? = some r → old[q]? = some r' → r.new.isSome = true → r'.new.isSome = true → r.n < r'.n
  nlt : ∀ r ∈ old, r.new.isSome = true → r.n < h.length

theorem Good.snoc {D : Nat → Bool} {T0 T : List CV} {old : List Rec} {h : Heap} (g : Good c ops D T0 old T h) (r : Rec) {H : Heap} (hs : Sub h H) (ho : ops[r.i]? = some r.o) (ht : r.tmps = T) (hw : wantedC ops T r.o = some r.live)
    (hk : r.live = false → r.val = undefC ∧ r.new = none) (hv : r.live = true → D r.i = false → opQ c.ty h r.n (ev c.glob T) r.o.op = some (r.val, r.new)) (hb : ∀ b, r.new = some b → H[r.n]? = some b) (hn : r.new.isSome = true → h.length ≤ r.n) :
    Good c ops D T0 (old ++ [r]) (putC T r.o.dst r.val) H where
  op := by intro r' hr; rcases List.mem_append.1 hr with hr | hr; exact g.op r' hr; simp at hr; subst hr; exact ho
  tm := by
    intro p r' hr
    by_cases hp : p < old.length
    · rw [List.getElem?_append_left hp] at hr
      rw [List.take_append_of_le_length (by omega)]
      exact g.tm p r' hr
    · rw [List.getElem?_append_right (by omega)] at hr
      have hp0 : p - old.length = 0 := by
        have := (List.getElem?_eq_some_iff.1 hr).1; simp at this; exact this
      rw [hp0] at hr; simp at hr; subst hr
      rw [ht, g.fin, show p = old.length by omega]; simp
  fin := by rw [fold_append, ← g.fin]; rfl
  want := by intro r' hr; rcases List.mem_append.1 hr with hr | hr; exact g.want r' hr; simp at hr; subst hr; rw [ht]; exact hw
  skip := by intro r' hr; rcases List.mem_append.1 hr with hr | hr; exact g.skip r' hr; simp at hr; subst hr; exact hk
  valid := by
    intro r' hr hl hD
    rcases List.mem_append.1 hr with hr | hr
    · obtain ⟨v, h1, h2⟩ := g.valid r' hr hl hD; exact ⟨v, opQ_mono hs h1, h2⟩
    · simp at hr; subst hr
      rw [ht]; exact ⟨_, opQ_mono hs (hv hl hD), fun _ _ => rfl⟩
  obj := by
    intro r' hr hD b hb'
    rcases List.mem_append.1 hr with hr | hr
    · exact hs _ _ (g.obj r' hr hD b hb')
    · simp at hr; subst hr; exact hb b hb'
  ns := by
    intro p q r1 r2 hpq h1 h2 n1 n2
    by_cases hq : q < old.length
    · rw [List.getElem?_append_left hq] at h2
      rw [List.getElem?_append_left (by omega)] at h1
      exact g.ns p q r1 r2 hpq h1 h2 n1 n2
    · rw [List.getElem?_append_right (by omega)] at h2
      have hq0 : q - old.length = 0 := by
        have := (List.getElem?_eq_some_iff.1 h2).1; simp at this; exact this
      rw [hq0] at h2; simp at h2; subst h2
      rw [List.getElem?_append_left (by omega)] at h1
      have := g.nlt r1 (List.mem_of_getElem? h1) n1
      have := hn n2
      omega
  nlt := by
    intro r' hr hn'
    rcases List.mem_append.1 hr with hr | hr
    · have h1 := g.nlt r' hr hn'
      obtain ⟨x, hx⟩ : ∃ x, h[r'.n]? = some x := ⟨h[r'.n], List.getElem?_eq_getElem h1⟩
      exact (List.getElem?_eq_some_iff.1 (hs _ _ hx)).1
    · simp at hr; subst hr
      cases hb' : r'.new with
      | none => rw [hb'] at hn'; simp at hn'
      | some b => exact (List.getElem?_eq_some_iff.1 (hb b hb')).1

theorem Good.quiets {D : Nat → Bool} {T0 : List CV} {qs : List Rec} {T T1 : List CV} {h h1 : Heap} (q : QS c ops qs T h T1 h1) : ∀ {old : List Rec}, Good c ops D T0 old T h →
    Good c ops D T0 (old ++ qs) T1 h1 ∧ (∃ x, h1 = h ++ x) ∧ ∀ r ∈ qs, r.new.isSome = true → h.length ≤ r.n := by
  induction q with
  | nil T h => intro old g; exact ⟨by simpa using g, ⟨[], by simp⟩, by simp⟩
  | skip ho hw k ih =>
    rename_i i rs qs T T1 h h1 o
    intro old g
    have g' := g.snoc { i := i, rs := rs, o := o, val := undefC, live := false, n := 0, new := none, tmps := T } (Sub.refl _) ho rfl hw (fun _ => ⟨rfl, rfl⟩) (by simp) (by simp) (by simp)
    obtain ⟨g2, hx, hn⟩ := ih g'
    refine ⟨by simpa using g2, hx, ?_⟩
    intro r hr
    rcases List.mem_cons.1 hr with rfl | hr
    · simp
    · exact hn r hr
  | quiet ho hw hq k ih =>
    rename_i i rs qs T T1 h h1 o v new
    intro old g
    have g' := g.snoc { i := i, rs := rs, o := o, val := v, live := true, n := h.length, new := new, tmps := T } (Sub.append h new.toList) ho rfl hw (by simp) (fun _ _ => hq) (fun b hb => by simp at hb; subst hb; simp) (fun _ => Nat.le_refl _)
    obtain ⟨g2, ⟨x, hx⟩, hn⟩ := ih g'
    refine ⟨by simpa using g2, ⟨new.toList ++ x, by simp [hx]⟩, ?_⟩
    intro r hr
    rcases List.mem_cons.1 hr with rfl | hr
    · simp
    · intro hs; have := hn r hr hs; simp at this; omega

theorem ev_congr {g : Nat → Option CV} {T T' : List CV} {x : Operand} (h : ∀ t, x = .tmp t → T[t]? = T'[t]?) : ev g T x = ev g T' x := by
  cases x <;> simp only [ev]
  simp [List.getD, h _ rfl]

theorem looks_ops {i : Nat} {o : Oper} (ho : ops[i]? = some o) : looks ops i = o.looksAt ops := by simp [looks, ho]

theorem operand_look {o : Oper} {t : Tmp} (h : Operand.tmp t ∈ o.op.operands) : t ∈ o.looksAt ops :=
  List.mem_append_left _ (List.mem_filterMap.2 ⟨.tmp t, by simpa using h, rfl⟩)

theorem wantedC_congr {T T' : List CV} {o : Oper} (h : ∀ t ∈ o.looksAt ops, T[t]? = T'[t]?) : wantedC ops T o = wantedC ops T' o := by
  unfold wantedC
  cases hg : o.guard with
  | none => rfl
  | some p =>
    obtain ⟨j, want⟩ := p
    simp only
    cases hd : (ops[j]?).bind (·.dst) with
    | none => rfl
    | some d =>
      simp only
      rw [h d (by unfold Oper.looksAt; simp [hg, hd])]

theorem again_mem {h : Heap} {T : List CV} {i : Nat} {o : Oper} : ∀ {rs : List Nat}, again c h ops T rs = true → i ∈ rs → ops[i]? = some o → wantedC ops T o = some true →
    (∃ v b, opQ c.ty h 0 (ev c.glob T) o.op = some (v, some b)) ∨ ∃ v, opQ c.ty h 0 (ev c.glob T) o.op = some (v, none) ∧ ∀ d, o.dst = some d → ∃ u, T[d]? = some u ∧ v = u
  | [], _, hi, _, _ => by simp at hi
  | r :: rs, ha, hi, ho, hw => by
    simp only [again, Bool.and_eq_true] at ha
    obtain ⟨h1, h2⟩ := ha
    rcases List.mem_cons.1 hi with rfl | hi
    · rw [ho] at h1
      simp only [hw] at h1
      split at h1
      · rename_i v b hq; exact .inl ⟨v, b, hq⟩
      · rename_i v hq
        refine .inr ⟨v, hq, fun d hd => ?_⟩
        simp only [hd] at h1
        split at h1
        · rename_i u hu; exact ⟨u, hu, CV.same_eq _ _ h1⟩
        · simp at h1
      · simp at h1
    · exact again_mem h2 hi ho hw

/-- After a loud operation, what is not done yet holds as before. -/
theorem Good.after {plan : List (Nat × List Nat)} {bs : Array Nat} (PW : PlanOkW ops plan bs) {D D' : Nat → Bool} (hD : Closed ops D) (hlt : ∀ i, D i = true → i < ops.size) (hDD : ∀ i, D' i = false → D i = false)
    {T0 T : List CV} {old : List Rec} {h h2 : Heap} (g : Good c ops D T0 old T h) {i : Nat} {rs : List Nat} {l : List (Nat × List Nat)} (hp : plan = old.map Rec.key ++ (i, rs) :: l) {o : Oper} (ho : ops[i]? = some o) (hl : loudOp o.op = true)
    (hd : ∀ e ∈ deps ops i, D e = true) (ha : again c h2 ops T rs = true ∨ h2 = h) (hlen : h.length ≤ h2.length) (hk : ∀ r ∈ old, D r.i = false → r.new.isSome = true → h2[r.n]? = h[r.n]?) : Good c ops D' T0 old T h2 where
  op := g.op
  tm := g.tm
  fin := g.fin
  want := g.want
  skip := g.skip
  ns := g.ns
  nlt := fun r hr hn => Nat.lt_of_lt_of_le (g.nlt r hr hn) hlen
  obj := fun r hr hDr b hb => by rw [hk r hr (hDD _ hDr) (by simp [hb])]; exact g.obj r hr (hDD _ hDr) b hb
  valid := by
    intro r hr hlive hDr
    have hDr := hDD _ hDr
    refine ha.elim (fun ha => ?_) (fun he => by rw [he]; exact g.valid r hr hlive hDr)
    obtain ⟨v0, h1, hv0⟩ := g.valid r hr hlive hDr
    cases hnew : r.new with
    | some b =>
      rw [hnew] at h1
      obtain ⟨v', h3, h4⟩ := Q_alloc h1 h2 r.n
      rw [h4 rfl] at h3
      exact ⟨v0, h3, hv0⟩
    | none =>
      rw [hnew] at h1
      obtain ⟨p, hpr⟩ := List.mem_iff_getElem?.1 hr
      have hpl := (List.getElem?_eq_some_iff.1 hpr).1
      have hq : plan[old.length]? = some (i, rs) := by rw [hp, List.getElem?_append_right (by simp)]; simp
      have hro := g.op r hr
      rcases PW.loud2 p old.length r.i i r.rs rs hpl (get_key hp hpr) hq (by simp [loudAt, ho, hl]) with hx | hx | hx
      · have := PW.anc_in hD hlt hd hx
        rw [hDr] at this; simp at this
      · have hst : stillOp r.o.op = true := by simpa [stillAt, hro] using hx
        exact ⟨v0, by rw [still_same hst h2 h]; exact h1, hv0⟩
      · have htake : T = fold (old.drop p) r.tmps := by
          rw [g.tm p r hpr, ← fold_append, List.take_append_drop]; exact g.fin
        have hdrop : old.drop p = r :: old.drop (p + 1) := by
          have h1 := List.drop_eq_getElem_cons hpl
          rw [(List.getElem?_eq_some_iff.1 hpr).2] at h1; exact h1
        have hlater : ∀ r' ∈ old.drop (p + 1), ∀ t, r'.o.dst = some t → t ∉ looks ops r.i ∧ dstOf ops r.i ≠ some t := by
          intro r' hr' t ht
          obtain ⟨k, hk'⟩ := List.mem_iff_getElem?.1 hr'
          rw [List.getElem?_drop] at hk'
          have hkl := (List.getElem?_eq_some_iff.1 hk').1
          refine PW.again p (p + 1 + k) old.length r.i r'.i i r.rs r'.rs rs (by omega) hkl (get_key hp hpr) (get_key hp hk') hq hx t ?_
          simp [dstOf, g.op r' (List.mem_of_getElem? hk'), ht]
        have hself : ∀ t, r.o.dst = some t → t ∉ looks ops r.i := fun t ht => PW.again0 p old.length r.i i r.rs rs hpl (get_key hp hpr) hq hx t (by simp [dstOf, hro, ht])
        have hagree : ∀ t ∈ r.o.looksAt ops, T[t]? = r.tmps[t]? := by
          intro t ht
          rw [htake]
          apply fold_none
          intro r' hr' hdst
          rw [hdrop] at hr'
          rcases List.mem_cons.1 hr' with rfl | hr'
          · exact hself t hdst (by rw [looks_ops hro]; exact ht)
          · exact (hlater r' hr' t hdst).1 (by rw [looks_ops hro]; exact ht)
        have hcong : ∀ h n, opQ c.ty h n (ev c.glob T) r.o.op = opQ c.ty h n (ev c.glob r.tmps) r.o.op := fun h n => opQ_congr fun x hx => ev_congr fun t ht => by
          subst ht; exact hagree t (operand_look hx)
        have hw : wantedC ops T r.o = some true := by rw [wantedC_congr hagree, g.want r hr, hlive]
        rcases again_mem ha hx hro hw with ⟨v, b, hb⟩ | ⟨v, hv, hvd⟩
        · rw [hcong] at hb
          obtain ⟨v', h3, _⟩ := Q_alloc hb h r.n
          rw [h1] at h3; simp at h3
        · rw [hcong] at hv
          refine ⟨v, Q_none hv r.n, fun d hdd => ?_⟩
          obtain ⟨u, hu, rfl⟩ := hvd d hdd
          rw [htake, hdrop, fold_cons, fold_none _ _ fun r' hr' ht => (hlater r' hr' d ht).2 (by simp [dstOf, hro, hdd])] at hu
          simp only [hdd, putC, List.getElem?_set] at hu
          split at hu
          · split at hu <;> simp at hu; exact hu.symm
          · rename_i hne; exact absurd trivial hne

theorem Good.mono {D D' : Nat → Bool} (hDD : ∀ i, D' i = false → D i = false) {T0 T : List CV} {old : List Rec} {h : Heap} (g : Good c ops D T0 old T h) : Good c ops D' T0 old T h :=
  { g with valid := fun r hr hl hD => g.valid r hr hl (hDD _ hD), obj := fun r hr hD => g.obj r hr (hDD _ hD) }

theorem deps_of_ready {listed : Array Bool} {i : Nat} (h : i ∈ Region.ready .any ops listed) : i < ops.size ∧ listed.getD i true = false ∧ ∀ e ∈ deps ops i, listed.getD e false = true := by
  unfold Region.ready at h
  simp only [List.mem_filter, List.mem_range, Bool.and_eq_true, Bool.not_eq_true'] at h
  obtain ⟨h1, h2, h3⟩ := h
  refine ⟨h1, h2, ?_⟩
  obtain ⟨o, ho⟩ : ∃ o, ops[i]? = some o := ⟨ops[i], by simp⟩
  rw [ho] at h3
  simp only [Option.map_some, Option.getD_some, Array.all_eq_true_iff_forall_mem] at h3
  intro e he
  simp only [deps, ho, Option.map_some, Option.getD_some, List.mem_map, List.mem_filter] at he
  obtain ⟨x, ⟨hx, hb⟩, rfl⟩ := he
  have := h3 x (by simpa using hx)
  simpa [hb] using this

theorem ready_of {listed : Array Bool} {i : Nat} (h1 : i < ops.size) (h2 : listed.getD i true = false) (h3 : ∀ e ∈ deps ops i, listed.getD e false = true) : i ∈ Region.ready .any ops listed := by
  unfold Region.ready
  simp only [List.mem_filter, List.mem_range, Bool.and_eq_true, Bool.not_eq_true']
  refine ⟨h1, h2, ?_⟩
  obtain ⟨o, ho⟩ : ∃ o, ops[i]? = some o := ⟨ops[i], by simp [h1]⟩
  rw [ho]
  simp only [Option.map_some, Option.getD_some, Array.all_eq_true_iff_forall_mem]
  intro x hx
  cases hb : Region.binds .any x with
  | false => simp
  | true =>
    simp only [Bool.not_true, Bool.false_or]
    refine h3 x.on ?_
    simp only [deps, ho, Option.map_some, Option.getD_some, List.mem_map, List.mem_filter]
    exact ⟨x, ⟨by simpa using hx, hb⟩, rfl⟩

def Dl (listed : Array Bool) (i : Nat) : Bool := listed.getD i false

theorem Dl_set {listed : Array Bool} {i : Nat} (hi : i < listed.size) (j : Nat) : Dl (listed.setIfInBounds i true) j = (Dl listed j || j == i) := by
  unfold Dl
  by_cases h : j = i
  · subst h; simp [Array.getD, hi]
  · have : ¬ i = j := fun e => h e.symm
    simp [this, h]

theorem count_drop {α : Type} {f g : α → Bool} : ∀ {L : List α} {p : Nat} {r : α}, L[p]? = some r → f r = true → g r = false → (∀ (q : Nat) (x : α), L[q]? = some x → q ≠ p → f x = g x) → (L.filter f).length = (L.filter g).length + 1
  | x :: L, 0, r, h, hf, hg, he => by
    simp at h; subst h
    have : L.filter f = L.filter g := List.filter_congr fun y hy => by
      obtain ⟨q, hq⟩ := List.mem_iff_getElem?.1 hy
      exact he (q + 1) y (by simpa using hq) (by omega)
    simp [hf, hg, this]
  | x :: L, p + 1, r, h, hf, hg, he => by
    have ih := count_drop (L := L) (p := p) (by simpa using h) hf hg fun q y hq hne => he (q + 1) y (by simpa using hq) (by omega)
    have hx := he 0 x (by simp) (by omega)
    rw [List.filter_cons, List.filter_cons, hx]
    split <;> simp [ih]

variable (hty : c.ty.Ok P)
include hty

theorem region_go {ro : Option Nat} {plan : List (Nat × List Nat)} {bs : Array Nat} (PW : PlanOkW ops plan bs) {N : Nat} {φ0 : Phi} {St0 : Stab} {H0 : Heap} {w0 : World} {ds : List Deferred} {T0 : List CV} {out : Out} {T' : List CV} {h' : Heap} :
    ∀ (fuel : Nat) (listed : Array Bool) (a : Act) (w : World) (φ : Phi) (St : Stab) (old : List Rec) (l : List (Nat × List Nat)) (T : List CV) (h : Heap),
    listed.size = ops.size → plan = old.map Rec.key ++ l → Good c ops (Dl listed) T0 old T h → Closed ops (Dl listed) → (∀ p ∈ l, Dl listed p.1 = false) → Stop P c lit ops l T h out T' h' →
    GlobR c φ St w → (∀ r ∈ old, Dl listed r.i = false → r.new.isSome = true → φ r.n = none ∧ H0.length ≤ r.n) → VRL φ St w (fold (old.filter (fun r => Dl listed r.i)) T0) a.tmps.toList → a.defers = ds →
    Left N φ0 St0 H0 w0 h φ St w → fuel = (old.filter (fun r => !Dl listed r.i)).length + l.length →
    wpAnyIn (Fw ro) 0 P .any ops (Post N φ0 St0 H0 w0 ds out T' h') fuel listed a w := by
  have hltD : ∀ {listed : Array Bool}, listed.size = ops.size → ∀ i, Dl listed i = true → i < ops.size := by
    intro listed hsz i hi
    rw [← hsz]
    rcases Nat.lt_or_ge i listed.size with h | h
    · exact h
    · simp [Dl, Array.getElem?_eq_none h] at hi
  -- all is done
  have done : ∀ (listed : Array Bool) (a : Act) (w : World) (φ : Phi) (St : Stab) (old : List Rec) (l : List (Nat × List Nat)) (T : List CV) (h : Heap),
      Good c ops (Dl listed) T0 old T h → (∀ r ∈ old, Dl listed r.i = true) → l = [] → Stop P c lit ops l T h out T' h' → VRL φ St w (fold (old.filter (fun r => Dl listed r.i)) T0) a.tmps.toList → a.defers = ds →
      Left N φ0 St0 H0 w0 h φ St w → Post N φ0 St0 H0 w0 ds out T' h' .normal a w := by
    intro listed a w φ St old l T h g hall hl hs ht hd hleft
    subst hl
    cases hs with | nil =>
    rw [List.filter_eq_self.2 hall, ← g.fin] at ht
    exact Post.plain hleft ⟨ht, hd⟩
  -- what is ready, when not all is done
  have stuck : ∀ (listed : Array Bool) (old : List Rec) (l : List (Nat × List Nat)), listed.size = ops.size → plan = old.map Rec.key ++ l → (∀ p ∈ l, Dl listed p.1 = false) →
      Region.ready .any ops listed = [] → (∀ r ∈ old, Dl listed r.i = true) ∧ l = [] := by
    intro listed old l hsz hp hpl hr
    have all : ∀ (n p : Nat) (x : Nat × List Nat), p < n → plan[p]? = some x → Dl listed x.1 = true := by
      intro n
      induction n with
      | zero => intro p x hp; omega
      | succ n ih =>
        intro p x hpn hx
        cases hD : Dl listed x.1 with
        | true => rfl
        | false =>
          have hlt := PW.lt p x.1 x.2 hx
          have : x.1 ∈ Region.ready .any ops listed := by
            refine ready_of hlt ?_ ?_
            · have : x.1 < listed.size := by omega
              simpa [Dl, Array.getD, this] using hD
            · intro e he
              obtain ⟨q, rs', hq, hqe⟩ := PW.lin p x.1 x.2 hx e he
              exact ih q (e, rs') (by omega) hqe
          rw [hr] at this; simp at this
    constructor
    · intro r hrr
      obtain ⟨p, hpr⟩ := List.mem_iff_getElem?.1 hrr
      exact all (p + 1) p _ (by omega) (get_key hp hpr)
    · cases l with
      | nil => rfl
      | cons x l =>
        have h1 : plan[old.length]? = some x := by rw [hp, List.getElem?_append_right (by simp)]; simp
        have h2 := all _ _ x (Nat.lt_succ_self _) h1
        rw [hpl x (by simp)] at h2; simp at h2
  intro fuel
  induction fuel with
  | zero =>
    intro listed a w φ St old l T h hsz hp g hcl hpl hs hg hphi ht hd hleft hf
    have hl : l = [] := by cases l with | nil => rfl | cons => simp at hf
    have hall : ∀ r ∈ old, Dl listed r.i = true := by
      intro r hr
      cases hD : Dl listed r.i with
      | true => rfl
      | false =>
        have : r ∈ old.filter (fun r => !Dl listed r.i) := List.mem_filter.2 ⟨hr, by simp [hD]⟩
        have := List.length_pos_of_mem this
        omega
    refine ⟨?_, done listed a w φ St old l T h g hall hl hs ht hd hleft⟩
    rw [List.eq_nil_iff_forall_not_mem]
    intro i hi
    obtain ⟨h1, h2, _⟩ := deps_of_ready hi
    obtain ⟨p, rs, hpi⟩ := PW.mem i h1
    have hmem : (i, rs) ∈ plan := List.mem_of_getElem? hpi
    rw [hp, hl, List.append_nil] at hmem
    obtain ⟨r, hr, hk⟩ := List.mem_map.1 hmem
    have := hall r hr
    simp [Rec.key] at hk
    rw [hk.1] at this
    have hsz' : i < listed.size := by omega
    simp [Dl, Array.getD, hsz'] at this h2
    rw [h2] at this; simp at this
  | succ fuel ih =>
    intro listed a w φ St old l T h hsz hp g hcl hpl hs hg hphi ht hd hleft hf
    refine ⟨fun hr => ?_, fun i hi => ?_⟩
    · obtain ⟨h1, h2⟩ := stuck listed old l hsz hp hpl hr
      exact done listed a w φ St old l T h g h1 h2 hs ht hd hleft
    obtain ⟨hi1, hi2, hdeps⟩ := deps_of_ready hi
    have hil : i < listed.size := by omega
    have hiD : Dl listed i = false := by simpa [Dl, Array.getD, hil] using hi2
    have hD' : ∀ j, Dl (listed.setIfInBounds i true) j = (Dl listed j || j == i) := Dl_set hil
    have hDD : ∀ j, Dl (listed.setIfInBounds i true) j = false → Dl listed j = false := fun j hj => by rw [hD'] at hj; simp at hj; exact hj.1
    have hcl' : Closed ops (Dl (listed.setIfInBounds i true)) := by
      intro j hj e he
      rw [hD'] at hj ⊢
      simp only [Bool.or_eq_true, beq_iff_eq] at hj
      rcases hj with hj | rfl
      · simp [hcl j hj e he]
      · have : Dl listed e = true := hdeps e he
        simp [this]
    obtain ⟨p, rs, hpi⟩ := PW.mem i hi1
    by_cases hpo : p < old.length
    · -- a quiet one, not done yet
      obtain ⟨r, hr⟩ : ∃ r, old[p]? = some r := ⟨old[p], List.getElem?_eq_getElem hpo⟩
      have hrm := List.mem_of_getElem? hr
      have hk := get_key hp hr
      rw [hpi] at hk; simp at hk
      obtain ⟨rfl, rfl⟩ := hk
      have hop := g.op r hrm
      have hag : ∀ t ∈ r.o.looksAt ops, (fold (old.filter (fun r => Dl listed r.i)) T0)[t]? = r.tmps[t]? := fun t ht' => by
        rw [g.tm p r hr]
        exact slot_agree PW hp g.op hcl (hltD hsz) hr hiD hdeps (by rw [looks_ops hop]; exact ht')
      have hput := fun (T0 : List CV) => slot_put PW hp g.op hcl (hltD hsz) (T0 := T0) hr hiD hD'
      have hw : wantedC ops (fold (old.filter (fun r => Dl listed r.i)) T0) r.o = some r.live := by rw [wantedC_congr hag]; exact g.want r hrm
      have hfuel : fuel = (old.filter (fun r' => !Dl (listed.setIfInBounds r.i true) r'.i)).length + l.length := by
        have := count_drop (f := fun r => !Dl listed r.i) (g := fun r' => !Dl (listed.setIfInBounds r.i true) r'.i) hr (by simp [hiD]) (by simp [hD']) (by
          intro q x hq hne
          have : x.i ≠ r.i := fun e => by
            have h1 := get_key hp hq
            rw [e] at h1
            exact hne (PW.inj _ _ _ _ _ h1 hpi)
          simp [hD', this])
        omega
      have hpl' : ∀ p ∈ l, Dl (listed.setIfInBounds r.i true) p.1 = false := by
        intro x hx
        rw [hD', hpl x hx]
        have : x.1 ≠ r.i := fun e => by
          obtain ⟨q, hq⟩ := List.mem_iff_getElem?.1 hx
          have h1 : plan[old.length + q]? = some x := by rw [hp, List.getElem?_append_right (by simp)]; simpa using hq
          have := PW.inj (old.length + q) p r.i x.2 r.rs (by rw [h1, ← e]) hpi
          omega
        simp [this]
      unfold wpOpIn
      rw [hop]
      simp only
      rw [wantedC_ok ht hw]
      cases hlive : r.live with
      | false =>
        simp only [Bool.false_eq_true, if_false]
        obtain ⟨hv, hn⟩ := g.skip r hrm hlive
        refine ⟨fun _ _ => trivial, ?_⟩
        refine ih _ _ w φ St old l T h (by simpa using hsz) hp (g.mono hDD) hcl' hpl' hs hg (fun r' hr' hD => hphi r' hr' (hDD _ hD)) ?_ (by rw [← hd]; cases r.o.dst <;> rfl) hleft hfuel
        rw [hput T0, hv]
        exact put_ok ht r.o.dst undef_ok
      | true =>
        simp only [if_true]
        obtain ⟨v, hq, hvd⟩ := g.valid r hrm hlive hiD
        have hρ : ∀ x ∈ r.o.op.operands, VR φ St w (ev c.glob r.tmps x) (a.eval x) := by
          intro x hx
          have := ev_ok hg ht x
          rwa [ev_congr (T' := r.tmps) fun t ht' => by subst ht'; exact hag t (operand_look hx)] at this
        have hputv : ∀ {φ' : Phi} {w' : World} {u : Value}, Mono φ St w φ' St w' → VR φ' St w' v u → VRL φ' St w' (fold (old.filter (fun r' => Dl (listed.setIfInBounds r.i true) r'.i)) T0) (a.put r.o.dst u).tmps.toList := by
          intro φ' w' u m hu
          rw [hput T0]
          cases hdst : r.o.dst with
          | none => exact ht.mono m
          | some d =>
            rw [← hvd d hdst]
            have := put_ok (ht.mono m) (some d) hu
            exact this
        have hdf : ∀ u, (a.put r.o.dst u).defers = ds := fun u => by rw [← hd]; cases r.o.dst <;> rfl
        cases hnew : r.new with
        | none =>
          rw [hnew] at hq
          refine quiet_wp hty (Q_none hq h.length) hleft.rel (Sub.refl _) (by simp) hρ ?_
          intro φ' w' u R' F' hφ' hu
          have l1 : Left N φ St h w h φ' St w' := ⟨R', F', Keep.refl _ _⟩
          refine ih _ _ w' φ' St old l T h (by simpa using hsz) hp (g.mono hDD) hcl' hpl' hs (hg.mono F'.toMono) (fun r' hr' hD hs' => ?_) (hputv F'.toMono hu) (hdf u) (hleft.trans l1) hfuel
          obtain ⟨h1, h2⟩ := hphi r' hr' (hDD _ hD) hs'
          have := g.nlt r' hr' hs'
          exact ⟨by rw [hφ' _ (by omega)]; exact h1, h2⟩
        | some b =>
          rw [hnew] at hq
          obtain ⟨hφn, hHn⟩ := hphi r hrm hiD (by simp [hnew])
          refine quiet_wp hty hq hleft.rel (Sub.refl _) (fun b' hb' => ⟨hφn, by simp at hb'; subst hb'; exact g.obj r hrm hiD _ hnew⟩) hρ ?_
          intro φ' w' u R' F' hφ' hu
          have l1 : Left N φ0 St0 H0 w0 h φ' St w' := ⟨R', hleft.frm.trans F' hHn, hleft.keep⟩
          refine ih _ _ w' φ' St old l T h (by simpa using hsz) hp (g.mono hDD) hcl' hpl' hs (hg.mono F'.toMono) (fun r' hr' hD hs' => ?_) (hputv F'.toMono hu) (hdf u) l1 hfuel
          obtain ⟨h1, h2⟩ := hphi r' hr' (hDD _ hD) hs'
          have hne : r'.n ≠ r.n := by
            obtain ⟨q, hq'⟩ := List.mem_iff_getElem?.1 hr'
            have hqp : q ≠ p := fun e => by
              subst e; rw [hr] at hq'; simp at hq'; subst hq'
              rw [hD'] at hD; simp at hD
            rcases Nat.lt_or_gt_of_ne hqp with hlt | hlt
            · have := g.ns q p r' r hlt hq' hr hs' (by simp [hnew]); omega
            · have := g.ns p q r r' hlt hr hq' (by simp [hnew]) hs'; omega
          exact ⟨by rw [hφ' _ hne]; exact h1, h2⟩
    · -- the next loud one
      have hpl0 : plan[p]? = l[p - old.length]? := by rw [hp, List.getElem?_append_right (by simpa using hpo)]; simp
      have hget0 : ∀ x l', l = x :: l' → plan[old.length]? = some x := fun x l' e => by rw [hp, List.getElem?_append_right (by simp), e]; simp
      have first : ∀ i0 rs0 l' (o : Oper), l = (i0, rs0) :: l' → ops[i0]? = some o → loudOp o.op = true → i = i0 ∧ rs = rs0 ∧ p = old.length := by
        intro i0 rs0 l' o e ho hlo
        have h0 := hget0 _ _ e
        by_cases hpe : p = old.length
        · rw [hpe, h0] at hpi; simp at hpi; exact ⟨hpi.1.symm, hpi.2.symm, hpe⟩
        · have ha := PW.loud1 old.length p i0 i rs0 rs (by omega) h0 hpi (by simp [loudAt, ho, hlo])
          have := PW.anc_in hcl (hltD hsz) hdeps ha
          rw [hpl (i0, rs0) (by simp [e])] at this; simp at this
      have agree : ∀ (o : Oper) (v : CV) (l' : List (Nat × List Nat)), l = (i, rs) :: l' → ops[i]? = some o → ∀ t ∈ o.looksAt ops, (fold (old.filter (fun r => Dl listed r.i)) T0)[t]? = T[t]? := by
        intro o v l' e ho t ht'
        have hop : ∀ r ∈ old ++ [(mkL i rs o v T)], ops[Rec.i r]? = some (Rec.o r) := by
          intro r hr
          rcases List.mem_append.1 hr with hr | hr
          · exact g.op r hr
          · simp at hr; subst hr; exact ho
        have := slot_agree (old := old ++ [(mkL i rs o v T)]) (l := l') PW (by rw [hp, e]; simp [Rec.key]) hop hcl (hltD hsz) (T0 := T0) (p := old.length)
          (r := (mkL i rs o v T)) (by simp) hiD hdeps (t := t) (by rw [looks_ops ho]; exact ht')
        rw [List.filter_append, List.take_left'] at this
        · rw [List.filter_cons, if_neg (by simp [hiD])] at this
          simp only [List.filter_nil, List.append_nil] at this
          rw [this, ← g.fin]
        · rfl
      unfold wpOpIn
      cases hs with
      | nil => simp at hpl0; have := (List.getElem?_eq_some_iff.1 hpi).1; omega
      | panic ho hw hcall hst hlo =>
        rename_i i0 rs0 l' o v call
        obtain ⟨rfl, rfl, rfl⟩ := first _ _ _ _ rfl ho hlo
        have hag := agree o v l' rfl ho
        rw [ho]
        simp only
        rw [wantedC_ok ht (by rw [wantedC_congr hag]; exact hw)]
        simp only [if_true]
        have hρ : ∀ x ∈ o.op.operands, VR φ St w (ev c.glob T' x) (a.eval x) := by
          intro x hx
          have := ev_ok hg ht x
          rwa [ev_congr (T' := T') fun t ht' => by subst ht'; exact hag t (operand_look hx)] at this
        refine panic_wp hcall hst hleft.rel hg hρ ?_
        intro φ' St' w' u l1 hu
        exact Post.plain (hleft.trans l1) ⟨⟨u, rfl, hu⟩, hd⟩
      | loud ho hw hcall hst hlo ha k =>
        rename_i i0 rs0 l' o v h2 call
        obtain ⟨rfl, rfl, rfl⟩ := first _ _ _ _ rfl ho hlo
        have hag := agree o v l' rfl ho
        rw [ho]
        simp only
        rw [wantedC_ok ht (by rw [wantedC_congr hag]; exact hw)]
        simp only [if_true]
        have hρ : ∀ x ∈ o.op.operands, VR φ St w (ev c.glob T x) (a.eval x) := by
          intro x hx
          have := ev_ok hg ht x
          rwa [ev_congr (T' := T) fun t ht' => by subst ht'; exact hag t (operand_look hx)] at this
        refine loud_wp hty hcall hst hleft.rel hg hρ ?_
        intro φ' St' w' u l1 hu
        obtain ⟨qs, l2, T1, h1, rfl, hqs, hstop⟩ := k.split
        have hiD' : Dl (listed.setIfInBounds i true) i = true := by rw [hD']; simp
        have g1 := g.after PW hcl (hltD hsz) hDD hp ho hlo hdeps ha l1.keep.1 fun r hr hDr hn => l1.keep.2 _ (g.nlt r hr hn) (hphi r hr hDr hn).1
        have g2 := g1.snoc (mkL i rs o v T) (Sub.refl h2) ho rfl hw (by simp) (fun _ hx => by simp [hiD'] at hx) (by simp) (by simp)
        obtain ⟨g3, ⟨x, hx⟩, hnq⟩ := Good.quiets hqs g2
        have hp3 : plan = ((old ++ [(mkL i rs o v T)]) ++ qs).map Rec.key ++ l2 := by rw [hp]; simp [Rec.key]
        have hlat : ∀ (y : Nat × List Nat), y ∈ qs.map Rec.key ++ l2 → Dl listed y.1 = false ∧ y.1 ≠ i := by
          intro y hy
          refine ⟨hpl y (by simp; exact .inr (by simpa using hy)), fun e => ?_⟩
          obtain ⟨q, hq⟩ := List.mem_iff_getElem?.1 hy
          have h1 : plan[old.length + 1 + q]? = some y := by
            rw [hp, List.getElem?_append_right (by simp; omega)]
            rw [show old.length + 1 + q - (old.map Rec.key).length = q + 1 by simp; omega]
            simpa using hq
          have := PW.inj (old.length + 1 + q) old.length i y.2 rs (by rw [h1, ← e]) hpi
          omega
        have hlatq : ∀ r ∈ qs, Dl listed r.i = false ∧ r.i ≠ i := fun r hr => hlat r.key (List.mem_append_left _ (List.mem_map.2 ⟨r, hr, rfl⟩))
        have hlatD : ∀ r ∈ qs, Dl (listed.setIfInBounds i true) r.i = false := fun r hr => by rw [hD']; simp [hlatq r hr]
        have hold : ∀ r ∈ old, r.i ≠ i := fun r hr e => by
          obtain ⟨q, hq⟩ := List.mem_iff_getElem?.1 hr
          have h1 := get_key hp hq
          rw [e] at h1
          have := PW.inj _ _ _ _ _ h1 hpi
          have := (List.getElem?_eq_some_iff.1 hq).1
          omega
        subst hx
        refine ih _ _ w' φ' St' _ l2 T1 _ (by simpa using hsz) hp3 g3 hcl' (fun y hy => by rw [hD']; simp [hlat y (List.mem_append_right _ hy)]) hstop (hg.mono l1.frm.toMono) ?_ ?_ (by rw [← hd]; cases o.dst <;> rfl) ?_ ?_
        · intro r hr hDr hn
          rw [List.mem_append, List.mem_append] at hr
          rcases hr with (hr | hr) | hr
          · obtain ⟨e1, e2⟩ := hphi r hr (hDD _ hDr) hn
            exact ⟨l1.frm.idNew _ (g.nlt r hr hn) e1, e2⟩
          · simp at hr; subst hr; simp at hn
          · have hb := hnq r hr hn
            have e1 := hleft.keep.1
            have e2 := l1.keep.1
            refine ⟨?_, by omega⟩
            cases hφ : φ' r.n with
            | none => rfl
            | some e => have := l1.rel.dom _ _ hφ; omega
        · have hsp := slot_put (old := (old ++ [(mkL i rs o v T)]) ++ qs) (l := l2) PW hp3 g3.op hcl (hltD hsz) (T0 := T0) (p := old.length)
            (r := (mkL i rs o v T)) (by simp) hiD hD'
          rw [hsp]
          have hfl : ((old ++ [(mkL i rs o v T)]) ++ qs).filter (fun r => Dl listed r.i) = old.filter (fun r => Dl listed r.i) := by
            rw [List.filter_append, List.filter_append, List.filter_cons, if_neg (by simp [hiD])]
            have : qs.filter (fun r => Dl listed r.i) = [] := List.filter_eq_nil_iff.2 fun r hr => by simp [(hlatq r hr).1]
            rw [this]; simp
          rw [hfl]
          exact put_ok (ht.mono l1.frm.toMono) o.dst hu
        · have l2' := hleft.trans l1
          exact ⟨l2'.rel.longer x, l2'.frm, l2'.keep.append' x⟩
        · have e1 : ((old ++ [(mkL i rs o v T)]) ++ qs).filter (fun r => !Dl (listed.setIfInBounds i true) r.i) = old.filter (fun r => !Dl listed r.i) ++ qs := by
            rw [List.filter_append, List.filter_append, List.filter_cons, if_neg (by simp [hiD'])]
            have h1 : qs.filter (fun r => !Dl (listed.setIfInBounds i true) r.i) = qs := List.filter_eq_self.2 fun r hr => by simp [hlatD r hr]
            have h2 : old.filter (fun r => !Dl (listed.setIfInBounds i true) r.i) = old.filter (fun r => !Dl listed r.i) := List.filter_congr fun r hr => by simp [hD', hold r hr]
            rw [h1, h2]; simp
          rw [e1]
          simp at hf ⊢
          omega
end
end Go.Eng
