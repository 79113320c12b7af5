/- Calls, and loops over functions. -/
import Derived.Test.YtjfiojmfcpeaoaaEH2
namespace Go.Eng
set_option linter.unusedVariables false

section
variable {P : Program} {N : Nat} {φ : Phi} {St : Stab} {H : Heap} {w : World} {c : Cfg}

/-- A block that nobody knows comes to the world, or is changed. -/
theorem Rel.elsewhere (R : Rel N φ St H w) {w' : World} (hs : w.heap.size ≤ w'.heap.size) (hold : ∀ r b e, φ b = some e → e.blk = some r → w'.heap[r]? = w.heap[r]?) (hst : ∀ r j, St r j → w'.cell? ⟨r, j, none⟩ = w.cell? ⟨r, j, none⟩) :
    Rel N φ St H w' ∧ Mono φ St w φ St w' := by
  have m : Mono φ St w φ St w' := ⟨fun _ => .refl _, fun _ _ h => h, hst⟩
  refine ⟨⟨R.dom, R.dead, ?_, ?_, ?_, R.inj, ?_, R.stOwn, R.stTail, Nat.le_trans R.start hs, R.void⟩, m⟩
  · intro b r base size hb
    obtain ⟨h1, cs, a, e, h2, h3, h4, h5, h6⟩ := R.own b r base size hb
    exact ⟨h1, cs, a, e, h2, by rw [hold r b _ hb rfl]; exact h3, h4, h5, fun j c hc => let ⟨v, a, b⟩ := h6 j c hc; ⟨v, a, b.mono m⟩⟩
  · intro k r used u size hb
    obtain ⟨h1, h2, h3, a, e, h4, h5⟩ := R.tail k r used u size hb
    exact ⟨h1, h2, h3, a, e, by rw [hold r k _ hb rfl]; exact h4, h5⟩
  · intro b r hb
    obtain ⟨h1, o, O, h2, h3, h4⟩ := R.obj b r hb
    exact ⟨h1, o, O, h2, by rw [hold r b _ hb rfl]; exact h3, h4.mono m⟩
  · intro r j hs'; have := R.stLt r j hs'; omega

theorem Rel.alloc_out (R : Rel N φ St H w) (O : Obj) : Rel N φ St H (w.alloc O) ∧ Frm H.length φ St w φ St (w.alloc O) := by
  have ⟨R', m⟩ := R.elsewhere (w' := w.alloc O) (by simp) (fun r b e hb he => heap_old w O r (R.lt hb he).2) (fun r j hs => World.cell?_alloc_lt w O ⟨r, j, none⟩ (R.stLt r j hs))
  exact ⟨R', Frm.quiet m (by simp) (fun r hr _ => heap_old w O r hr) rfl rfl rfl⟩

/-- A mark's block is shut. -/
theorem Left.unmark {φ0 : Phi} {St0 : Stab} {H0 : Heap} {w0 : World} (l : Left N φ0 St0 H0 w0 H φ St w) {r : Nat} (hr : w0.heap.size ≤ r) (hw : w.heap[r]? = some (.deferred (some []))) (hno : ∀ b e, φ b = some e → e.blk ≠ some r) :
    Left N φ0 St0 H0 w0 H φ St (w.putObj r (.deferred none)) ∧ Mono φ St w φ St (w.putObj r (.deferred none)) := by
  have hrl : r < w.heap.size := (Array.getElem?_eq_some_iff.1 hw).1
  have hother : ∀ k, k ≠ r → (w.putObj r (.deferred none)).heap[k]? = w.heap[k]? := fun k hk => World.putObj_heap_other hk
  have hcell : ∀ k j, (w.putObj r (.deferred none)).cell? ⟨k, j, none⟩ = w.cell? ⟨k, j, none⟩ := by
    intro k j
    by_cases hk : k = r
    · subst hk
      simp only [World.cell?, World.putObj_heap_same hrl, hw]
    · exact World.cell?_of_block (w := w) (a := ⟨k, j, none⟩) (hother k hk)
  have ⟨R', m⟩ := l.rel.elsewhere (w' := w.putObj r (.deferred none)) (by simp) (fun k b e hb he => hother k fun e' => hno b e hb (e' ▸ he)) (fun k j _ => hcell k j)
  refine ⟨⟨R', ?_, l.keep⟩, m⟩
  have f := l.frm
  exact { toMono := f.toMono.trans m, size := by simpa using f.size, stNew := f.stNew, blkNew := f.blkNew, keepBlk := fun k hk hn => by rw [hother k (by omega)]; exact f.keepBlk k hk hn,
          idNew := f.idNew, os := f.os, output := f.output, tape := f.tape }

theorem leaves_marks {φ0 : Phi} {St0 : Stab} {H0 : Heap} {w0 : World} {fn : Func} {tmps : Array Value} {Rr : Ending → World → Prop} {u : FrameMode} (hu : u ≠ .run) : ∀ (ms : List Deferred) (w : World),
    Left N φ0 St0 H0 w0 H φ St w → Marks w0.heap.size φ w ms → (∀ w', Left N φ0 St0 H0 w0 H φ St w' → Mono φ St w φ St w' → LeavesInM (Fw none) 0 P fn tmps Rr [] u w') → LeavesInM (Fw none) 0 P fn tmps Rr ms u w := by
  intro ms
  induction ms with
  | nil => intro w l _ k; exact k w l (.refl _ _ _)
  | cons d ms ih =>
    intro w l hm k
    obtain ⟨r, rfl, h2, h3, h4⟩ := hm.1 d (by simp)
    have ⟨l', m⟩ := l.unmark h2 h3 h4
    refine ⟨hu, .inl ⟨r, _, rfl, run_takeDeferred h3, ih _ l' ⟨fun d' hd' => ?_, (List.pairwise_cons.1 hm.2).2⟩ fun w' l2 m2 => k w' l2 (m.trans m2)⟩⟩
    obtain ⟨r', e1, e2, e3, e4⟩ := hm.1 d' (by simp [hd'])
    have hne : r' ≠ r := fun e => by
      have := (List.pairwise_cons.1 hm.2).1 d' hd'
      rw [e1, e] at this
      exact this rfl
    exact ⟨r', e1, e2, by rw [World.putObj_heap_other hne]; exact e3, e4⟩

/-- A function's call, out of its body. -/
theorem CallFact.body (hc : c.Ok P) {f : FuncId} {fd : XFunc} (hfd : c.code f = some fd) {args t cs : List CV} {H' : Heap} {o : Out} (ho : o = .normal ∨ o = .ret)
    (hx : fd.body.ok → CodeOk P c none fd.body (args ++ List.replicate (fd.ntmps - args.length) undefC) H o t H') (hres : resultsC c.ty H' t fd.results = some cs) : CallFact P c (.fn f) args H .ret [oneOf cs] H' := by
  obtain ⟨fn', hf, hn, hb, hnt, hrs, hok⟩ := hc.code f fd hfd
  refine ⟨enters_of hf hn hb, fun N φ St w us R hg hu => callsIn_wide (n := 0) |>.1 (callsIn_of_wp_marks (F := Fw none) hf hb trivial ?_)⟩
  have hul := hu.length
  have ht0 : VRL φ St w (args ++ List.replicate (fd.ntmps - args.length) undefC) (us.toArray ++ Array.replicate (fn'.ntmps - us.toArray.size) undef).toList := by
    simp only [Array.toList_append, Array.toList_replicate, List.size_toArray]
    rw [hnt, ← hul]
    exact hu.append (VRL.replicate _ undef_ok)
  refine wpIn_mono (hx hok N φ St w { tmps := us.toArray ++ Array.replicate (fn'.ntmps - us.toArray.size) undef, defers := [] } none R hg trivial ht0) fun e a1 w1 p => ?_
  obtain ⟨φ1, St1, l1, ms, hm, hout⟩ := p
  have key : VRL φ1 St1 w1 t a1.tmps.toList → a1.defers = ms ++ [] → LeavesInM (Fw none) 0 P fn' a1.tmps (CallPost N φ St H w .ret [oneOf cs] H') a1.defers .returning w1 := by
    intro ht1 hd1
    rw [hd1, List.append_nil]
    refine leaves_marks (by simp) ms w1 l1 hm fun w' l2 m2 => ?_
    obtain ⟨v, hv1, hv2⟩ := results_ok hc l2.rel (ht1.mono m2) hrs hres
    exact ⟨v, hv1, φ1, St1, l2, _, rfl, rfl, hv2⟩
  rcases ho with rfl | rfl <;> cases e <;> simp only [OutIs] at hout
  · exact key hout.1 hout.2
  · exact key hout.1 hout.2

theorem CallFact.body_panic (hc : c.Ok P) {f : FuncId} {fd : XFunc} (hfd : c.code f = some fd) {args t : List CV} {H' : Heap} {v : CV}
    (hx : fd.body.ok → CodeOk P c none fd.body (args ++ List.replicate (fd.ntmps - args.length) undefC) H (.panic v) t H') : CallFact P c (.fn f) args H (.panic v) [] H' := by
  obtain ⟨fn', hf, hn, hb, hnt, hrs, hok⟩ := hc.code f fd hfd
  refine ⟨enters_of hf hn hb, fun N φ St w us R hg hu => callsIn_wide (n := 0) |>.1 (callsIn_of_wp_marks (F := Fw none) hf hb trivial ?_)⟩
  have hul := hu.length
  have ht0 : VRL φ St w (args ++ List.replicate (fd.ntmps - args.length) undefC) (us.toArray ++ Array.replicate (fn'.ntmps - us.toArray.size) undef).toList := by
    simp only [Array.toList_append, Array.toList_replicate, List.size_toArray]
    rw [hnt, ← hul]
    exact hu.append (VRL.replicate _ undef_ok)
  refine wpIn_mono (hx hok N φ St w { tmps := us.toArray ++ Array.replicate (fn'.ntmps - us.toArray.size) undef, defers := [] } none R hg trivial ht0) fun e a1 w1 p => ?_
  obtain ⟨φ1, St1, l1, ms, hm, hout⟩ := p
  cases e <;> simp only [OutIs] at hout
  obtain ⟨⟨u, rfl, hu⟩, hd⟩ := hout
  show LeavesInM (Fw none) 0 P fn' a1.tmps _ a1.defers (.panicking _) w1
  rw [hd, List.append_nil]
  refine leaves_marks (by simp) ms w1 l1 hm fun w' l2 m2 => ?_
  exact ⟨φ1, St1, l2, _, u, rfl, rfl, hu.mono m2⟩

theorem CallFact.sum (hc : c.Ok P) {f : FuncId} {F : Heap → List CV → Option (CV × Heap)} (hF : c.sum f = some F) {args : List CV} {v : CV} {H' : Heap} (hr : F H args = some (v, H')) : CallFact P c (.fn f) args H .ret [v] H' :=
  let ⟨h1, h2⟩ := hc.sum f F hF
  ⟨h1, fun N φ St w us R hg hu => h2 N φ St H w args us v H' R hg hu hr⟩

/-- A loop's record. -/
theorem loop_at (R : Rel N φ St H w) {l : Nat} {f : FuncId} {ts : List CV} {ps : Array Tmp} {a b : X} {st : LoopState} {pend : Option Jump} (hl : H[l]? = some (.loop f ts ps a b st pend)) {r : Nat} (hφ : φ l = some (.obj r)) :
    ∃ g dr tv, w.heap[r]? = some (.loop { state := st, pending := pend.map Jump.code, fn := g, tmps := tv.toArray, params := ps, assign := a.code, body := b.code, defers := dr }) ∧ VRL φ St w ts tv ∧ a.ok ∧ b.ok := by
  obtain ⟨_, o, O, h1, h2, h3⟩ := R.obj l r hφ
  rw [hl] at h1; simp at h1; subst h1
  cases h3 with
  | loop _ _ _ tv _ _ _ _ _ dr ht ha hb => exact ⟨_, dr, tv, h2, ht, ha, hb⟩

theorem loop_alive (R : Rel N φ St H w) {l : Nat} {f : FuncId} {ts : List CV} {ps : Array Tmp} {a b : X} {st : LoopState} {pend : Option Jump} (hl : H[l]? = some (.loop f ts ps a b st pend)) {r : Nat} (h : φ l = some (.obj r) ∨ φ l = some .dead) : φ l = some (.obj r) := by
  rcases h with h | h
  · exact h
  · have := R.dead l h; rw [hl] at this; simp at this

/-- A record is changed. -/
theorem Left.loop (P : Program) (R : Rel N φ St H w) {l r : Nat} (hφ : φ l = some (.obj r)) {f g : FuncId} {ts : List CV} {tv : List Value} {ps : Array Tmp} {a b : X} (st : LoopState) (pend : Option Jump) (dr : Nat) (ht : VRL φ St w ts tv) (ha : a.ok) (hb : b.ok)
    {O : Loop} (hw : w.heap[r]? = some (.loop O)) : Left N φ St H w (H.set l (.loop f ts ps a b st pend)) φ St (w.putObj r (.loop { state := st, pending := pend.map Jump.code, fn := g, tmps := tv.toArray, params := ps, assign := a.code, body := b.code, defers := dr })) := by
  obtain ⟨w', h1, h2, h3⟩ := R.putObj (P := P) hφ (.loop f ts ps a b st pend) (.loop { state := st, pending := pend.map Jump.code, fn := g, tmps := tv.toArray, params := ps, assign := a.code, body := b.code, defers := dr }) (.loop f g ts tv ps a b st pend dr ht ha hb)
  rw [run_setObj_loop _ hw] at h1
  simp at h1
  subst h1
  exact ⟨h2, h3, Keep.set (by rw [hφ]; simp) _⟩

theorem fold_set {φ : Phi} {St : Stab} {w : World} : ∀ (ps : List Tmp) (args ts : List CV) (us : List Value) (tv : Array Value), VRL φ St w args us → VRL φ St w ts tv.toList →
    VRL φ St w ((ps.zip args).foldl (fun T p => T.set p.1 p.2) ts) ((ps.zip us).foldl (fun (tmps : Array Value) (p : Tmp × Value) => tmps.setIfInBounds p.1 p.2) tv).toList := by
  intro ps
  induction ps with
  | nil => intro args ts us tv _ ht; simpa using ht
  | cons p ps ih =>
    intro args ts us tv ha ht
    cases ha with
    | nil => simpa using ht
    | cons c v cs vs h hs =>
      simp only [List.zip_cons_cons, List.foldl_cons]
      refine ih cs _ vs _ hs ?_
      simpa using ht.set p h

/-- A round. -/
theorem CallFact.round {l : Nat} {f : FuncId} {ts args : List CV} {ps : Array Tmp} {a b : X} {pend : Option Jump} (hl : H[l]? = some (.loop f ts ps a b .ready pend)) (hn : args.length = ps.size) {t1 t2 vs : List CV} {h1 h2 h3 h4 : Heap} {o : Out}
    (ha : a.ok → CodeOk P c (some l) a ((ps.toList.zip args).foldl (fun T p => T.set p.1 p.2) ts) H .normal t1 h1) (hb : beginC l h1 = some h2) (hx : b.ok → CodeOk P c (some l) b t1 h2 o t2 h3) (he : endC l o h3 = some (.ret, vs, h4)) :
    CallFact P c (.yl l) args H .ret vs h4 := by
  intro N φ St w us r R hg hu hφ
  obtain ⟨g, dr, tv, hw, htv, hoka, hokb⟩ := loop_at R hl hφ
  have hsz : us.toArray.size = ps.size := by have := hu.length; simp; omega
  refine ⟨_, _, _, _, run_yield hw hsz, ?_⟩
  refine roundIn_of_wpIn (F := Fence.wide) trivial ?_
  have hfold : VRL φ St w ((ps.toList.zip args).foldl (fun T p => T.set p.1 p.2) ts) ((ps.zip us.toArray).foldl (fun (tmps : Array Value) (x : Tmp × Value) => match x with | (t, a) => tmps.setIfInBounds t a) tv.toArray).toList := by
    have := fold_set ps.toList args ts us tv.toArray hu (by simpa using htv)
    rw [← Array.foldl_toList]
    simpa [Array.toList_zip] using this
  refine wpIn_mono (ha hoka N φ St w { tmps := _, defers := [] } (some r) R hg (.inl hφ) hfold) fun e a1 w1 p => ?_
  obtain ⟨rfl, φ1, St1, l1, ms, hm, ht1, hd1⟩ := p.normal
  unfold beginC at hb
  split at hb <;> (try (simp at hb; done))
  rename_i f1 ts1 ps1 a1' b1' pend1 hl1
  simp at hb; subst hb
  have hφ1 : φ1 l = some (.obj r) := by
    have e := l1.frm.ext l
    rw [hφ] at e
    exact loop_alive l1.rel hl1 e.obj
  obtain ⟨g1, dr1, tv1, hw1, htv1, hoka1, hokb1⟩ := loop_at l1.rel hl1 hφ1
  refine ⟨_, run_beginRound hw1 rfl, ?_⟩
  have l2 := Left.loop P l1.rel hφ1 (f := f1) (g := g1) (ps := ps1) .busy pend1 dr1 htv1 hoka1 hokb1 hw1
  have l12 := l1.trans l2
  refine wpIn_mono (hx hokb N φ1 St1 _ a1 (some r) l2.rel (hg.mono l12.frm.toMono) (.inl hφ1) (ht1.mono l2.frm.toMono)) fun e a2 w3 p => ?_
  obtain ⟨φ3, St3, l3, ms3, hm3, hout⟩ := p
  have l13 := l12.trans l3
  unfold endC at he
  split at he <;> (try (simp at he; done))
  rename_i f3 ts3 ps3 a3 b3 st3 pend3 jmp hl3 hj
  simp at he; obtain ⟨rfl, rfl⟩ := he
  have hφ3 : φ3 l = some (.obj r) := by
    have e := l13.frm.ext l
    rw [hφ] at e
    exact loop_alive l13.rel hl3 e.obj
  obtain ⟨g3, dr3, tv3, hw3, htv3, hoka3, hokb3⟩ := loop_at l13.rel hl3 hφ3
  have fin : ∀ (jc : Option Code), jc = jmp.map Jump.code → ∃ v w', (Instr.endRound r jc).run P w3 = .ok v w' ∧ CallPost N φ St H w .ret [.bool jmp.isNone] (h3.set l (.loop f3 ts3 ps3 a3 b3 (if jmp.isNone then .ready else .done) jmp)) (.returned v) w' := by
    intro jc hjc
    subst hjc
    have l4 := Left.loop P l13.rel hφ3 (f := f3) (g := g3) (ps := ps3) (if jmp.isNone then .ready else .done) jmp dr3 htv3 hoka3 hokb3 hw3
    refine ⟨_, _, run_endRound _ hw3, φ3, St3, ?_, _, rfl, rfl, ?_⟩
    · have := l13.trans l4
      simpa using this
    · simp only [Option.isNone_map]; exact .bool _
  cases o <;> cases e <;> simp only [OutIs] at hout <;> simp [Out.jump] at hj <;> subst hj
  · exact fin none rfl
  · obtain ⟨rfl, _⟩ := hout; exact fin (some (.exit _)) rfl
  · obtain ⟨rfl, _⟩ := hout; exact fin (some (.goto _)) rfl
  · exact fin (some .ret) rfl

/-- A call of a round asks for a record that is there. -/
theorem CallFact.round_alive {l : Nat} {f : FuncId} {ts : List CV} {ps : Array Tmp} {a b : X} {st : LoopState} {pend : Option Jump} (hl : H[l]? = some (.loop f ts ps a b st pend)) :
    ∃ o, H[l]? = some o ∧ ∀ N φ St w, Rel N φ St H w → φ l ≠ some .dead :=
  ⟨_, hl, fun N φ St w R hd => by have := R.dead l hd; rw [hl] at this; simp at this⟩

theorem Jump.wp {ro : Option Nat} {j : Jump} {Q : Exit → Act → World → Prop} {a : Act} {w : World} (h : ∀ e, (match j with | .ret => e = .ret | .exit id => e = .exit id | .goto l => e = .goto l) → Q e a w) : j.code.wpIn (Fw ro) 0 P Q a w := by
  cases j with
  | ret => exact wpIn_ret (h .ret rfl)
  | exit id => exact wpIn_exit (h (.exit id) rfl)
  | goto l => exact wpIn_goto (h (.goto l) rfl)

/-- A loop over a function. -/
theorem CodeOk.range_any {rd : Option Nat} {g : Operand} {ps : Array Tmp} {a b : X} {tmps : List CV} (hfn : FuncId) (hin : inLoop rd H = true) {gf : FuncId} {first captured : List CV} (hg0 : ev c.glob tmps g = .func gf first captured) {o : Out} {vs : List CV} {h1 : Heap}
    (hcall : CallFact P c (.fn gf) (first ++ [.yield H.length] ++ captured) (H ++ [.loop hfn tmps ps a b .ready none]) o vs h1) (hoka : a.ok) (hokb : b.ok) {out : Out} {h2 : Heap}
    (hend : (o = .ret ∧ endLoopC H.length tmps h1 = some (out, tmps, h2)) ∨ ∃ v, o = .panic v ∧ out = .panic v ∧ h2 = h1) : CodeOk P c rd (.rangeFunc g ps a b) tmps H out tmps h2 := by
  intro N φ St w act ro R hg hr ht
  refine wpIn_rangeFunc fun fn _ => ?_
  have hgv := ev_ok hg ht g
  rw [hg0] at hgv
  -- what is entered
  have enter : ∃ (l : Nat) (mark : List Deferred) (w₁ : World) (φ1 : Phi), (Instr.enterLoop fn act.tmps ps a.code b.code (Fw ro).round).run P w = .ok (l, mark) w₁ ∧
      Left N φ St H w (H ++ [.loop hfn tmps ps a b .ready none]) φ1 St w₁ ∧ φ1 H.length = some (.obj l) ∧ Marks w.heap.size φ1 w₁ mark := by
    cases ro with
    | none =>
      obtain ⟨R0, F0⟩ := R.alloc_out (.deferred (some []))
      have hrel : ObjRel φ St (w.alloc (.deferred (some []))) (.loop hfn tmps ps a b .ready none) (.loop { state := .ready, pending := none, fn, tmps := act.tmps, params := ps, assign := a.code, body := b.code, defers := w.heap.size }) := by
        have := ObjRel.loop (φ := φ) (St := St) (w := w.alloc (.deferred (some []))) hfn fn tmps act.tmps.toList ps a b .ready none w.heap.size (ht.mono F0.toMono) hoka hokb
        simpa using this
      obtain ⟨R1, F1⟩ := R0.push (.obj (w.alloc (.deferred (some []))).heap.size) (.loop hfn tmps ps a b .ready none) (.loop { state := .ready, pending := none, fn, tmps := act.tmps, params := ps, assign := a.code, body := b.code, defers := w.heap.size }) rfl (by simp) (by simp) (fun r hr => hrel)
      refine ⟨_, _, _, _, run_enterLoop_outer fn act.tmps ps a.code b.code, ⟨R1, F0.trans F1 (Nat.le_refl _), Keep.append _ _ _⟩, by simp [Phi.push], ⟨fun d hd => ?_, by simp⟩⟩
      simp at hd; subst hd
      refine ⟨_, rfl, Nat.le_refl _, ?_, fun b' e hb' he => ?_⟩
      · rw [heap_old _ _ _ (by simp), heap_new]
      · unfold Phi.push at hb'
        split at hb'
        · simp at hb'; subst hb'; simp [Ent.blk] at he
        · have := (R.lt hb' he).2; omega
    | some l0 =>
      cases rd with
      | none => exact absurd hr (by simp [RdOk])
      | some bl =>
        simp only [inLoop] at hin
        split at hin <;> (try (simp at hin; done))
        rename_i f0 ts0 ps0 a0 b0 st0 pd0 hl0
        have hφ0 := loop_alive R hl0 hr
        obtain ⟨g0, dr0, tv0, hw0, _⟩ := loop_at R hl0 hφ0
        have hrel : ObjRel φ St w (.loop hfn tmps ps a b .ready none) (.loop { state := .ready, pending := none, fn, tmps := act.tmps, params := ps, assign := a.code, body := b.code, defers := dr0 }) := by
          have := ObjRel.loop (φ := φ) (St := St) (w := w) hfn fn tmps act.tmps.toList ps a b .ready none dr0 ht hoka hokb
          simpa using this
        obtain ⟨R1, F1⟩ := R.push (.obj w.heap.size) (.loop hfn tmps ps a b .ready none) (.loop { state := .ready, pending := none, fn, tmps := act.tmps, params := ps, assign := a.code, body := b.code, defers := dr0 }) rfl (by simp) (by simp) (fun r hr => hrel)
        refine ⟨w.heap.size, [], _, _, ?_, ⟨R1, F1, Keep.append _ _ _⟩, by simp [Phi.push], .nil _ _ _⟩
        show Sem.run P (Instr.enterLoop fn act.tmps ps a.code b.code (some l0)) w = _
        unfold Instr.enterLoop
        simp only [Sem.run_bind, run_getLoop hw0, Result.andThen, Sem.run_pure, run_newObj_alloc]
  obtain ⟨l, mark, w₁, φ1, he, l1, hφl, hmk⟩ := enter
  generalize hgv' : act.eval g = gv at hgv
  cases hgv with | func _ _ _ us cs hus hcs =>
  obtain ⟨hent, hC⟩ := hcall
  have hargs : VRL φ1 St w₁ (first ++ [.yield H.length] ++ captured) (us ++ [Value.func (.yield l) #[] #[]] ++ cs) :=
    ((hus.mono l1.frm.toMono).append (.cons _ _ _ _ (.yield _ _ hφl) .nil)).append (hcs.mono l1.frm.toMono)
  refine ⟨l, mark, w₁, { target := .fn (.func gf) cs.toArray, args := (us ++ [Value.func (.yield l) #[] #[]]).toArray }, w₁, gf, (us ++ [Value.func (.yield l) #[] #[]] ++ cs).toArray, w₁, he, ?_, fun _ _ => trivial, ?_, by simp [Fw, Fence.wide], ?_⟩
  · have hy : act.eval (.const (.func (.yield l) #[] #[])) = .func (.yield l) #[] #[] := rfl
    have ha : (rangeCall g l).args.map act.eval = #[.func (.yield l) #[] #[]] := by simp [hy]
    simp only [resolve, ha]
    simp only [hgv', Deferred.ofValue, Sem.run_pure]
    congr 2
    apply Array.ext'
    simp
  · simp only [invoke]
    rw [hent]
    congr 2
    apply Array.ext'
    simp
  · refine callsIn_fw ((hC N φ1 St w₁ _ l1.rel (hg.mono l1.frm.toMono) hargs).mono ?_)
    intro e w3 hp
    cases e with
    | outgrown => exact hp.elim
    | panicked ch =>
      obtain ⟨φ3, St3, l3, c1, v, ho, rfl, hv⟩ := hp
      rcases hend with ⟨ho', _⟩ | ⟨v', ho', rfl, rfl⟩
      · rw [ho'] at ho; simp at ho
      · rw [ho'] at ho; simp at ho; subst ho
        exact ⟨φ3, St3, l1.trans l3, mark, hmk.step l3.frm, ⟨v, rfl, hv⟩, rfl⟩
    | returned v =>
      obtain ⟨φ3, St3, l3, c1, ho, _, hv⟩ := hp
      have hend : endLoopC H.length tmps h1 = some (out, tmps, h2) := by
        rcases hend with ⟨_, hend⟩ | ⟨v', ho', _, _⟩
        · exact hend
        · rw [ho'] at ho; simp at ho
      unfold endLoopC at hend
      split at hend <;> (try (simp at hend; done))
      rename_i f3 ts3 ps3 a3 b3 st3 pend3 hl3
      have hφ3 : φ3 H.length = some (.obj l) := by
        have e := l3.frm.ext H.length
        rw [hφl] at e
        exact loop_alive l3.rel hl3 e.obj
      obtain ⟨g3, dr3, tv3, hw3, htv3, hoka3, hokb3⟩ := loop_at l3.rel hl3 hφ3
      split at hend <;> (try (simp at hend; done))
      rename_i hnb
      have l4 := Left.loop P l3.rel hφ3 (f := f3) (g := g3) (ps := ps3) .exhausted pend3 dr3 htv3 hoka3 hokb3 hw3
      have l14 := (l1.trans l3).trans l4
      have hm4 := (hmk.step l3.frm).step l4.frm
      simp at hend
      obtain ⟨hout, rfl⟩ := hend
      refine ⟨_, _, run_endLoop hw3 hnb, ?_⟩
      cases pend3 with
      | none =>
        simp at hout; subst hout
        exact ⟨φ3, St3, l14, mark, hm4, ht.mono l14.frm.toMono, rfl⟩
      | some j =>
        simp at hout; subst hout
        refine Jump.wp fun e he' => ?_
        cases j <;> simp only at he' <;> subst he'
        · exact ⟨φ3, St3, l14, mark, hm4, ht.mono l14.frm.toMono, rfl⟩
        · exact ⟨φ3, St3, l14, mark, hm4, rfl, ht.mono l14.frm.toMono, rfl⟩
        · exact ⟨φ3, St3, l14, mark, hm4, rfl, ht.mono l14.frm.toMono, rfl⟩
end
end Go.Eng
