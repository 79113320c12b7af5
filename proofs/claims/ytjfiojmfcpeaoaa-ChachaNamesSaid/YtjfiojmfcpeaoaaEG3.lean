/- Operations that call nothing. -/
import Derived.Test.YtjfiojmfcpeaoaaEG2
import GoSem.Dispatch
namespace Go.Eng
set_option linter.unusedVariables false

def isMapD : TypeDesc → Bool
  | .map _ _ => true
  | _ => false

def boxC (n : Nat) (x : CV) : Option (CV × Option HObj) :=
  match x with
  | .junk => none
  | v => some (.ptr n 0, some (.cells v.flat))

def makeMapC (ty : Ty) (n : Nat) (t : TypeId) (r : Option CV) : Option (CV × Option HObj) :=
  match r with
  | none => some (.map n, some (.map []))
  | some x => match x, ty t with
    | .int _ _, some i => if isMapD i.desc then some (.map n, some (.map [])) else none
    | _, _ => none

def makeFuncC (f : Fn) (xs ys : List CV) : Option (CV × Option HObj) :=
  match f with
  | .func g => some (.func g xs ys, none)
  | _ => none

def rdC (x : Option CV) : Option (CV × Option HObj) := x.map fun c => (c, none)
def mkC (x : Option (CV × HObj)) : Option (CV × Option HObj) := x.map fun p => (p.1, some p.2)

def callQ (ty : Ty) (h : Heap) (ρ : Operand → CV) (cl : Call) : Option CV :=
  match cl.callee with
  | .builtin .len => match cl.args.toList, cl.argTypes.toList with
    | [x], [t] => lenC ty h t (ρ x)
    | _, _ => none
  | .builtin .cap => match cl.args.toList, cl.argTypes.toList with
    | [x], [t] => capC ty h t (ρ x)
    | _, _ => none
  | .builtin .max => match cl.args.toList with
    | x :: xs => maxC true (ρ x) (xs.map ρ)
    | [] => none
  | .builtin .min => match cl.args.toList with
    | x :: xs => maxC false (ρ x) (xs.map ρ)
    | [] => none
  | _ => none

/-- An operation that reads, or makes the place n. -/
def opQ (ty : Ty) (h : Heap) (n : Nat) (ρ : Operand → CV) (o : Op) : Option (CV × Option HObj) :=
  match o with
  | .move x | .assign x => some (ρ x, none)
  | .pick a b d => rdC (pickC (ρ a) (ρ b) (ρ d))
  | .alloc t => (ty t).map fun j => (.ptr n 0, some (.cells j.zero))
  | .box _ x => boxC n (ρ x)
  | .build t parts => rdC (buildC ty t (parts.toList.map fun p => (p.1, ρ p.2)))
  | .buildSlice t len parts => mkC (buildSliceC ty n t len (parts.toList.map fun p => (p.1, ρ p.2)))
  | .load t a => rdC (loadC ty h t (ρ a))
  | .nilCheck x => rdC (nilCheckC h (ρ x))
  | .binOp op t x y _ => rdC (binC ty h op t (isConst x || isConst y) (isNilSlice y) (ρ x) (ρ y))
  | .unOp op _ x => rdC (unC op (ρ x))
  | .convert s t x => convQ ty h n s t (ρ x)
  | .sliceToArrayPointer t x => rdC (sapC ty h t (ρ x))
  | .makeInterface t x => rdC (makeIfaceC ty t (ρ x))
  | .makeFunc f first captured => makeFuncC f (first.toList.map ρ) (captured.toList.map ρ)
  | .makeMap t r => makeMapC ty n t (r.map ρ)
  | .makeSlice t l m => mkC (makeSliceC ty n t (ρ l) (ρ m))
  | .slice t x lo hi mx => rdC (sliceC ty h t (ρ x) (lo.map ρ) (hi.map ρ) (mx.map ρ))
  | .fieldAddr t x f => rdC (fieldAddrC ty h t (ρ x) f)
  | .field t x f => rdC (fieldC ty t (ρ x) f)
  | .indexAddr t x i => rdC (indexAddrC ty h t (ρ x) (ρ i))
  | .index t x i => rdC (indexC ty t (ρ x) (ρ i))
  | .lookup t m k ok => rdC (lookupC ty h t (ρ m) (ρ k) ok)
  | .typeAssert x _ t ok => rdC (typeAssertC ty (ρ x) t ok)
  | .extract x i => rdC (extractC (ρ x) i)
  | .call cl => rdC (callQ ty h ρ cl)
  | _ => none

/-- An operation that turns what was there. -/
def opL (ty : Ty) (lit : Bool) (h : Heap) (ρ : Operand → CV) (o : Op) : Option (CV × Heap) :=
  match o with
  | .store t a x => (storeC ty h t (ρ a) (ρ x)).map fun h' => (undefC, h')
  | .mapUpdate t m k v => (mapUpdateC ty h t (ρ m) (ρ k) (ρ v)).map fun h' => (undefC, h')
  | .call cl => match cl.callee, cl.args.toList, cl.argTypes.toList with
    | .builtin .append, [s, x], [t, u] => appendC lit ty h t u (ρ s) (ρ x)
    | .builtin .copy, [d, s], [t, _] => copyC ty h t (ρ d) (ρ s)
    | _, _, _ => none
  | _ => none

theorem keyFind_sub : True := trivial

section
variable {P : Program} {N : Nat} {φ : Phi} {St : Stab} {h H : Heap} {w : World} {ty : Ty}

theorem VRL.ops {ρ : Operand → CV} {ρv : Operand → Value} : ∀ {xs : List Operand}, (∀ x ∈ xs, VR φ St w (ρ x) (ρv x)) → VRL φ St w (xs.map ρ) (xs.map ρv)
  | [], _ => .nil
  | x :: xs, h => .cons _ _ _ _ (h x (by simp)) (VRL.ops fun y hy => h y (by simp [hy]))

theorem VRO.ops {ρ : Operand → CV} {ρv : Operand → Value} {x : Option Operand} (h : ∀ y, x = Option.some y → VR φ St w (ρ y) (ρv y)) : VRO φ St w (x.map ρ) (x.map ρv) := by
  cases x with
  | none => exact .none
  | some y => exact .some _ _ (h y rfl)

/-- What a quiet operation does. -/
def OpQ (P : Program) (N : Nat) (φ : Phi) (St : Stab) (H : Heap) (w : World) (n : Nat) (s : Sem Next) (c : CV) : Prop :=
  ∃ v w' φ', s.run P w = .ok (.value v) w' ∧ Rel N φ' St H w' ∧ VR φ' St w' c v ∧ Frm n φ St w φ' St w' ∧ ∀ b, b ≠ n → φ' b = φ b

theorem OpQ.of_read (R : Rel N φ St H w) {n : Nat} {s : Sem Value} {c : CV} (h : ∃ r, s.run P w = .ok r w ∧ VR φ St w c r) : OpQ P N φ St H w n (do pure (.value (← s))) c := by
  obtain ⟨r, h1, h2⟩ := h
  exact ⟨r, w, φ, by simp [h1], R, h2, Frm.refl _ _ _ _, fun _ _ => rfl⟩
theorem OpQ.of_okN {n : Nat} {s : Sem Value} {c : CV} (h : OpOkN P N φ St H w n s c) : OpQ P N φ St H w n (do pure (.value (← s))) c := by
  obtain ⟨r, w', φ', h1, h2⟩ := h
  exact ⟨r, w', φ', by simp [h1], h2⟩
theorem OpQ.of_pure (R : Rel N φ St H w) {n : Nat} {c : CV} {v : Value} (h : VR φ St w c v) : OpQ P N φ St H w n (pure (.value v)) c :=
  ⟨v, w, φ, rfl, R, h, Frm.refl _ _ _ _, fun _ _ => rfl⟩

theorem rdC_some {x : Option CV} {c : CV} {o : Option HObj} (h : rdC x = some (c, o)) : x = some c ∧ o = none := by
  cases x <;> simp [rdC] at h; obtain ⟨rfl, rfl⟩ := h; exact ⟨rfl, rfl⟩
theorem mkC_some {x : Option (CV × HObj)} {c : CV} {o : Option HObj} (h : mkC x = some (c, o)) : ∃ b, x = some (c, b) ∧ o = some b := by
  cases x <;> simp [mkC] at h; obtain ⟨rfl, rfl⟩ := h; exact ⟨_, rfl, rfl⟩

theorem sapC_mono (hs : Sub h H) {t : TypeId} {x c : CV} (hc : sapC ty h t x = some c) : sapC ty H t x = some c := by
  unfold sapC at hc ⊢
  cases ht : ty t with
  | none => simp [ht] at hc
  | some i =>
    simp only [ht] at hc ⊢
    split at hc <;> (try (simp at hc; done))
    split at hc <;> (try (simp at hc; done))
    split at hc <;> (try (simp at hc; done))
    · exact hc
    · split at hc <;> (try (simp at hc; done))
      rename_i hcond
      obtain ⟨h1, h2, h3⟩ := hcond
      rw [if_pos ⟨h1, h2, live_mono hs h3⟩]; exact hc

theorem entriesC_mono (hs : Sub h H) {m : CV} {es : List (CV × CV)} (hc : entriesC h m = some es) : entriesC H m = some es := by
  unfold entriesC at hc ⊢
  split at hc <;> (try (simp at hc; done))
  · exact hc
  · split at hc <;> (try (simp at hc; done))
    rename_i hb
    simp only [hs _ _ hb]; exact hc

theorem lookupC_mono (hs : Sub h H) {t : TypeId} {m k c : CV} {ok : Bool} (hc : lookupC ty h t m k ok = some c) : lookupC ty H t m k ok = some c := by
  unfold lookupC at hc ⊢
  cases he : entriesC h m with
  | none =>
    split at hc <;> (try (simp at hc; done))
    split at hc <;> (try (simp at hc; done))
    split at hc <;> (try (simp at hc; done))
    split at hc <;> (try (simp at hc; done))
    simp [he] at *
  | some es => rw [entriesC_mono hs he]; rw [he] at hc; exact hc

theorem callQ_mono (hs : Sub h H) {ρ : Operand → CV} {cl : Call} {c : CV} (hc : callQ ty h ρ cl = some c) : callQ ty H ρ cl = some c := by
  unfold callQ at hc ⊢
  split at hc <;> (try (simp at hc; done))
  · split at hc <;> (try (simp at hc; done))
    exact lenC_mono hs hc
  · split at hc <;> (try (simp at hc; done))
    exact capC_mono hs hc
  · exact hc
  · exact hc

variable (hty : ty.Ok P) (R : Rel N φ St H w) (hs : Sub h H)
include hty R hs

theorem callQ_ok {ρ : Operand → CV} {ρv : Operand → Value} {cl : Call} {c : CV} (hc : callQ ty h ρ cl = some c) (hρ : ∀ x ∈ cl.operands, VR φ St w (ρ x) (ρv x)) (t0 : TypeId) {n : Nat} :
    OpQ P N φ St H w n (do let d ← resolve ρv cl t0; invoke d.target d.args) c := by
  have hc := callQ_mono hs hc
  have harg : ∀ x ∈ cl.args.toList, VR φ St w (ρ x) (ρv x) := fun x hx => hρ x (by unfold Call.operands; simp; exact .inr (by simpa using hx))
  unfold callQ at hc
  split at hc <;> (try (simp at hc; done))
  · rename_i hcal
    split at hc <;> (try (simp at hc; done))
    rename_i x t hx ht
    have ha : cl.args = #[x] := by apply Array.ext'; simpa using hx
    have hta : cl.argTypes = #[t] := by apply Array.ext'; simpa using ht
    have := OpQ.of_read (n := n) R (lenC_ok (t0 := t0) hty R hc (harg x (by simp [hx])))
    simpa [resolve, hcal, ha, hta, invoke, builtin] using this
  · rename_i hcal
    split at hc <;> (try (simp at hc; done))
    rename_i x t hx ht
    have ha : cl.args = #[x] := by apply Array.ext'; simpa using hx
    have hta : cl.argTypes = #[t] := by apply Array.ext'; simpa using ht
    have := OpQ.of_read (n := n) R (capC_ok (t0 := t0) hty R hc (harg x (by simp [hx])))
    simpa [resolve, hcal, ha, hta, invoke, builtin] using this
  · rename_i hcal
    split at hc <;> (try (simp at hc; done))
    rename_i x xs hx
    have hv := VRL.ops harg
    rw [hx] at hv
    cases hv with | cons _ _ _ _ h1 h2 =>
    have ha : cl.args.toList = x :: xs := hx
    have := OpQ.of_read (n := n) R (maxC_ok (P := P) true _ _ _ _ _ hc h1 h2)
    simpa [resolve, hcal, invoke, builtin, Builtin.max_, ha] using this
  · rename_i hcal
    split at hc <;> (try (simp at hc; done))
    rename_i x xs hx
    have hv := VRL.ops harg
    rw [hx] at hv
    cases hv with | cons _ _ _ _ h1 h2 =>
    have ha : cl.args.toList = x :: xs := hx
    have := OpQ.of_read (n := n) R (maxC_ok (P := P) false _ _ _ _ _ hc h1 h2)
    simpa [resolve, hcal, invoke, builtin, Builtin.min_, ha] using this

theorem opQ_ok {n : Nat} {ρ : Operand → CV} {ρv : Operand → Value} {o : Oper} {c : CV} {new : Option HObj} (hq : opQ ty h n ρ o.op = some (c, new)) (hnew : ∀ b, new = some b → φ n = none ∧ H[n]? = some b)
    (hρ : ∀ x ∈ o.op.operands, VR φ St w (ρ x) (ρv x)) (hcst : ∀ v, ρv (.const v) = v) : OpQ P N φ St H w n (execOp ρv o) c := by
  unfold execOp
  cases ho : o.op <;> rw [ho] at hq hρ <;> simp only [opQ] at hq <;> (try (simp at hq; done)) <;> dsimp only
  case move x => simp at hq; obtain ⟨rfl, rfl⟩ := hq; exact OpQ.of_pure R (hρ x (by simp [Op.operands]))
  case assign x => simp at hq; obtain ⟨rfl, rfl⟩ := hq; exact OpQ.of_pure R (hρ x (by simp [Op.operands]))
  case pick a b d =>
    replace hq := rdC_some hq
    obtain ⟨hq, rfl⟩ := hq
    have h1 := hρ a (by simp [Op.operands])
    have h2 := hρ b (by simp [Op.operands])
    have h3 := hρ d (by simp [Op.operands])
    unfold pickC at hq
    split at hq <;> (try (simp at hq; done))
    rename_i t ha
    rw [ha] at h1
    generalize ρv a = va at h1
    cases h1
    simp at hq; subst hq
    cases t
    · simpa [asBool] using OpQ.of_pure (n := n) R h3
    · simpa [asBool] using OpQ.of_pure (n := n) R h2
  case alloc t =>
    cases hj : ty t with
    | none => simp [hj] at hq
    | some j =>
      simp [hj] at hq; obtain ⟨rfl, rfl⟩ := hq
      obtain ⟨hn, hh⟩ := hnew _ rfl
      exact OpQ.of_okN (allocC_ok hty R hj hn hh)
  case box t x =>
    unfold boxC at hq
    split at hq <;> (try (simp at hq; done))
    rename_i hj
    simp at hq; obtain ⟨rfl, rfl⟩ := hq
    obtain ⟨hn, hh⟩ := hnew _ rfl
    exact OpQ.of_okN (boxC_ok R (hρ x (by simp [Op.operands])) hj hn hh)
  case build t parts =>
    replace hq := rdC_some hq
    obtain ⟨hq, rfl⟩ := hq
    exact OpQ.of_read R (buildC_ok hty (parts := parts.toList.map fun p => (p.1, ρ p.2)) (by simp [Function.comp_def]) (by
      have := VRL.ops (xs := parts.toList.map (·.2)) fun x hx => hρ x (by simpa [Op.operands] using hx)
      simpa [Function.comp_def] using this) hq)
  case buildSlice t len parts =>
    replace hq := mkC_some hq
    obtain ⟨b, hq, rfl⟩ := hq
    obtain ⟨hn, hh⟩ := hnew _ rfl
    exact OpQ.of_okN (buildSliceC_ok hty R (parts := parts.toList.map fun p => (p.1, ρ p.2)) (by simp [Function.comp_def]) (by
      have := VRL.ops (xs := parts.toList.map (·.2)) fun x hx => hρ x (by simpa [Op.operands] using hx)
      simpa [Function.comp_def] using this) hq hn hh)
  case load t a =>
    replace hq := rdC_some hq
    obtain ⟨hq, rfl⟩ := hq
    exact OpQ.of_read R (loadC_ok hty R (loadC_mono hs hq) (hρ a (by simp [Op.operands])))
  case nilCheck x =>
    replace hq := rdC_some hq
    obtain ⟨hq, rfl⟩ := hq
    obtain ⟨rfl, hx⟩ := nilCheckC_ok R (nilCheckC_mono hs hq) (hρ x (by simp [Op.operands]))
    have := hx o ρv x ho rfl
    unfold execOp at this
    rw [ho] at this
    exact ⟨_, w, φ, this, R, hρ x (by simp [Op.operands]), Frm.refl _ _ _ _, fun _ _ => rfl⟩
  case binOp op t x y u =>
    replace hq := rdC_some hq
    obtain ⟨hq, rfl⟩ := hq
    exact OpQ.of_read R (binC_ok hty R (binC_mono hs hq) (hρ x (by simp [Op.operands])) (hρ y (by simp [Op.operands])) (by
      intro hy
      unfold isNilSlice at hy
      split at hy <;> (try (simp at hy; done))
      rw [hcst]; exact ⟨_, _, rfl⟩))
  case unOp op u x =>
    replace hq := rdC_some hq
    obtain ⟨hq, rfl⟩ := hq
    exact OpQ.of_read R (unC_ok hq (hρ x (by simp [Op.operands])))
  case convert s t x => exact OpQ.of_okN (convQ_ok hty R (convQ_mono hs hq) hnew (hρ x (by simp [Op.operands])))
  case sliceToArrayPointer t x =>
    replace hq := rdC_some hq
    obtain ⟨hq, rfl⟩ := hq
    exact OpQ.of_read R (sapC_ok hty R (sapC_mono hs hq) (hρ x (by simp [Op.operands])))
  case makeInterface t x =>
    replace hq := rdC_some hq
    obtain ⟨hq, rfl⟩ := hq
    exact OpQ.of_read R (makeIfaceC_ok hty hq (hρ x (by simp [Op.operands])))
  case makeFunc f first captured =>
    unfold makeFuncC at hq
    cases f <;> (try (simp at hq; done))
    rename_i f
    simp at hq; obtain ⟨rfl, rfl⟩ := hq
    have h1 := VRL.ops (xs := first.toList) fun x hx => hρ x (by simp [Op.operands]; exact .inl (by simpa using hx))
    have h2 := VRL.ops (xs := captured.toList) fun x hx => hρ x (by simp [Op.operands]; exact .inr (by simpa using hx))
    refine OpQ.of_read R ⟨_, rfl, ?_⟩
    have := VR.func (φ := φ) (St := St) (w := w) f _ _ _ _ h1 h2
    rwa [show (first.toList.map ρv).toArray = first.map ρv from Array.ext' (by simp), show (captured.toList.map ρv).toArray = captured.map ρv from Array.ext' (by simp)] at this
  case makeMap t r =>
    unfold makeMapC at hq
    split at hq <;> (try (simp at hq; done))
    · rename_i hr
      simp at hq; obtain ⟨rfl, rfl⟩ := hq
      obtain ⟨hn, hh⟩ := hnew _ rfl
      cases r with
      | some _ => simp at hr
      | none => exact OpQ.of_okN (makeMapC_ok R hn hh (by simp [Instr.makeMap]))
    · rename_i x hr
      split at hq <;> (try (simp at hq; done))
      rename_i k a i hi
      split at hq <;> (try (simp at hq; done))
      rename_i hm
      simp at hq; obtain ⟨rfl, rfl⟩ := hq
      obtain ⟨hn, hh⟩ := hnew _ rfl
      cases r with
      | none => simp at hr
      | some y =>
        simp at hr
        have hy := hρ y (by simp [Op.operands])
        rw [hr] at hy
        generalize hvy : ρv y = vy at hy
        cases hy
        have hu := run_und hty hi w
        cases hd : i.desc <;> simp [hd, isMapD] at hm
        rw [hd] at hu
        exact OpQ.of_okN (makeMapC_ok R hn hh (by simp [Instr.makeMap, hvy, hu, asInt, asIntOf]))
  case makeSlice t l m =>
    replace hq := mkC_some hq
    obtain ⟨b, hq, rfl⟩ := hq
    obtain ⟨hn, hh⟩ := hnew _ rfl
    exact OpQ.of_okN (makeSliceC_ok hty R (hρ l (by simp [Op.operands])) (hρ m (by simp [Op.operands])) hq hn hh)
  case slice t x lo hi mx =>
    replace hq := rdC_some hq
    obtain ⟨hq, rfl⟩ := hq
    exact OpQ.of_read R (sliceC_ok hty R (sliceC_mono hs hq) (hρ x (by simp [Op.operands])) (VRO.ops fun y hy => hρ y (by simp [Op.operands, hy])) (VRO.ops fun y hy => hρ y (by simp [Op.operands, hy]))
      (VRO.ops fun y hy => hρ y (by simp [Op.operands, hy])))
  case fieldAddr t x f =>
    replace hq := rdC_some hq
    obtain ⟨hq, rfl⟩ := hq
    exact OpQ.of_read R (fieldAddrC_ok hty R (fieldAddrC_mono hs hq) (hρ x (by simp [Op.operands])))
  case field t x f =>
    replace hq := rdC_some hq
    obtain ⟨hq, rfl⟩ := hq
    exact OpQ.of_read R (fieldC_ok hty hq (hρ x (by simp [Op.operands])))
  case indexAddr t x i =>
    replace hq := rdC_some hq
    obtain ⟨hq, rfl⟩ := hq
    exact OpQ.of_read R (indexAddrC_ok hty R (indexAddrC_mono hs hq) (hρ x (by simp [Op.operands])) (hρ i (by simp [Op.operands])))
  case index t x i =>
    replace hq := rdC_some hq
    obtain ⟨hq, rfl⟩ := hq
    exact OpQ.of_read R (indexC_ok hty hq (hρ x (by simp [Op.operands])) (hρ i (by simp [Op.operands])))
  case lookup t m k ok =>
    replace hq := rdC_some hq
    obtain ⟨hq, rfl⟩ := hq
    exact OpQ.of_read R (lookupC_ok hty R (lookupC_mono hs hq) (hρ m (by simp [Op.operands])) (hρ k (by simp [Op.operands])))
  case typeAssert x u t ok =>
    replace hq := rdC_some hq
    obtain ⟨hq, rfl⟩ := hq
    exact OpQ.of_read R (typeAssertC_ok hty hq (hρ x (by simp [Op.operands])))
  case extract x i =>
    replace hq := rdC_some hq
    obtain ⟨hq, rfl⟩ := hq
    exact OpQ.of_read R (extractC_ok hq (hρ x (by simp [Op.operands])))
  case call cl =>
    replace hq := rdC_some hq
    obtain ⟨hq, rfl⟩ := hq
    exact callQ_ok hty R hs hq (fun x hx => hρ x hx) _

omit hs in
theorem opL_ok {lit : Bool} {ρ : Operand → CV} {ρv : Operand → Value} {o : Oper} {c : CV} {h' : Heap} (hq : opL ty lit H ρ o.op = some (c, h'))
    (hρ : ∀ x ∈ o.op.operands, VR φ St w (ρ x) (ρv x)) :
    ∃ x w' φ' St', (execOp ρv o).run P w = .ok x w' ∧ (x = .skip ∧ c = undefC ∨ ∃ v, x = .value v ∧ VR φ' St' w' c v) ∧ Rel N φ' St' h' w' ∧ Frm H.length φ St w φ' St' w' := by
  unfold execOp
  cases ho : o.op <;> rw [ho] at hq hρ <;> simp only [opL] at hq <;> (try (simp at hq; done)) <;> dsimp only
  case store t a x =>
    cases hst : storeC ty H t (ρ a) (ρ x) with
    | none => simp [hst] at hq
    | some hh =>
      simp [hst] at hq; obtain ⟨rfl, rfl⟩ := hq
      obtain ⟨w', h1, h2, h3⟩ := storeC_ok hty R hst (hρ a (by simp [Op.operands])) (hρ x (by simp [Op.operands]))
      exact ⟨.skip, w', φ, St, by simp [h1], .inl ⟨rfl, rfl⟩, h2, h3⟩
  case mapUpdate t m k v =>
    cases hst : mapUpdateC ty H t (ρ m) (ρ k) (ρ v) with
    | none => simp [hst] at hq
    | some hh =>
      simp [hst] at hq; obtain ⟨rfl, rfl⟩ := hq
      obtain ⟨w', h1, h2, h3⟩ := mapUpdateC_ok hty R hst (hρ m (by simp [Op.operands])) (hρ k (by simp [Op.operands])) (hρ v (by simp [Op.operands]))
      exact ⟨.skip, w', φ, St, by simp [h1], .inl ⟨rfl, rfl⟩, h2, h3⟩
  case call cl =>
    have harg : ∀ x ∈ cl.args.toList, VR φ St w (ρ x) (ρv x) := fun x hx => hρ x (by simp [Op.operands, Call.operands]; exact .inr (by simpa using hx))
    split at hq <;> (try (simp at hq; done))
    · rename_i s x t u hcal hx ht
      have ha : cl.args = #[s, x] := by apply Array.ext'; simpa using hx
      have hta : cl.argTypes = #[t, u] := by apply Array.ext'; simpa using ht
      obtain ⟨v, w', φ', St', h1, h2, h3, h4⟩ := appendC_ok (t0 := o.type) hty R hq (harg s (by simp [hx])) (harg x (by simp [hx]))
      exact ⟨.value v, w', φ', St', by simp [resolve, hcal, ha, hta, invoke, builtin, h1], .inr ⟨v, rfl, h3⟩, h2, h4⟩
    · rename_i s x t u hcal hx ht
      have ha : cl.args = #[s, x] := by apply Array.ext'; simpa using hx
      have hta : cl.argTypes = #[t, u] := by apply Array.ext'; simpa using ht
      obtain ⟨v, w', φ', St', h1, h2, h3, h4⟩ := copyC_ok (u := u) (t0 := o.type) hty R hq (harg s (by simp [hx])) (harg x (by simp [hx]))
      exact ⟨.value v, w', φ', St', by simp [resolve, hcal, ha, hta, invoke, builtin, h1], .inr ⟨v, rfl, h3⟩, h2, h4⟩
end
end Go.Eng
