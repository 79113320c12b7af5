/- Maps, and what is left. -/
import Derived.Test.YtjfiojmfcpeaoaaEG1
import GoSem.Instr.MapUpdate
import GoSem.Instr.MakeMap
namespace Go.Eng
set_option linter.unusedVariables false

def undefC : CV := .tuple []

theorem bytes_beq_self (a : ByteArray) : (a == a) = true := by
  obtain ⟨⟨x⟩⟩ := a; rw [beq_toListBytes]; simp
theorem bytes_eq_of_beq {a b : ByteArray} (h : (a == b) = true) : a = b := by
  obtain ⟨⟨x⟩⟩ := a; obtain ⟨⟨y⟩⟩ := b; rw [beq_toListBytes] at h; simpa [ByteArray.toList_eq] using h

def sapC (ty : Ty) (h : Heap) (t : TypeId) (x : CV) : Option CV :=
  match ty t with
  | some i => match i.desc with
    | .array n e => match ty e with
      | some j => match x with
        | .slice esz xs _ _ => if esz = j.size ∧ n ≤ xs.length ∧ 0 < n then some (.rop (.agg ((xs.take n).flatMap CV.flat))) else none
        | .sref esz b off len _ _ => if esz = j.size ∧ n ≤ len ∧ live h b then some (.ptr b off) else none
        | _ => none
      | none => none
    | _ => none
  | none => none

def maxC (gt : Bool) : CV → List CV → Option CV
  | .int k a, [] => some (.int k a)
  | .int k a, .int _ b :: rest => maxC gt (.int k (if gt then (if b > a then b else a) else (if b < a then b else a))) rest
  | _, _ => none

/-- The place of a key: whole numbers, or texts. -/
def keyFind (k : CV) : List (CV × CV) → Nat → Option (Option (Nat × CV))
  | [], _ => some none
  | (x, v) :: es, i =>
    match k, x with
    | .int j a, .int j' b => if j = j' then (if a == b then some (some (i, v)) else keyFind k es (i + 1)) else none
    | .str a, .str b => if a == b then some (some (i, v)) else keyFind k es (i + 1)
    | _, _ => none

def plainKey (d : TypeDesc) (k : CV) : Bool :=
  match d, k with
  | .int _, .int _ _ => true
  | .string, .str _ => true
  | _, _ => false

def entriesC (h : Heap) (m : CV) : Option (List (CV × CV)) :=
  match m with
  | .nilmap => some []
  | .map b => match h[b]? with
    | some (.map es) => some es
    | _ => none
  | _ => none

def lookupC (ty : Ty) (h : Heap) (t : TypeId) (m k : CV) (ok : Bool) : Option CV :=
  match ty t with
  | some i => match i.desc with
    | .map kt e => match ty kt, ty e with
      | some jk, some j =>
        if plainKey jk.desc k then
          match entriesC h m with
          | some es => match keyFind k es 0 with
            | some (some (_, v)) => some (if ok then .tuple [v, .bool true] else v)
            | some none => (zeroV j).map fun z => if ok then .tuple [z, .bool false] else z
            | none => none
          | none => none
        else none
      | _, _ => none
    | _ => none
  | none => none

def mapUpdateC (ty : Ty) (h : Heap) (t : TypeId) (m k v : CV) : Option Heap :=
  match ty t, m with
  | some i, .map b => match i.desc with
    | .map kt e => match ty kt with
      | some jk =>
        if plainKey jk.desc k then
          match h[b]? with
          | some (.map es) => match keyFind k es 0 with
            | some (some (n, _)) => some (h.set b (.map (es.set n (k, v))))
            | some none => some (h.set b (.map (es ++ [(k, v)])))
            | none => none
          | _ => none
        else none
      | none => none
    | _ => none
  | _, _ => none

theorem modify_map {α β : Type} (ms : Array α) (n : Nat) (f : α → α) (g : α → β) (x : β) (hx : ∀ e, g (f e) = x) : (ms.modify n f).toList.map g = (ms.toList.map g).set n x := by
  apply List.ext_getElem?
  intro i
  simp only [List.getElem?_map, Array.getElem?_toList, Array.getElem?_modify, List.getElem?_set, List.length_map]
  by_cases hni : n = i
  · rw [if_pos hni, if_pos hni]
    cases hn : ms[i]? with
    | none =>
      have : ¬ i < ms.size := by simpa using hn
      simp [hni]; omega
    | some e =>
      have : i < ms.size := (Array.getElem?_eq_some_iff.1 hn).1
      simp [hni, hx]; omega
  · rw [if_neg hni, if_neg hni]

/-- The entries of a map's value. -/
def IsMap (w : World) (m : Value) (es : Array MapEntry) : Prop :=
  (m = .map none ∧ es = #[]) ∨ ∃ r clock, m = .map (some r) ∧ w.heap[r]? = some (.map es clock)

section
variable {P : Program} {N : Nat} {φ : Phi} {St : Stab} {h : Heap} {w : World}

theorem maxC_ok (gt : Bool) : ∀ (xs : List CV) (x c : CV) (v : Value) (vs : List Value), maxC gt x xs = some c → VR φ St w x v → VRL φ St w xs vs →
    ∃ r, (vs.foldlM (if gt then Builtin.max2 else Builtin.min2) v).run P w = .ok r w ∧ VR φ St w c r
  | [], x, c, v, vs, hc, hx, hv => by
    cases hv
    unfold maxC at hc
    split at hc <;> (try (simp at hc; done))
    · simp at hc; subst hc; exact ⟨v, rfl, hx⟩
    · rename_i heq; simp at heq
  | y :: xs, x, c, v, vs, hc, hx, hv => by
    cases hv with | cons _ u _ us h1 h2 =>
    unfold maxC at hc
    split at hc <;> (try (simp at hc; done))
    · rename_i heq; simp at heq
    · rename_i k a k' b rest heq
      simp at heq
      obtain ⟨rfl, rfl⟩ := heq
      cases hx; cases h1
      obtain ⟨r, g1, g2⟩ := maxC_ok gt _ _ c _ us hc (.int _ _) h2
      refine ⟨r, ?_, g2⟩
      rw [List.foldlM_cons]
      cases gt <;> simpa [Builtin.max2, Builtin.min2] using g1

section
variable {ty : Ty} (hty : ty.Ok P) (R : Rel N φ St h w)
include hty R
theorem sapC_ok {t : TypeId} {x c : CV} (hc : sapC ty h t x = some c) {v : Value} (hx : VR φ St w x v) : ∃ r, (Instr.arrayAt t v).run P w = .ok r w ∧ VR φ St w c r := by
  unfold sapC at hc
  split at hc <;> (try (simp at hc; done))
  rename_i i hi
  have hu := run_und hty hi w
  split at hc <;> (try (simp at hc; done))
  rename_i n e hd; rw [hd] at hu
  split at hc <;> (try (simp at hc; done))
  rename_i j hj
  split at hc <;> (try (simp at hc; done))
  · rename_i esz xs tok full
    split at hc <;> (try (simp at hc; done))
    rename_i hcond
    obtain ⟨rfl, hn, hn0⟩ := hcond
    simp at hc; subst hc
    cases hx with | slice _ _ _ _ a cap vs hat hvs hsz hcap hfull htok =>
    rcases hat with rfl | ⟨a', rfl, hat⟩
    · simp at hn; omega
    · refine ⟨.pointer (some a'), by simp [Instr.arrayAt, hu, show ¬ xs.length < n by omega], .rop _ a' (vs.take (n * j.size)) ?_ ?_⟩
      · have := hat.sub 0 (n * j.size); simpa [Addr.add] using this
      · show VRL φ St w ((xs.take n).flatMap CV.flat) _
        rw [flat_take _ _ hsz]; exact hvs.take _
  · rename_i esz b off len cap ex
    split at hc <;> (try (simp at hc; done))
    rename_i hcond
    obtain ⟨rfl, hn, hl⟩ := hcond
    simp at hc; subst hc
    obtain ⟨r, base, size, rcap, hφ, rfl, _⟩ := alive_sref R hx hl
    exact ⟨.pointer (some ⟨r, base + off, none⟩), by simp [Instr.arrayAt, hu, show ¬ len < n by omega], .ptr _ _ _ _ _ hφ⟩

omit hty R in
theorem keyFind_ok (d : TypeDesc) {k : CV} (hk : plainKey d k = true) {vk : Value} (hvk : VR φ St w k vk) : ∀ (es : List (CV × CV)) (ms : List MapEntry) (i : Nat) (r : Option (Nat × CV)), keyFind k es i = some r →
    VRL φ St w (es.map (·.1)) (ms.map (·.key)) → VRL φ St w (es.map (·.2)) (ms.map (·.val)) →
    (r = none ∧ Instr.findNow d vk ms i = some none) ∨ (∃ n c v, r = some (n, c) ∧ Instr.findNow d vk ms i = some (some (n, v)) ∧ VR φ St w c v ∧ i ≤ n ∧ n < i + es.length ∧ ∃ e, ms[n - i]? = some e ∧ e.key = vk)
  | [], ms, i, r, h, h1, h2 => by
    simp [keyFind] at h; subst h
    cases ms with
    | nil => exact .inl ⟨rfl, rfl⟩
    | cons m ms => simp at h1; cases h1
  | (x, v) :: es, [], i, r, h, h1, h2 => by simp at h1; cases h1
  | (x, v) :: es, m :: ms, i, r, h, h1, h2 => by
    simp only [List.map_cons] at h1 h2
    cases h1 with | cons _ _ _ _ a1 a2 =>
    cases h2 with | cons _ _ _ _ b1 b2 =>
    have go : ∀ {r}, keyFind k es (i + 1) = some r → (r = none ∧ Instr.findNow d vk ms (i + 1) = some none) ∨ (∃ n c v, r = some (n, c) ∧ Instr.findNow d vk ms (i + 1) = some (some (n, v)) ∧ VR φ St w c v ∧ i ≤ n ∧ n < i + (es.length + 1) ∧ ∃ e, (m :: ms)[n - i]? = some e ∧ e.key = vk) := by
      intro r hr
      rcases keyFind_ok d hk hvk es ms (i + 1) r hr a2 b2 with ⟨e1, e2⟩ | ⟨n, c, v, e1, e2, e3, e4, e5, e, e6, e7⟩
      · exact .inl ⟨e1, e2⟩
      · exact .inr ⟨n, c, v, e1, e2, e3, by omega, by omega, e, by rw [show n - i = (n - (i + 1)) + 1 by omega]; simpa using e6, e7⟩
    unfold keyFind at h
    split at h <;> (try (simp at h; done))
    · rename_i j a j' b
      cases hvk
      generalize hmk : m.key = mk at a1
      cases a1
      split at h <;> (try (simp at h; done))
      rename_i hj; subst hj
      cases d <;> simp [plainKey] at hk
      split at h
      · rename_i hab
        simp at h; subst h
        refine .inr ⟨i, v, m.val, rfl, ?_, b1, Nat.le_refl _, by simp, m, by simp, by rw [hmk]; simp at hab; rw [hab]⟩
        simp [Instr.findNow, Instr.sameNow, hmk, hab]
      · rename_i hab
        rcases go h with ⟨e1, e2⟩ | ⟨n, c, v', e1, e2, e3⟩
        · exact .inl ⟨e1, by simpa [Instr.findNow, Instr.sameNow, hmk, hab] using e2⟩
        · exact .inr ⟨n, c, v', e1, by simpa [Instr.findNow, Instr.sameNow, hmk, hab] using e2, e3⟩
    · rename_i a b
      cases hvk with | str _ ta ha =>
      generalize hmk : m.key = mk at a1
      cases a1 with | str _ tb hb =>
      cases d <;> simp [plainKey] at hk
      have hbe : (ta == tb) = (a == b) := by subst ha; subst hb; obtain ⟨⟨x⟩⟩ := ta; obtain ⟨⟨y⟩⟩ := tb; rw [beq_toListBytes]; simp [ByteArray.toList_eq]
      split at h
      · rename_i hab
        simp at h; subst h
        have hee : ta = tb := by
          have : (ta == tb) = true := by rw [hbe, hab]
          exact bytes_eq_of_beq this
        refine .inr ⟨i, v, m.val, rfl, ?_, b1, Nat.le_refl _, by simp, m, by simp, by rw [hmk, hee]⟩
        simp [Instr.findNow, Instr.sameNow, hmk, hbe, hab]
      · rename_i hab
        have hab' : (a == b) = false := by simpa using hab
        rcases go h with ⟨e1, e2⟩ | ⟨n, c, v', e1, e2, e3⟩
        · exact .inl ⟨e1, by simpa [Instr.findNow, Instr.sameNow, hmk, hbe, hab'] using e2⟩
        · exact .inr ⟨n, c, v', e1, by simpa [Instr.findNow, Instr.sameNow, hmk, hbe, hab'] using e2, e3⟩

omit R in
theorem run_checkKeyC {kt : TypeId} {jk : TI} (hjk : ty kt = some jk) {k : CV} (hk : plainKey jk.desc k = true) {vk : Value} (hvk : VR φ St w k vk) (e : Bool) (w' : World) :
    (Instr.checkKey e 10000 kt vk).run P w' = .ok () w' := by
  have hu := run_und hty hjk w'
  rw [show (10000 : Nat) = 9999 + 1 from rfl]
  generalize 9999 = D
  cases hd : jk.desc <;> rw [hd] at hk hu <;> cases k <;> simp [plainKey] at hk <;> cases hvk <;> simp [Instr.checkKey, hu]

omit hty in
theorem entriesC_ok {m : CV} {es : List (CV × CV)} (hes : entriesC h m = some es) {vm : Value} (hm : VR φ St w m vm) :
    ∃ ms : Array MapEntry, IsMap w vm ms ∧ VRL φ St w (es.map (·.1)) (ms.toList.map (·.key)) ∧ VRL φ St w (es.map (·.2)) (ms.toList.map (·.val)) := by
  unfold entriesC at hes
  split at hes <;> (try (simp at hes; done))
  · simp at hes; subst hes; cases hm
    exact ⟨#[], .inl ⟨rfl, rfl⟩, .nil, .nil⟩
  · split at hes <;> (try (simp at hes; done))
    rename_i b _ es' hb
    simp at hes; subst hes
    obtain ⟨r, hφ, rfl⟩ := alive_map R hm (by simp [live, hb])
    obtain ⟨_, o, O, ho, hw, hr⟩ := R.obj b r hφ
    rw [hb] at ho; simp at ho; subst ho
    cases hr with | map _ entries clock h1 h2 =>
    exact ⟨entries, .inr ⟨r, clock, rfl, hw⟩, h1, h2⟩

theorem lookupC_ok {t : TypeId} {m k c : CV} {ok : Bool} (hc : lookupC ty h t m k ok = some c) {vm vk : Value} (hm : VR φ St w m vm) (hk : VR φ St w k vk) :
    ∃ r, (Instr.lookup t vm vk ok).run P w = .ok r w ∧ VR φ St w c r := by
  unfold lookupC at hc
  split at hc <;> (try (simp at hc; done))
  rename_i i hi
  have hu := run_und hty hi w
  split at hc <;> (try (simp at hc; done))
  rename_i kt e hd; rw [hd] at hu
  split at hc <;> (try (simp at hc; done))
  rename_i jk j hjk hj
  have huk := run_und hty hjk w
  split at hc <;> (try (simp at hc; done))
  rename_i hpk
  split at hc <;> (try (simp at hc; done))
  rename_i es hes
  obtain ⟨ms, hms, hv1, hv2⟩ := entriesC_ok R hes hm
  have hck := run_checkKeyC (P := P) hty hjk hpk hk ms.isEmpty w
  have hrun : ∀ (x : Option (Nat × Value)), Instr.findNow jk.desc vk ms.toList 0 = some x → (Instr.lookup t vm vk ok).run P w = ((match x with
      | some (_, v) => pure (v, true)
      | none => do pure (← zeroValue e, false) : Sem (Value × Bool)).run P w).andThen fun p w' => .ok (if ok then .tuple #[p.1, .bool p.2] else p.1) w' := by
    intro x hx
    rcases hms with ⟨rfl, rfl⟩ | ⟨r, clock, rfl, hw⟩
    · simp only [Instr.lookup, Sem.run_bind, hu, Result.andThen_ok, Sem.run_pure, hck, Instr.findKey, huk, hx]
      cases x <;> simp <;> cases (zeroValue e).run P w <;> rfl
    · have hg : (getObj r).run P w = .ok (.map ms clock) w := by simp [getObj, Sem.run, hw]
      simp only [Instr.lookup, Sem.run_bind, hu, Result.andThen_ok, Sem.run_pure, hg, hck, Instr.findKey, huk, hx]
      cases x <;> simp <;> cases (zeroValue e).run P w <;> rfl
  split at hc <;> (try (simp at hc; done))
  · rename_i n v hkf
    simp only [Option.some.injEq] at hc; subst hc
    rcases keyFind_ok jk.desc hpk hk es ms.toList 0 _ hkf hv1 hv2 with ⟨e1, _⟩ | ⟨n', c', v', e1, e2, e3, _⟩
    · simp at e1
    · simp at e1; obtain ⟨rfl, rfl⟩ := e1
      refine ⟨_, by rw [hrun _ e2]; simp; rfl, ?_⟩
      cases ok
      · exact e3
      · exact .tuple _ [v', .bool true] (.cons _ _ _ _ e3 (.cons _ _ _ _ (.bool _) .nil))
  · rename_i hkf
    cases hz : zeroV j with
    | none => simp [hz] at hc
    | some zc =>
      simp [hz] at hc; subst hc
      rcases keyFind_ok jk.desc hpk hk es ms.toList 0 _ hkf hv1 hv2 with ⟨_, e2⟩ | ⟨n', c', v', e1, _⟩
      · obtain ⟨z, hzr, hzc, hzl, hzg⟩ := run_zeroC hty hj w
        have hzv : VR φ St w zc z := zeroV_ok hz hzc hzg
        refine ⟨_, by rw [hrun _ e2]; simp [hzr]; rfl, ?_⟩
        cases ok
        · exact hzv
        · exact .tuple _ [z, .bool false] (.cons _ _ _ _ hzv (.cons _ _ _ _ (.bool _) .nil))
      · simp at e1

omit hty in
theorem Rel.putObj {b r : Nat} (hφ : φ b = some (.obj r)) (o : HObj) (O : Obj) (ho : ObjRel φ St w o O) :
    ∃ w', (setObj r O).run P w = .ok () w' ∧ Rel N φ St (h.set b o) w' ∧ Frm h.length φ St w φ St w' := by
  obtain ⟨hN, o0, O0, hh, hw, _⟩ := R.obj b r hφ
  have hr : r < w.heap.size := (Array.getElem?_eq_some_iff.1 hw).1
  have hbl := R.dom b _ hφ
  have hput : φ.put b (.obj r) = φ := by
    funext b'
    by_cases hb : b' = b
    · subst hb; rw [put_same, hφ]
    · rw [put_other _ _ _ _ hb]
  have hO0 := (R.obj b r hφ)
  have hc0 : ∀ c e f, O0 ≠ .cells c e f := by
    obtain ⟨_, o1, O1, _, hw1, hr1⟩ := hO0
    rw [hw] at hw1; simp at hw1; subst hw1
    exact hr1.notCells
  let w' : World := { w with heap := w.heap.setIfInBounds r O }
  have hw' : w'.heap[r]? = some O := by simp [w', hr]
  have hoth : ∀ r', r' ≠ r → w'.heap[r']? = w.heap[r']? := fun r' hne => by simp [w', Ne.symm hne]
  have hrun : (setObj r O).run P w = .ok () w' := by
    simp only [setObj, Sem.run]
    rw [hw]
    cases O0 <;> first | rfl | exact absurd rfl (hc0 _ _ _)
  have m : Mono φ St w φ St w' := by
    refine ⟨fun _ => .refl _, fun _ _ hs => hs, fun r' j hs => ?_⟩
    by_cases hne : r' = r
    · subst hne
      have hc1 := ho.notCells
      unfold World.cell?
      simp only [hw', hw]
      cases O0 <;> cases O <;> first | rfl | exact absurd rfl (hc0 _ _ _) | exact absurd rfl (hc1 _ _ _)
    · exact World.cell?_of_block (hoth r' hne)
  refine ⟨w', hrun, ?_, Frm.quiet m (by simp [w']) (fun r' hr' hn => hoth r' fun e => hn b _ hφ (by rw [e]; rfl)) rfl rfl rfl⟩
  have := R.change b (.obj r) o St (h.set b o) w' (by rw [hput]; exact m) (by simp [w']) (by rw [List.getElem?_set_self hbl]) (by simp)
    (fun b' e hne _ => by rw [List.getElem?_set_ne (Ne.symm hne)])
    (fun b' e r' hne hb' he => hoth r' fun e' => by subst e'; exact hne (R.inj b' b _ _ _ hb' hφ he rfl))
    (fun r' j hs => by have := R.stLt r' j hs; simp [w']; exact this) (fun _ _ hs => .inl hs)
    (fun r' he b' e hne hb' he' => by simp [Ent.blk] at he; subst he; exact hne (R.inj b' b _ _ _ hb' hφ he' rfl))
    (by rw [hput]; exact ⟨hN, O, hw', ho.mono m⟩)
  rwa [hput] at this

theorem mapUpdateC_ok {t : TypeId} {m k c : CV} {h' : Heap} (hc : mapUpdateC ty h t m k c = some h') {vm vk vc : Value} (hm : VR φ St w m vm) (hk : VR φ St w k vk) (hv : VR φ St w c vc) :
    ∃ w', (Instr.mapUpdate t vm vk vc).run P w = .ok () w' ∧ Rel N φ St h' w' ∧ Frm h.length φ St w φ St w' := by
  unfold mapUpdateC at hc
  split at hc <;> (try (simp at hc; done))
  rename_i _ _ i b hi
  have hu := run_und hty hi w
  split at hc <;> (try (simp at hc; done))
  rename_i kt e hd; rw [hd] at hu
  split at hc <;> (try (simp at hc; done))
  rename_i jk hjk
  have huk := run_und hty hjk w
  split at hc <;> (try (simp at hc; done))
  rename_i hpk
  split at hc <;> (try (simp at hc; done))
  rename_i es hes
  obtain ⟨r, hφ, rfl⟩ := alive_map R hm (by simp [live, hes])
  obtain ⟨_, o, O, ho, hw, hr⟩ := R.obj b r hφ
  rw [hes] at ho; simp at ho; subst ho
  cases hr with | map _ ms clock h1 h2 =>
  have hg : (getObj r).run P w = .ok (.map ms clock) w := by simp [getObj, Sem.run, hw]
  have hck := run_checkKeyC (P := P) hty hjk hpk hk false w
  split at hc <;> (try (simp at hc; done))
  · rename_i n c0 hkf
    simp only [Option.some.injEq] at hc; subst hc
    rcases keyFind_ok jk.desc hpk hk es ms.toList 0 _ hkf h1 h2 with ⟨e1, _⟩ | ⟨n', c', v', e1, e2, e3, _, e5, en, e6, e7⟩
    · simp at e1
    · simp at e1; obtain ⟨rfl, rfl⟩ := e1
      simp at e6
      have hkeep : ∀ w, (Instr.keyThatStays (((ms[n]?).map (·.key)).getD vk) vk).run P w = .ok vk w := by
        intro w'
        rw [e6]
        simp only [Option.map_some, Option.getD_some, e7]
        have : Instr.sameBits 10000 vk vk = true := by
          cases hdd : jk.desc <;> rw [hdd] at hpk <;> cases k <;> simp [plainKey] at hpk <;> cases hk <;> simp [Instr.sameBits, bytes_beq_self]
        simp [Instr.keyThatStays, this]
      obtain ⟨w', g1, g2, g3⟩ := R.putObj (P := P) hφ (.map (es.set n (k, c))) (.map (ms.modify n fun e => { e with key := vk, val := vc }) clock) (by
        refine .map _ _ _ ?_ ?_
        · have hx : (ms.modify n fun e => { e with key := vk, val := vc }).toList.map (·.key) = (ms.toList.map (·.key)).set n vk := modify_map _ _ _ _ _ fun _ => rfl
          rw [hx, List.map_set]; exact h1.set n hk
        · have hx : (ms.modify n fun e => { e with key := vk, val := vc }).toList.map (·.val) = (ms.toList.map (·.val)).set n vc := modify_map _ _ _ _ _ fun _ => rfl
          rw [hx, List.map_set]; exact h2.set n hv)
      refine ⟨w', ?_, g2, g3⟩
      simp [Instr.mapUpdate, hu, hg, hck, Instr.findKey, huk, e2, hkeep]
      exact g1
  · rename_i hkf
    simp only [Option.some.injEq] at hc; subst hc
    rcases keyFind_ok jk.desc hpk hk es ms.toList 0 _ hkf h1 h2 with ⟨_, e2⟩ | ⟨n', c', v', e1, _⟩
    · obtain ⟨w', g1, g2, g3⟩ := R.putObj (P := P) hφ (.map (es ++ [(k, c)])) (.map (ms.push { key := vk, val := vc, born := clock }) (clock + 1)) (by
        refine .map _ _ _ ?_ ?_
        · simpa using h1.append (.cons _ _ _ _ hk .nil)
        · simpa using h2.append (.cons _ _ _ _ hv .nil))
      refine ⟨w', ?_, g2, g3⟩
      simp [Instr.mapUpdate, hu, hg, hck, Instr.findKey, huk, e2]
      exact g1
    · simp at e1

omit hty in
theorem makeMapC_ok {n : Nat} (hn : φ n = none) (hh : h[n]? = some (.map [])) {s : Sem Value} (hs : s.run P w = (do pure (.map (some (← newObj (.map #[] 0)))) : Sem Value).run P w) : OpOkN P N φ St h w n s (.map n) := by
  obtain ⟨R', F⟩ := R.fresh_at hn (.obj w.heap.size) (.map []) (.map #[] 0) rfl hh (by simp) (by simp) (fun r _ => .map [] #[] 0 .nil .nil) (by simp)
  exact ⟨.map (some w.heap.size), _, _, by rw [hs]; simp [newObj, Sem.run], R', .map _ _ (put_same _ _ _), F, fun b hb => put_other _ _ _ _ hb⟩
end
end
end Go.Eng
