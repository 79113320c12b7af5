/- Operations that make memory. -/
import Derived.Test.YtjfiojmfcpeaoaaEE3
import Derived.Laws.MakeOwn
import Derived.Laws.Build
namespace Go.Eng
set_option linter.unusedVariables false

section
variable {P : Program} {N : Nat} {φ : Phi} {St : Stab} {h : Heap} {w : World}

/-- A new block of own cells. -/
theorem alloc_own (R : Rel N φ St h w) {cs : List CV} {arr : Array Value} {elem : TypeId} (hv : VRL φ St w cs (arr.toList.take cs.length)) (hl : cs.length ≤ arr.size) :
    Rel N (φ.push h.length (.own w.heap.size 0 arr.size)) St (h ++ [.cells cs]) (w.alloc (.cells arr elem)) ∧
    Frm h.length φ St w (φ.push h.length (.own w.heap.size 0 arr.size)) St (w.alloc (.cells arr elem)) := by
  refine R.push (.own w.heap.size 0 arr.size) (.cells cs) (.cells arr elem) rfl ?_ (by simp) (by simp)
  intro r base size he
  simp at he
  obtain ⟨_, rfl, rfl⟩ := he
  refine ⟨cs, arr, (elem, (0, 0)), rfl, rfl, ⟨rfl, Unfz.zero _⟩, by omega, fun j c hc => ?_⟩
  obtain ⟨v, h1, h2⟩ := hv.get j c hc
  have hj : j < cs.length := (List.getElem?_eq_some_iff.1 hc).1
  rw [List.getElem?_take_of_lt hj, Array.getElem?_toList] at h1
  exact ⟨v, by simpa using h1, h2⟩

/-- An operation that answers c, and may make the place n, which the clean heap H has already. -/
def OpOkN (P : Program) (N : Nat) (φ : Phi) (St : Stab) (H : Heap) (w : World) (n : Nat) (s : Sem Value) (c : CV) : Prop :=
  ∃ v w' φ', s.run P w = .ok v w' ∧ Rel N φ' St H w' ∧ VR φ' St w' c v ∧ Frm n φ St w φ' St w' ∧ ∀ b, b ≠ n → φ' b = φ b

theorem OpOkN.of_pure (R : Rel N φ St h w) {n : Nat} {s : Sem Value} {c : CV} {v : Value} (hr : s.run P w = .ok v w) (hv : VR φ St w c v) : OpOkN P N φ St h w n s c :=
  ⟨v, w, φ, hr, R, hv, Frm.refl _ _ _ _, fun _ _ => rfl⟩

/-- A new block for a place that the clean heap has already. -/
theorem Rel.fresh_at (R : Rel N φ St h w) {n : Nat} (hn : φ n = none) (e : Ent) (o : HObj) (O : Obj) (hb : e.blk = some w.heap.size) (ho : h[n]? = some o)
    (hown : ∀ r base size, e = .own r base size → ∃ (cs : List CV) (arr : Array Value) (elem : TypeId × Nat × Nat), o = .cells cs ∧ O = .cells arr elem.1 elem.2 ∧ (arr.size = size ∧ Unfz elem.2 size) ∧ base + cs.length ≤ size ∧
      ∀ (j : Nat) (c : CV), cs[j]? = some c → ∃ v, arr[base + j]? = some v ∧ VR φ St w c v)
    (htail : ∀ r used u size, e ≠ .tail r used u size) (hobj : ∀ r, e = .obj r → ObjRel φ St w o O) (hdead : e ≠ .dead) :
    Rel N (φ.put n e) St h (w.alloc O) ∧ Frm n φ St w (φ.put n e) St (w.alloc O) := by
  have m : Mono φ St w (φ.put n e) St (w.alloc O) := mono_alloc hn R.stLt
  have hlt : ∀ b e' r, φ b = some e' → e'.blk = some r → r < w.heap.size := fun b e' r hb he => (R.lt hb he).2
  refine ⟨R.change n e o St h (w.alloc O) m (by simp) ho (Nat.le_refl _) (fun _ _ _ _ => rfl) (fun b' e' r hne hb' he => heap_old w O r (hlt b' e' r hb' he)) (fun r j hs => by have := R.stLt r j hs; simp; omega)
    (fun _ _ hs => .inl hs) (fun r he b' e' hne hb' he' => by rw [hb] at he; simp at he; subst he; have := hlt b' e' _ hb' he'; omega) ?_, ?_⟩
  · cases e with
    | own r base size =>
      simp [Ent.blk] at hb; subst hb
      obtain ⟨cs, arr, elem, h1, h2, h3, h4, h5⟩ := hown _ base size rfl
      exact ⟨R.start, cs, arr, elem, h1, by rw [heap_new, h2], h3, h4, fun j c hc => let ⟨v, a, b⟩ := h5 j c hc; ⟨v, a, b.mono m⟩, fun j hs => by have := R.stLt _ j hs; omega⟩
    | tail r used u size => exact absurd rfl (htail r used u size)
    | obj r =>
      simp [Ent.blk] at hb; subst hb
      exact ⟨R.start, O, heap_new _ _, (hobj _ rfl).mono m⟩
    | void => simp [Ent.blk] at hb
    | dead => exact absurd rfl hdead
  · refine { toMono := m, size := by simp, stNew := fun _ _ hs => .inl hs, blkNew := ?_, keepBlk := fun r hr _ => heap_old w O r hr, idNew := ?_, os := rfl, output := rfl, tape := rfl }
    · intro b e' r hb' he'
      by_cases hbn : b = n
      · subst hbn; rw [put_same] at hb'; simp at hb'; subst hb'; rw [hb] at he'; simp at he'; exact .inr (by omega)
      · rw [put_other _ _ _ _ hbn] at hb'; exact .inl ⟨b, e', hb', he'⟩
    · intro b hbn hb'
      rw [put_other _ _ _ _ (by omega)]; exact hb'

theorem alloc_at (R : Rel N φ St h w) {n : Nat} (hn : φ n = none) {cs : List CV} {arr : Array Value} {elem : TypeId} (hh : h[n]? = some (.cells cs)) (hv : VRL φ St w cs (arr.toList.take cs.length)) (hl : cs.length ≤ arr.size) :
    Rel N (φ.put n (.own w.heap.size 0 arr.size)) St h (w.alloc (.cells arr elem)) ∧ Frm n φ St w (φ.put n (.own w.heap.size 0 arr.size)) St (w.alloc (.cells arr elem)) := by
  refine R.fresh_at hn (.own w.heap.size 0 arr.size) (.cells cs) (.cells arr elem) rfl hh ?_ (by simp) (by simp) (by simp)
  intro r base size he
  simp at he
  obtain ⟨_, rfl, rfl⟩ := he
  refine ⟨cs, arr, (elem, (0, 0)), rfl, rfl, ⟨rfl, Unfz.zero _⟩, by omega, fun j c hc => ?_⟩
  obtain ⟨v, h1, h2⟩ := hv.get j c hc
  have hj : j < cs.length := (List.getElem?_eq_some_iff.1 hc).1
  rw [List.getElem?_take_of_lt hj, Array.getElem?_toList] at h1
  exact ⟨v, by simpa using h1, h2⟩

theorem push_at (φ : Phi) (n : Nat) (e : Ent) : (φ.push n e) n = some e := by simp [Phi.push]

theorem newVar_ok (R : Rel N φ St h w) {n : Nat} (hn : φ n = none) (t : TypeId) {cs : List CV} {v : Value} (hv : VRL φ St w cs v.cells.toList) {s : Sem Value}
    (hs : ∀ w, s.run P w = (do pure (.pointer (some (← newVar t v))) : Sem Value).run P w) (hh : h[n]? = some (.cells cs)) : OpOkN P N φ St h w n s (.ptr n 0) := by
  have hl := hv.length
  obtain ⟨R', F⟩ := alloc_at (elem := t) R hn hh (arr := v.cells) (by rw [hl, List.take_length]; exact hv) (by simp at hl; omega)
  refine ⟨.pointer (some ⟨w.heap.size, 0, none⟩), _, _, by rw [hs]; simp [newVar, newRow], R', ?_, F, fun b hb => put_other _ _ _ _ hb⟩
  exact .ptr n 0 _ 0 _ (put_same _ _ _)

section
variable {ty : Ty} (hty : ty.Ok P) (R : Rel N φ St h w)
include hty R

theorem allocC_ok {t : TypeId} {j : TI} (hj : ty t = some j) {n : Nat} (hn : φ n = none) (hh : h[n]? = some (.cells j.zero)) : OpOkN P N φ St h w n (Instr.alloc t true (.tuple #[])) (.ptr n 0) := by
  obtain ⟨z, hz, hzc, hzl, _⟩ := run_zeroC hty hj w
  have hz' : ∀ w, (zeroValue t).run P w = .ok z w := by
    intro w'
    obtain ⟨z', h1, h2, _⟩ := run_zeroC hty hj w'
    obtain ⟨inf, z0, h3, _, _, h4, _⟩ := (hty t j hj).info
    simp [zeroValue, typeInfo, h3, h4] at hz ⊢
    exact hz
  refine newVar_ok R hn t (v := z) (ofVs_ok hzc) (fun w => ?_) hh
  simp [Instr.alloc, hz']
omit hty in
theorem boxC_ok {t : TypeId} {c : CV} {v : Value} (hv : VR φ St w c v) (hj : c ≠ .junk) {n : Nat} (hn : φ n = none) (hh : h[n]? = some (.cells c.flat)) : OpOkN P N φ St h w n (Instr.box t v) (.ptr n 0) :=
  newVar_ok R hn t (hv.flat hj) (fun w => by simp [Instr.box]) hh
end

/-- Cells put over, one part after the other. -/
def fillC (place : Nat → Option (Nat × Nat)) (cells : List CV) : List (Nat × CV) → Option (List CV)
  | [] => some cells
  | (i, v) :: rest =>
    match place i with
    | none => none
    | some (off, size) =>
      if v.flat.length = size ∧ off + size ≤ cells.length ∧ v.flat.all CV.one then fillC place (splice cells off v.flat) rest else none

theorem foldl_set {α : Type} : ∀ (l : List α) (off k : Nat) (cs : List α), off + k + l.length ≤ cs.length →
    (l.zipIdx k).foldl (fun cs p => cs.set (off + p.2) p.1) cs = splice cs (off + k) l
  | [], off, k, cs, hl => by simp [splice]
  | a :: l, off, k, cs, hl => by
    simp only [List.zipIdx_cons, List.foldl_cons]
    simp at hl
    rw [foldl_set l off (k + 1) _ (by simp; omega)]
    apply List.ext_getElem?
    intro i
    rw [get_splice _ _ _ (by simp; omega), get_splice _ _ _ (by simp; omega)]
    rw [List.getElem?_set]
    by_cases c1 : i < off + k
    · rw [if_pos (by omega), if_neg (by omega), if_pos c1]
    · rw [if_neg c1]
      by_cases c2 : i = off + k
      · subst c2
        rw [if_pos (by omega), if_pos rfl, if_pos (by omega), if_pos (by simp)]; simp
      · by_cases c3 : i < off + k + (l.length + 1)
        · rw [if_neg (by omega), if_pos (by omega), if_pos (by simpa using c3), show i - (off + k) = (i - (off + (k + 1))) + 1 by omega]; simp
        · rw [if_neg (by omega), if_neg (by omega), if_neg (by omega), if_neg (by simpa using c3)]

theorem fill_step (cs : Array Value) (off : Nat) (us : Array Value) (h : off + us.size ≤ cs.size) :
    (us.zipIdx.foldl (fun cs (c, j) => cs.setIfInBounds (off + j) c) cs) = (splice cs.toList off us.toList).toArray := by
  have key : ∀ (l : List (Value × Nat)) (c : Array Value), (l.foldl (fun cs (c, j) => cs.setIfInBounds (off + j) c) c).toList = l.foldl (fun cs p => cs.set (off + p.2) p.1) c.toList := by
    intro l
    induction l with
    | nil => intro c; rfl
    | cons p l ih => intro c; simp only [List.foldl_cons]; rw [ih]; simp
  apply Array.toList_inj.1
  rw [← Array.foldl_toList, key]
  simp only [Array.toList_zipIdx]
  have := foldl_set us.toList off 0 cs.toList (by simpa using h)
  simpa using this

theorem fillC_ok (place : Nat → Option (Nat × Nat)) : ∀ (parts : List (Nat × CV)) (vals : List (Nat × Value)) (cs out : List CV) (arr : Array Value),
    parts.map (·.1) = vals.map (·.1) → VRL φ St w (parts.map (·.2)) (vals.map (·.2)) → VRL φ St w cs arr.toList → fillC place cs parts = some out →
    ∃ arr', Instr.fill place arr vals = some arr' ∧ VRL φ St w out arr'.toList
  | [], vals, cs, out, arr, hi, hv, hc, h => by
    cases vals with
    | nil => simp [fillC] at h; subst h; exact ⟨arr, rfl, hc⟩
    | cons => simp at hi
  | (i, c) :: parts, [], cs, out, arr, hi, hv, hc, h => by simp at hi
  | (i, c) :: parts, (k, v) :: vals, cs, out, arr, hi, hv, hc, h => by
    simp at hi
    obtain ⟨rfl, hi⟩ := hi
    simp only [List.map_cons] at hv
    cases hv with
    | cons _ _ _ _ h1 h2 =>
      simp only [fillC] at h
      split at h <;> (try (simp at h; done))
      rename_i off size hp
      split at h <;> (try (simp at h; done))
      rename_i hcond
      obtain ⟨ha, hb, hone⟩ := hcond
      have hj : c ≠ .junk := by
        intro e; subst e; simp [CV.flat, CV.one] at hone
      have hfl := h1.flat hj
      have hlen := hfl.length
      have hcl := hc.length
      have hsz : v.cells.size = size := by rw [← Array.length_toList]; omega
      have hle : off + v.cells.size ≤ arr.size := by rw [← Array.length_toList (xs := arr)]; omega
      simp only [Instr.fill, hp, hsz]
      rw [if_neg (by simp; omega)]
      have hst := fill_step arr off v.cells hle
      have := fillC_ok place parts vals (splice cs off c.flat) out (splice arr.toList off v.cells.toList).toArray hi h2 ?_ h
      · obtain ⟨arr', e1, e2⟩ := this
        refine ⟨arr', ?_, e2⟩
        rw [← e1]
        congr 1
      · simp only [splice]
        rw [hlen]
        exact ((hc.take _).append hfl).append (hc.drop _)

def fieldPlaceC (ty : Ty) (fs : Array Field) (k : Nat) : Option (Nat × Nat) :=
  match fs[k]? with
  | some f => (ty f.type).map fun j => (f.offset, j.size)
  | none => none

def buildC (ty : Ty) (t : TypeId) (parts : List (Nat × CV)) : Option CV :=
  match ty t with
  | some i => match i.desc with
    | .struct fs =>
      if !(fs.toList.all fun f => (ty f.type).isSome) then none else
      (fillC (fieldPlaceC ty fs) i.zero parts).map .agg
    | .array _ e => match ty e with
      | some j => (fillC (fun k => some (k * j.size, j.size)) i.zero parts).map .agg
      | none => none
    | _ => none
  | none => none

section
variable {ty : Ty} (hty : ty.Ok P) (R : Rel N φ St h w)
include hty

theorem run_places : ∀ (fs : List Field), (∀ f ∈ fs, (ty f.type).isSome = true) →
    ∃ ps : List (Nat × Nat), (fs.mapM (fun f => do pure (f.offset, ← sizeOf f.type) : Field → Sem (Nat × Nat))).run P w = .ok ps w ∧ ps.length = fs.length ∧
      ∀ (k : Nat) (f : Field) (j : TI), fs[k]? = some f → ty f.type = some j → ps[k]? = some (f.offset, j.size) := by
  intro fs
  induction fs with
  | nil => intro _; exact ⟨[], rfl, rfl, by simp⟩
  | cons f fs ih =>
    intro hf
    obtain ⟨ps, h1, h2, h3⟩ := ih (fun g hg => hf g (by simp [hg]))
    cases hj : ty f.type with
    | none => have := hf f (by simp); simp [hj] at this
    | some j =>
      refine ⟨(f.offset, j.size) :: ps, ?_, by simp [h2], ?_⟩
      · simp only [List.mapM_cons, Sem.run_bind, run_sizeC hty hj, Result.andThen_ok, Sem.run_pure, h1]
      · intro k g j' hk hj'
        cases k with
        | zero => simp at hk; subst hk; rw [hj] at hj'; simp at hj'; subst hj'; rfl
        | succ k => simpa using h3 k g j' (by simpa using hk) hj'

theorem buildC_ok {t : TypeId} {parts : List (Nat × CV)} {vals : Array (Nat × Value)} {c : CV} (hi : parts.map (·.1) = vals.toList.map (·.1))
    (hv : VRL φ St w (parts.map (·.2)) (vals.toList.map (·.2))) (hc : buildC ty t parts = some c) : ∃ v, (Instr.build t vals).run P w = .ok v w ∧ VR φ St w c v := by
  unfold buildC at hc
  split at hc <;> (try (simp at hc; done))
  rename_i i hti
  have hu := run_und hty hti w
  obtain ⟨z, hz, hzc, hzl, _⟩ := run_zeroC hty hti w
  split at hc <;> (try (simp at hc; done))
  · rename_i fs hd
    rw [hd] at hu
    split at hc <;> (try (simp at hc; done))
    rename_i hall
    have hall : fs.toList.all (fun f => (ty f.type).isSome) = true := by revert hall; cases fs.toList.all (fun f => (ty f.type).isSome) <;> simp
    have hall : ∀ f ∈ fs.toList, (ty f.type).isSome = true := List.all_eq_true.1 hall
    obtain ⟨ps, h1, h2, h3⟩ := run_places hty fs.toList hall (w := w)
    have hplace : fieldPlaceC ty fs = fun (k : Nat) => ps.toArray[k]? := by
      funext k
      unfold fieldPlaceC
      cases hk : fs[k]? with
      | none =>
        have : fs.size ≤ k := by simpa using hk
        simp [show ps.length ≤ k by simpa [h2] using this]
      | some f =>
        have hk' : fs.toList[k]? = some f := by simpa using hk
        cases hj : ty f.type with
        | none => have := hall f (List.mem_of_getElem? hk'); simp [hj] at this
        | some j => simp [h3 k f j hk' hj, hj]
    generalize fieldPlaceC ty fs = place at hc hplace
    cases hf : fillC place i.zero parts with
    | none => simp [hf] at hc
    | some out =>
      simp [hf] at hc; subst hc
      obtain ⟨arr', e1, e2⟩ := fillC_ok place parts vals.toList i.zero out z.cells hi hv (ofVs_ok hzc) hf
      refine ⟨.agg arr', ?_, by simpa using VR.agg (φ := φ) (St := St) (w := w) _ _ e2⟩
      have hmap : (fs.mapM (fun f => do pure (f.offset, ← sizeOf f.type) : Field → Sem (Nat × Nat))).run P w = .ok ps.toArray w := by
        rw [Array.mapM_eq_mapM_toList]
        simp only [Sem.run_map, h1, Result.andThen_ok]
      rw [hplace] at e1
      simp only [Instr.build, Sem.run_bind, hz, Result.andThen_ok, Sem.run_pure, hu, hmap, e1]
  · rename_i len e hd
    rw [hd] at hu
    split at hc <;> (try (simp at hc; done))
    rename_i j hj
    cases hf : fillC (fun k => some (k * j.size, j.size)) i.zero parts with
    | none => simp [hf] at hc
    | some out =>
      simp [hf] at hc; subst hc
      obtain ⟨arr', e1, e2⟩ := fillC_ok _ parts vals.toList i.zero out z.cells hi hv (ofVs_ok hzc) hf
      refine ⟨.agg arr', ?_, by simpa using VR.agg (φ := φ) (St := St) (w := w) _ _ e2⟩
      simp [Instr.build, hz, hu, run_sizeC hty hj, e1]
end

/-- Cells of so many zero elements. -/
def zerosC (n : Nat) (z : List CV) : List CV := (List.replicate n z).flatten

theorem getElem?_flat_replicate {α : Type} (z : List α) (hz : z ≠ []) : ∀ (n i : Nat), (List.replicate n z).flatten[i]? = if i < n * z.length then z[i % z.length]? else none
  | 0, i => by simp
  | n + 1, i => by
    have hpos : 0 < z.length := by cases z with | nil => exact absurd rfl hz | cons => simp
    rw [List.replicate_succ, List.flatten_cons, List.getElem?_append, getElem?_flat_replicate z hz n]
    by_cases h1 : i < z.length
    · rw [if_pos h1, Nat.mod_eq_of_lt h1, if_pos (by rw [Nat.add_mul]; omega)]
    · have e1 : i % z.length = (i - z.length) % z.length := Nat.mod_eq_sub_mod (by omega)
      have e2 : (n + 1) * z.length = n * z.length + z.length := by rw [Nat.add_mul]; omega
      rw [if_neg h1, e1, e2]
      by_cases h3 : i - z.length < n * z.length
      · rw [if_pos h3, if_pos (by omega)]
      · rw [if_neg h3, if_neg (by omega)]

theorem zeros_list (z : Array Value) (n m : Nat) (h : m = n * z.size) : ((Array.range m).map (z[· % z.size]!)).toList = (List.replicate n z.toList).flatten := by
  subst h
  apply List.ext_getElem?
  intro i
  by_cases hz : z.toList = []
  · have : z.size = 0 := by simpa using congrArg List.length hz
    simp [hz, this]
  · rw [getElem?_flat_replicate _ hz]
    simp only [Array.toList_map, Array.toList_range, List.getElem?_map, Array.length_toList]
    have hpos : 0 < z.size := by
      rcases Nat.eq_zero_or_pos z.size with e | e
      · exact absurd (by simpa using e) hz
      · exact e
    by_cases hi : i < n * z.size
    · rw [if_pos hi]
      simp [List.getElem?_range hi, Nat.mod_lt i hpos]
    · rw [if_neg hi]; simp; omega

theorem VRL.flat_replicate {cs : List CV} {vs : List Value} (h : VRL φ St w cs vs) : ∀ n, VRL φ St w (zerosC n cs) (List.replicate n vs).flatten
  | 0 => .nil
  | n + 1 => by
    have := VRL.flat_replicate h n
    unfold zerosC at *
    rw [List.replicate_succ, List.replicate_succ, List.flatten_cons, List.flatten_cons]
    exact h.append this

/-- A slice of given elements. -/
def buildSliceC (ty : Ty) (n : Nat) (t : TypeId) (len : Nat) (parts : List (Nat × CV)) : Option (CV × HObj) :=
  match ty t with
  | some i => match i.desc with
    | .slice e => match ty e with
      | some j =>
        if len * j.size ≤ 2 ^ 24 then
          match fillC (fun k => some (k * j.size, j.size)) (zerosC len j.zero) parts with
          | some cs => some (.sref j.size n 0 len len true, .cells cs)
          | none => none
        else none
      | none => none
    | _ => none
  | none => none

def makeSliceC (ty : Ty) (n : Nat) (t : TypeId) (l c : CV) : Option (CV × HObj) :=
  match ty t, l, c with
  | some i, .int _ l, .int _ c => match i.desc with
    | .slice e => match ty e with
      | some j =>
        if 0 ≤ l ∧ l ≤ c ∧ c < 2 ^ 40 ∧ j.bytes * c ≤ 2 ^ 48 then
          some (.sref j.size n 0 l.toNat c.toNat true, .cells (zerosC c.toNat j.zero))
        else none
      | none => none
    | _ => none
  | _, _, _ => none

theorem fillC_length {place : Nat → Option (Nat × Nat)} : ∀ {parts : List (Nat × CV)} {cs out : List CV}, fillC place cs parts = some out → out.length = cs.length
  | [], cs, out, h => by simp [fillC] at h; subst h; rfl
  | (i, v) :: parts, cs, out, h => by
    simp only [fillC] at h
    split at h <;> (try (simp at h; done))
    split at h <;> (try (simp at h; done))
    rename_i hc
    rw [fillC_length h, length_splice _ _ _ (by omega)]

section
variable {ty : Ty} (hty : ty.Ok P) (R : Rel N φ St h w)
include hty R
theorem buildSliceC_ok {t : TypeId} {len : Nat} {parts : List (Nat × CV)} {vals : Array (Nat × Value)} {c : CV} {o : HObj} {n : Nat} (hi : parts.map (·.1) = vals.toList.map (·.1))
    (hv : VRL φ St w (parts.map (·.2)) (vals.toList.map (·.2))) (hc : buildSliceC ty n t len parts = some (c, o)) (hn : φ n = none) (hh : h[n]? = some o) : OpOkN P N φ St h w n (Instr.buildSlice t len vals) c := by
  unfold buildSliceC at hc
  split at hc <;> (try (simp at hc; done))
  rename_i i hti
  have hu := run_und hty hti w
  split at hc <;> (try (simp at hc; done))
  rename_i e hd
  rw [hd] at hu
  split at hc <;> (try (simp at hc; done))
  rename_i j hj
  split at hc <;> (try (simp at hc; done))
  rename_i hle
  split at hc <;> (try (simp at hc; done))
  rename_i cs hf
  simp at hc
  obtain ⟨rfl, rfl⟩ := hc
  obtain ⟨z, hz, hzc, hzl, _⟩ := run_zeroC hty hj w
  have hzs : z.cells.size = j.size := by
    have := (ofVs_ok (φ := φ) (St := St) (w := w) hzc).length
    rw [← Array.length_toList]; omega
  let zeros : Array Value := if len * j.size = 0 then #[] else z.cells
  have hzeros : ((Array.range (len * j.size)).map (zeros[· % zeros.size]!)).toList = (List.replicate len z.cells.toList).flatten := by
    by_cases h0 : len * j.size = 0
    · simp only [h0]
      rcases Nat.mul_eq_zero.1 h0 with h1 | h1
      · simp [h1]
      · have : z.cells.toList = [] := List.eq_nil_of_length_eq_zero (by rw [Array.length_toList]; omega)
        simp [this]
    · have : zeros = z.cells := if_neg h0
      rw [this]
      exact zeros_list z.cells len _ (by rw [hzs])
  have hzrun : (if len * j.size = 0 then pure #[] else (do pure (← zeroValue e).cells : Sem (Array Value))).run P w = .ok zeros w := by
    by_cases h0 : len * j.size = 0
    · simp [h0, zeros]
    · simp [h0, zeros, hz]
  obtain ⟨arr', e1, e2⟩ := fillC_ok _ parts vals.toList _ cs ((Array.range (len * j.size)).map (zeros[· % zeros.size]!)) hi hv (by rw [hzeros]; exact (ofVs_ok hzc).flat_replicate len) hf
  have hcl := e2.length
  obtain ⟨R', F⟩ := alloc_at (elem := e) R hn hh (arr := arr') (by rw [hcl, List.take_length]; exact e2) (by simp at hcl; omega)
  refine ⟨.slice (some ⟨w.heap.size, 0, none⟩) len len, _, _, ?_, R', ?_, F, fun b hb => put_other _ _ _ _ hb⟩
  · simp only [Instr.buildSlice, Sem.run_bind, hu, Result.andThen_ok, run_sizeC hty hj]
    rw [if_neg (by omega)]
    by_cases h0 : len * j.size = 0
    · have hz0 : zeros = #[] := if_pos h0
      rw [hz0] at e1
      rw [if_pos h0]
      simp only [Sem.run_bind, Sem.run_pure, Result.andThen_ok, e1, newRow, run_newObj]
      rfl
    · have hz0 : zeros = z.cells := if_neg h0
      rw [hz0] at e1
      rw [if_neg h0]
      simp only [Sem.run_bind, Sem.run_pure, hz, Result.andThen_ok, e1, newRow, run_newObj]
      rfl
  · refine .sref _ _ 0 len len true w.heap.size 0 arr'.size len (put_same _ _ _) (Nat.le_refl _) (Nat.le_refl _) (fun _ => rfl) ?_
    have : cs.length = len * j.size := by
      rw [fillC_length hf]; simp [zerosC, hzl]
    have : arr'.size = cs.length := by simp at hcl; omega
    omega

theorem makeSliceC_ok {t : TypeId} {l c : CV} {vl vc : Value} {r : CV} {o : HObj} {n : Nat} (hl : VR φ St w l vl) (hcv : VR φ St w c vc) (hc : makeSliceC ty n t l c = some (r, o)) (hn : φ n = none) (hh : h[n]? = some o) :
    OpOkN P N φ St h w n (Instr.makeSlice t vl vc) r := by
  unfold makeSliceC at hc
  split at hc <;> (try (simp at hc; done))
  rename_i i kl l kc c hti
  cases hl; cases hcv
  have hu := hty _ _ hti |>.und
  split at hc <;> (try (simp at hc; done))
  rename_i e hd
  rw [hd] at hu
  split at hc <;> (try (simp at hc; done))
  rename_i j hj
  split at hc <;> (try (simp at hc; done))
  rename_i hcond
  obtain ⟨h0, hlc, hbig, hb⟩ := hcond
  simp at hc
  obtain ⟨rfl, rfl⟩ := hc
  obtain ⟨inf, z, g1, g2, g3, g4, g5, g6, _⟩ := (hty e j hj).info
  have hzs : z.cells.size = inf.size := by
    have := (ofVs_ok (φ := φ) (St := St) (w := w) g5).length
    rw [← Array.length_toList]; omega
  have hrun := run_make (P := P) w t e inf z hu g1 g4 kl kc l c h0 hlc (by rw [g3]; omega) (by omega)
  have hml : (madeCells z.cells (c.toNat * inf.size)).toList = (List.replicate c.toNat z.cells.toList).flatten := zeros_list z.cells c.toNat _ (by rw [hzs])
  have hv : VRL φ St w (zerosC c.toNat j.zero) (madeCells z.cells (c.toNat * inf.size)).toList := by rw [hml]; exact (ofVs_ok g5).flat_replicate _
  have hvl := hv.length
  obtain ⟨R', F⟩ := alloc_at (elem := e) R hn hh (arr := madeCells z.cells (c.toNat * inf.size)) (by rw [hvl, List.take_length]; exact hv) (by simp at hvl; omega)
  refine ⟨_, _, _, hrun, R', ?_, F, fun b hb => put_other _ _ _ _ hb⟩
  refine .sref _ _ 0 l.toNat c.toNat true w.heap.size 0 _ c.toNat (put_same _ _ _) (Nat.le_refl _) (by omega) (fun _ => rfl) ?_
  rw [size_madeCells, g2]; omega
end
end
end Go.Eng
