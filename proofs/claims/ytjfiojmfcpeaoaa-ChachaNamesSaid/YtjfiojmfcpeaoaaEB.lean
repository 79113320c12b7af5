/- The clean heap's relation to the world, and its primitive steps. -/
import Derived.Test.YtjfiojmfcpeaoaaEA
import Derived.Laws.Rows
import Derived.Laws.Tables
import Derived.Laws.CopyRow
namespace Go.Eng
set_option linter.unusedVariables false

/-- May the value stand in one cell? -/
def CV.one : CV → Bool
  | .agg _ | .tuple _ | .junk => false
  | _ => true

theorem VR.one {φ : Phi} {St : Stab} {w : World} {c : CV} {v : Value} (h : VR φ St w c v) (hc : c.one = true) : v.oneCell' = true := by
  cases h <;> first | assumption | rfl | simp [CV.one] at hc

inductive HObj where
  | dead
  | cells (cs : List CV)
  | tail (u : Nat)
  | map (es : List (CV × CV))
  | loop (fn : FuncId) (tmps : List CV) (params : Array Tmp) (assign body : X) (state : LoopState) (pending : Option Jump)
  deriving Inhabited

abbrev Heap := List HObj

inductive ObjRel (φ : Phi) (St : Stab) (w : World) : HObj → Obj → Prop where
  | map (es : List (CV × CV)) (entries : Array MapEntry) (clock : Nat) (hk : VRL φ St w (es.map (·.1)) (entries.toList.map (·.key))) (hv : VRL φ St w (es.map (·.2)) (entries.toList.map (·.val))) :
      ObjRel φ St w (.map es) (.map entries clock)
  | loop (fn g : FuncId) (tmps : List CV) (ts : List Value) (params : Array Tmp) (assign body : X) (state : LoopState) (pending : Option Jump) (dr : Nat)
      (ht : VRL φ St w tmps ts) (ha : assign.ok) (hb : body.ok) :
      ObjRel φ St w (.loop fn tmps params assign body state pending) (.loop { state, pending := pending.map Jump.code, fn := g, tmps := ts.toArray, params, assign := assign.code, body := body.code, defers := dr })

theorem ObjRel.mono {φ φ' : Phi} {St St' : Stab} {w w' : World} (m : Mono φ St w φ' St' w') {o : HObj} {O : Obj} (h : ObjRel φ St w o O) : ObjRel φ' St' w' o O := by
  cases h with
  | map es entries clock hk hv => exact .map es entries clock (hk.mono m) (hv.mono m)
  | loop fn g tmps ts params assign body state pending dr ht ha hb => exact .loop fn g tmps ts params assign body state pending dr (ht.mono m) ha hb

theorem ObjRel.notCells {φ : Phi} {St : Stab} {w : World} {o : HObj} {O : Obj} (h : ObjRel φ St w o O) : ∀ c e f, O ≠ .cells c e f := by
  cases h <;> simp

/-- No cell of a row's first ones is frozen. -/
def Unfz (fz : Nat × Nat) (n : Nat) : Prop := fz.1 = fz.2 ∨ n ≤ fz.1
theorem Unfz.zero (n : Nat) : Unfz (0, 0) n := .inl rfl

structure Rel (N : Nat) (φ : Phi) (St : Stab) (h : Heap) (w : World) : Prop where
  dom : ∀ b e, φ b = some e → b < h.length
  dead : ∀ b, φ b = some .dead → h[b]? = some .dead
  own : ∀ b r base size, φ b = some (.own r base size) → N ≤ r ∧ ∃ (cs : List CV) (arr : Array Value) (elem : TypeId × Nat × Nat), h[b]? = some (.cells cs) ∧ w.heap[r]? = some (.cells arr elem.1 elem.2) ∧ (arr.size = size ∧ Unfz elem.2 size) ∧
    base + cs.length ≤ size ∧ ∀ j c, cs[j]? = some c → ∃ v, arr[base + j]? = some v ∧ VR φ St w c v
  tail : ∀ k r used u size, φ k = some (.tail r used u size) → N ≤ r ∧ h[k]? = some (.tail u) ∧ used ≤ size ∧ ∃ (arr : Array Value) (elem : TypeId × Nat × Nat), w.heap[r]? = some (.cells arr elem.1 elem.2) ∧ (arr.size = size ∧ Unfz elem.2 size)
  obj : ∀ b r, φ b = some (.obj r) → N ≤ r ∧ ∃ o O, h[b]? = some o ∧ w.heap[r]? = some O ∧ ObjRel φ St w o O
  inj : ∀ b b' e e' r, φ b = some e → φ b' = some e' → e.blk = some r → e'.blk = some r → b = b'
  stLt : ∀ r j, St r j → r < w.heap.size
  stOwn : ∀ b r base size j, φ b = some (.own r base size) → ¬ St r j
  stTail : ∀ k r used u size j, φ k = some (.tail r used u size) → St r j → j < used
  start : N ≤ w.heap.size
  void : ∀ k u, φ k = some (.void u) → h[k]? = some (.tail u)

theorem Rel.lt {N : Nat} {φ : Phi} {St : Stab} {h : Heap} {w : World} (R : Rel N φ St h w) {b : Nat} {e : Ent} {r : Nat} (hb : φ b = some e) (he : e.blk = some r) : N ≤ r ∧ r < w.heap.size := by
  cases e with
  | own r' base size =>
    simp [Ent.blk] at he; subst he
    obtain ⟨hn, cs, arr, elem, _, hw, _⟩ := R.own b r' base size hb
    exact ⟨hn, (Array.getElem?_eq_some_iff.1 hw).1⟩
  | tail r' used u size =>
    simp [Ent.blk] at he; subst he
    obtain ⟨hn, _, _, arr, elem, hw, _⟩ := R.tail b r' used u size hb
    exact ⟨hn, (Array.getElem?_eq_some_iff.1 hw).1⟩
  | obj r' =>
    simp [Ent.blk] at he; subst he
    obtain ⟨hn, o, O, _, hw, _⟩ := R.obj b r' hb
    exact ⟨hn, (Array.getElem?_eq_some_iff.1 hw).1⟩
  | void => simp [Ent.blk] at he
  | dead => simp [Ent.blk] at he

/-- What a step leaves as it was. -/
structure Frm (n : Nat) (φ : Phi) (St : Stab) (w : World) (φ' : Phi) (St' : Stab) (w' : World) : Prop extends Mono φ St w φ' St' w' where
  size : w.heap.size ≤ w'.heap.size
  stNew : ∀ r j, St' r j → St r j ∨ w.heap.size ≤ r ∨ ∃ b e, φ b = some e ∧ e.blk = some r
  blkNew : ∀ b e r, φ' b = some e → e.blk = some r → (∃ b0 e0, φ b0 = some e0 ∧ e0.blk = some r) ∨ w.heap.size ≤ r
  keepBlk : ∀ r, r < w.heap.size → (∀ b e, φ b = some e → e.blk ≠ some r) → w'.heap[r]? = w.heap[r]?
  idNew : ∀ b, b < n → φ b = none → φ' b = none
  os : w'.os = w.os
  output : w'.output = w.output
  tape : w'.tape = w.tape

theorem Frm.refl (n : Nat) (φ : Phi) (St : Stab) (w : World) : Frm n φ St w φ St w :=
  { toMono := .refl _ _ _, size := Nat.le_refl _, stNew := fun _ _ h => .inl h, blkNew := fun b e r h k => .inl ⟨b, e, h, k⟩, keepBlk := fun _ _ _ => rfl,
    idNew := fun _ _ h => h, os := rfl, output := rfl, tape := rfl }

theorem Frm.trans {n m : Nat} {φ φ' φ'' : Phi} {St St' St'' : Stab} {w w' w'' : World} (h : Frm n φ St w φ' St' w') (k : Frm m φ' St' w' φ'' St'' w'') (hnm : n ≤ m) : Frm n φ St w φ'' St'' w'' where
  toMono := h.toMono.trans k.toMono
  size := Nat.le_trans h.size k.size
  stNew := by
    intro r j hs
    rcases k.stNew r j hs with hs | hs | ⟨b, e, hb, he⟩
    · exact h.stNew r j hs
    · exact .inr (.inl (Nat.le_trans h.size hs))
    · rcases h.blkNew b e r hb he with hx | hx
      · exact .inr (.inr hx)
      · exact .inr (.inl hx)
  blkNew := by
    intro b e r hb he
    rcases k.blkNew b e r hb he with ⟨b0, e0, hb0, he0⟩ | hx
    · exact h.blkNew b0 e0 r hb0 he0
    · exact .inr (Nat.le_trans h.size hx)
  keepBlk := by
    intro r hr hn
    rw [k.keepBlk r (Nat.lt_of_lt_of_le hr h.size), h.keepBlk r hr hn]
    intro b e hb he
    rcases h.blkNew b e r hb he with ⟨b0, e0, hb0, he0⟩ | hx
    · exact hn b0 e0 hb0 he0
    · omega
  idNew := fun b hb hn => k.idNew b (by omega) (h.idNew b hb hn)
  os := k.os.trans h.os
  output := k.output.trans h.output
  tape := k.tape.trans h.tape

theorem Frm.le {n m : Nat} {φ φ' : Phi} {St St' : Stab} {w w' : World} (h : Frm n φ St w φ' St' w') (hm : m ≤ n) : Frm m φ St w φ' St' w' :=
  { h with idNew := fun b hb => h.idNew b (by omega) }

/-- Blocks below N are as they were. -/
theorem Frm.below {n N : Nat} {φ φ' : Phi} {St St' : Stab} {h : Heap} {w w' : World} (R : Rel N φ St h w) (f : Frm n φ St w φ' St' w') : RowKit.Below N w w' :=
  ⟨f.os, f.tape, f.output, f.size, fun k hk => f.keepBlk k (Nat.lt_of_lt_of_le hk R.start) fun b e hb he => by have := (R.lt hb he).1; omega⟩

/-! List relation -/
section VRLs
variable {φ : Phi} {St : Stab} {w : World}
theorem VRL.length {cs : List CV} {vs : List Value} (h : VRL φ St w cs vs) : cs.length = vs.length := by
  induction cs generalizing vs with
  | nil => cases h; rfl
  | cons c cs ih => cases h with | cons _ v _ vs h hs => simp [ih hs]
theorem VRL.get {cs : List CV} {vs : List Value} (h : VRL φ St w cs vs) : ∀ (j : Nat) (c : CV), cs[j]? = some c → ∃ v, vs[j]? = some v ∧ VR φ St w c v := by
  induction cs generalizing vs with
  | nil => intro j c hc; simp at hc
  | cons x cs ih =>
    cases h with
    | cons _ v _ vs h hs =>
      intro j c hc
      cases j with
      | zero => simp at hc; subst hc; exact ⟨v, by simp, h⟩
      | succ j => simpa using ih hs j c (by simpa using hc)
theorem VRL.of_get {cs : List CV} {vs : List Value} (hl : cs.length = vs.length) (h : ∀ (j : Nat) (c : CV) (v : Value), cs[j]? = some c → vs[j]? = some v → VR φ St w c v) : VRL φ St w cs vs := by
  induction cs generalizing vs with
  | nil => cases vs with | nil => exact .nil | cons => simp at hl
  | cons x cs ih =>
    cases vs with
    | nil => simp at hl
    | cons v vs => exact .cons _ _ _ _ (h 0 x v (by simp) (by simp)) (ih (by simpa using hl) fun j c u hc hu => h (j + 1) c u (by simpa using hc) (by simpa using hu))
theorem VRL.append {cs ds : List CV} {vs us : List Value} (h : VRL φ St w cs vs) (k : VRL φ St w ds us) : VRL φ St w (cs ++ ds) (vs ++ us) := by
  induction cs generalizing vs with
  | nil => cases h; exact k
  | cons x cs ih => cases h with | cons _ v _ vs h hs => exact .cons _ _ _ _ h (ih hs)
theorem VRL.take {cs : List CV} {vs : List Value} (n : Nat) (h : VRL φ St w cs vs) : VRL φ St w (cs.take n) (vs.take n) := by
  induction cs generalizing vs n with
  | nil => cases h; simpa using VRL.nil
  | cons x cs ih => cases h with | cons _ v _ vs h hs => cases n with
    | zero => exact .nil
    | succ n => exact .cons _ _ _ _ h (ih n hs)
theorem VRL.drop {cs : List CV} {vs : List Value} (n : Nat) (h : VRL φ St w cs vs) : VRL φ St w (cs.drop n) (vs.drop n) := by
  induction cs generalizing vs n with
  | nil => cases h; simpa using VRL.nil
  | cons x cs ih => cases h with | cons _ v _ vs h hs => cases n with
    | zero => exact .cons _ _ _ _ h hs
    | succ n => exact ih n hs
theorem VRL.set {cs : List CV} {vs : List Value} (n : Nat) {c : CV} {v : Value} (h : VRL φ St w cs vs) (hc : VR φ St w c v) : VRL φ St w (cs.set n c) (vs.set n v) := by
  induction cs generalizing vs n with
  | nil => cases h; simpa using VRL.nil
  | cons x cs ih => cases h with | cons _ u _ vs h hs => cases n with
    | zero => exact .cons _ _ _ _ hc hs
    | succ n => exact .cons _ _ _ _ h (ih n hs)
theorem VRL.replicate (n : Nat) {c : CV} {v : Value} (hc : VR φ St w c v) : VRL φ St w (List.replicate n c) (List.replicate n v) := by
  induction n with
  | zero => exact .nil
  | succ n ih => exact .cons _ _ _ _ hc ih
theorem VRL.one {cs : List CV} {vs : List Value} (h : VRL φ St w cs vs) (hc : ∀ c ∈ cs, c.one = true) : ∀ v ∈ vs, v.oneCell' = true := by
  induction cs generalizing vs with
  | nil => cases h; simp
  | cons x cs ih => cases h with | cons _ v _ vs h hs =>
    intro u hu
    rcases List.mem_cons.1 hu with rfl | hu
    · exact h.one (hc x (by simp))
    · exact ih hs (fun c hc' => hc c (by simp [hc'])) u hu
/-- A value's cells. -/
theorem VR.flat {c : CV} {v : Value} (h : VR φ St w c v) (hj : c ≠ .junk) : VRL φ St w c.flat v.cells.toList := by
  cases h with
  | agg cs vs h => simpa [CV.flat, Value.cells] using h
  | junk => exact absurd rfl hj
  | ptrDead b off a h => exact .cons _ _ _ _ (.ptrDead _ _ _ h) .nil
  | srefDead esz b off len cap ex a rcap h => exact .cons _ _ _ _ (.srefDead _ _ _ _ _ _ _ _ h) .nil
  | mapDead b r h => exact .cons _ _ _ _ (.mapDead _ _ h) .nil
  | yieldDead l r h => exact .cons _ _ _ _ (.yieldDead _ _ h) .nil
  | _ => exact .cons _ _ _ _ (by first | constructor <;> assumption | constructor) .nil
end VRLs

/-- A new entry at the heap's end. -/
def Phi.push (φ : Phi) (n : Nat) (e : Ent) : Phi := fun b => if b = n then some e else φ b
def Phi.put (φ : Phi) (n : Nat) (e : Ent) : Phi := fun b => if b = n then some e else φ b

theorem mono_alloc {φ : Phi} {St : Stab} {w : World} {o : Obj} {n : Nat} {e : Ent} (hn : φ n = none) (hst : ∀ r j, St r j → r < w.heap.size) : Mono φ St w (φ.push n e) St (w.alloc o) where
  ext := by
    intro b
    unfold Phi.push
    split
    · subst_vars; rw [hn]; exact .fresh _
    · exact .refl _
  st := fun _ _ h => h
  keep := fun r j h => World.cell?_alloc_lt w o ⟨r, j, none⟩ (hst r j h)

theorem Rel.noEnt {N : Nat} {φ : Phi} {St : Stab} {h : Heap} {w : World} (R : Rel N φ St h w) : φ h.length = none := by
  cases hx : φ h.length with
  | none => rfl
  | some e => exact absurd (R.dom _ _ hx) (by omega)

theorem heap_old (w : World) (o : Obj) (r : Nat) (h : r < w.heap.size) : (w.alloc o).heap[r]? = w.heap[r]? := RowKit.Below.heap_alloc w o r h
theorem heap_new (w : World) (o : Obj) : (w.alloc o).heap[w.heap.size]? = some o := heap_alloc_new w o

/-- A new block of any kind. -/
theorem Rel.push {N : Nat} {φ : Phi} {St : Stab} {h : Heap} {w : World} (R : Rel N φ St h w) (e : Ent) (o : HObj) (O : Obj) (hb : e.blk = some w.heap.size)
    (hown : ∀ r base size, e = .own r base size → ∃ (cs : List CV) (arr : Array Value) (elem : TypeId × Nat × Nat), o = .cells cs ∧ O = .cells arr elem.1 elem.2 ∧ (arr.size = size ∧ Unfz elem.2 size) ∧ base + cs.length ≤ size ∧
      ∀ j c, cs[j]? = some c → ∃ v, arr[base + j]? = some v ∧ VR φ St w c v)
    (htail : ∀ r used u size, e ≠ .tail r used u size)
    (hobj : ∀ r, e = .obj r → ObjRel φ St w o O) :
    Rel N (φ.push h.length e) St (h ++ [o]) (w.alloc O) ∧ Frm h.length φ St w (φ.push h.length e) St (w.alloc O) := by
  have hnone := R.noEnt
  have m : Mono φ St w (φ.push h.length e) St (w.alloc O) := mono_alloc hnone R.stLt
  have old : ∀ b e', φ b = some e' → (φ.push h.length e) b = some e' := by
    intro b e' hb'
    have := R.dom b e' hb'
    simp [Phi.push, hb']; omega
  have inv : ∀ b e', (φ.push h.length e) b = some e' → (b = h.length ∧ e' = e) ∨ (b ≠ h.length ∧ φ b = some e') := by
    intro b e' hb'
    unfold Phi.push at hb'
    split at hb'
    · subst_vars; exact .inl ⟨rfl, by simpa using hb'.symm⟩
    · exact .inr ⟨‹_›, hb'⟩
  constructor
  · refine ⟨?_, ?_, ?_, ?_, ?_, ?_, ?_, ?_, ?_, ?_, ?_⟩
    · intro b e' hb'
      rcases inv b e' hb' with ⟨rfl, _⟩ | ⟨_, hb'⟩
      · simp
      · have := R.dom b e' hb'; simp; omega
    · intro b hb'
      rcases inv b _ hb' with ⟨rfl, he⟩ | ⟨_, hb'⟩
      · subst he; simp [Ent.blk] at hb
      · have := R.dom b _ hb'
        rw [List.getElem?_append_left this]; exact R.dead b hb'
    · intro b r base size hb'
      rcases inv b _ hb' with ⟨rfl, he⟩ | ⟨_, hb'⟩
      · obtain ⟨cs, arr, elem, ho, hO, h1, h2, h3⟩ := hown r base size he.symm
        subst he; simp [Ent.blk] at hb; subst hb
        refine ⟨R.start, cs, arr, elem, by simp [ho], by rw [heap_new, hO], h1, h2, fun j c hc => ?_⟩
        obtain ⟨v, hv, hr⟩ := h3 j c hc
        exact ⟨v, hv, hr.mono m⟩
      · have hd := R.dom b _ hb'
        obtain ⟨hN, cs, arr, elem, ho, hw, h1, h2, h3⟩ := R.own b r base size hb'
        refine ⟨hN, cs, arr, elem, by rw [List.getElem?_append_left hd]; exact ho, ?_, h1, h2, fun j c hc => ?_⟩
        · rw [heap_old w O r (R.lt hb' rfl).2]; exact hw
        · obtain ⟨v, hv, hr⟩ := h3 j c hc
          exact ⟨v, hv, hr.mono m⟩
    · intro k r used u size hb'
      rcases inv k _ hb' with ⟨rfl, he⟩ | ⟨_, hb'⟩
      · exact absurd he.symm (htail _ _ _ _)
      · have hd := R.dom k _ hb'
        obtain ⟨hN, ho, h1, arr, elem, hw, h2⟩ := R.tail k r used u size hb'
        exact ⟨hN, by rw [List.getElem?_append_left hd]; exact ho, h1, arr, elem, by rw [heap_old w O r (R.lt hb' rfl).2]; exact hw, h2⟩
    · intro b r hb'
      rcases inv b _ hb' with ⟨rfl, he⟩ | ⟨_, hb'⟩
      · have hx := hobj r he.symm
        subst he; simp [Ent.blk] at hb; subst hb
        exact ⟨R.start, o, O, by simp, heap_new _ _, hx.mono m⟩
      · have hd := R.dom b _ hb'
        obtain ⟨hN, o', O', ho, hw, hr⟩ := R.obj b r hb'
        exact ⟨hN, o', O', by rw [List.getElem?_append_left hd]; exact ho, by rw [heap_old w O r (R.lt hb' rfl).2]; exact hw, hr.mono m⟩
    · intro b b' e1 e2 r h1 h2 k1 k2
      rcases inv b _ h1 with ⟨x1, y1⟩ | ⟨_, y1⟩ <;> rcases inv b' _ h2 with ⟨x2, y2⟩ | ⟨_, y2⟩
      · rw [x1, x2]
      · rw [y1, hb] at k1; simp at k1; subst k1; have := (R.lt y2 k2).2; omega
      · rw [y2, hb] at k2; simp at k2; subst k2; have := (R.lt y1 k1).2; omega
      · exact R.inj b b' _ _ r y1 y2 k1 k2
    · intro r j hs; have := R.stLt r j hs; simp; omega
    · intro b r base size j hb' hs
      rcases inv b _ hb' with ⟨rfl, rfl⟩ | ⟨_, hb'⟩
      · simp [Ent.blk] at hb; subst hb; have := R.stLt _ j hs; omega
      · exact R.stOwn b r base size j hb' hs
    · intro k r used u size j hb' hs
      rcases inv k _ hb' with ⟨rfl, rfl⟩ | ⟨_, hb'⟩
      · exact absurd rfl (htail r used u size)
      · exact R.stTail k r used u size j hb' hs
    · have := R.start; simp; omega
    · intro k u hb'
      rcases inv k _ hb' with ⟨rfl, he⟩ | ⟨_, hb'⟩
      · subst he; simp [Ent.blk] at hb
      · have := R.dom k _ hb'
        rw [List.getElem?_append_left this]; exact R.void k u hb'
  · refine { toMono := m, size := by simp, stNew := fun _ _ hs => .inl hs, blkNew := ?_, keepBlk := fun r hr _ => heap_old w O r hr, idNew := ?_, os := rfl, output := rfl, tape := rfl }
    · intro b e' r hb' he'
      rcases inv b _ hb' with ⟨rfl, rfl⟩ | ⟨_, hb'⟩
      · rw [hb] at he'; simp at he'; exact .inr (by omega)
      · exact .inl ⟨b, e', hb', he'⟩
    · intro b hbn hb'
      unfold Phi.push; rw [if_neg (by omega)]; exact hb'

end Go.Eng
