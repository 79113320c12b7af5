/- Changes at one place of the clean heap. -/
import Derived.Test.YtjfiojmfcpeaoaaEB
import Derived.Laws.Append
namespace Go.Eng
set_option linter.unusedVariables false

theorem put_same (φ : Phi) (b : Nat) (e : Ent) : (φ.put b e) b = some e := by simp [Phi.put]
theorem put_other (φ : Phi) (b b' : Nat) (e : Ent) (h : b' ≠ b) : (φ.put b e) b' = φ b' := by simp [Phi.put, h]

/-- What an entry owes. -/
def EntOk (N : Nat) (φ : Phi) (St : Stab) (w : World) (o : HObj) : Ent → Prop
  | .own r base size => N ≤ r ∧ ∃ (cs : List CV) (arr : Array Value) (elem : TypeId × Nat × Nat), o = .cells cs ∧ w.heap[r]? = some (.cells arr elem.1 elem.2) ∧ (arr.size = size ∧ Unfz elem.2 size) ∧ base + cs.length ≤ size ∧
      (∀ (j : Nat) (c : CV), cs[j]? = some c → ∃ v, arr[base + j]? = some v ∧ VR φ St w c v) ∧ ∀ j, ¬ St r j
  | .tail r used u size => N ≤ r ∧ o = .tail u ∧ used ≤ size ∧ (∃ (arr : Array Value) (elem : TypeId × Nat × Nat), w.heap[r]? = some (.cells arr elem.1 elem.2) ∧ (arr.size = size ∧ Unfz elem.2 size)) ∧ ∀ j, St r j → j < used
  | .obj r => N ≤ r ∧ ∃ O, w.heap[r]? = some O ∧ ObjRel φ St w o O
  | .void u => o = .tail u
  | .dead => o = .dead

theorem Rel.change {N : Nat} {φ : Phi} {St : Stab} {h : Heap} {w : World} (R : Rel N φ St h w) (b : Nat) (e1 : Ent) (o1 : HObj) (St' : Stab) (h' : Heap) (w' : World)
    (m : Mono φ St w (φ.put b e1) St' w') (hsize : w.heap.size ≤ w'.heap.size)
    (hb : h'[b]? = some o1) (hlen : h.length ≤ h'.length) (hoth : ∀ b' e, b' ≠ b → φ b' = some e → h'[b']? = h[b']?)
    (hkeep : ∀ b' e r, b' ≠ b → φ b' = some e → e.blk = some r → w'.heap[r]? = w.heap[r]?)
    (hst : ∀ r j, St' r j → r < w'.heap.size)
    (hstN : ∀ r j, St' r j → St r j ∨ ∀ b' e, b' ≠ b → φ b' = some e → e.blk ≠ some r)
    (hinj : ∀ r, e1.blk = some r → ∀ b' e, b' ≠ b → φ b' = some e → e.blk ≠ some r)
    (hent : EntOk N (φ.put b e1) St' w' o1 e1) : Rel N (φ.put b e1) St' h' w' := by
  have hbl : b < h'.length := (List.getElem?_eq_some_iff.1 hb).1
  have inv : ∀ b' e', (φ.put b e1) b' = some e' → (b' = b ∧ e' = e1) ∨ (b' ≠ b ∧ φ b' = some e') := by
    intro b' e' hb'
    by_cases hbb : b' = b
    · subst hbb; rw [put_same] at hb'; exact .inl ⟨rfl, by simpa using hb'.symm⟩
    · rw [put_other _ _ _ _ hbb] at hb'; exact .inr ⟨hbb, hb'⟩
  refine ⟨?_, ?_, ?_, ?_, ?_, ?_, ?_, ?_, ?_, ?_, ?_⟩
  · intro b' e' hb'
    rcases inv b' e' hb' with ⟨rfl, _⟩ | ⟨_, hb'⟩
    · exact hbl
    · have := R.dom b' e' hb'; omega
  · intro b' hb'
    rcases inv b' _ hb' with ⟨rfl, he⟩ | ⟨hne, hb'⟩
    · rw [← he] at hent; rw [hb, show o1 = .dead from hent]
    · rw [hoth b' _ hne hb']; exact R.dead b' hb'
  · intro b' r base size hb'
    rcases inv b' _ hb' with ⟨rfl, he⟩ | ⟨hne, hb'⟩
    · rw [← he] at hent
      obtain ⟨hN, cs, arr, elem, ho, hw, h1, h2, h3, _⟩ := hent
      exact ⟨hN, cs, arr, elem, by rw [hb, ho], hw, h1, h2, fun j c hc => by rw [← he]; exact h3 j c hc⟩
    · obtain ⟨hN, cs, arr, elem, ho, hw, h1, h2, h3⟩ := R.own b' r base size hb'
      refine ⟨hN, cs, arr, elem, by rw [hoth b' _ hne hb']; exact ho, by rw [hkeep b' _ r hne hb' rfl]; exact hw, h1, h2, fun j c hc => ?_⟩
      obtain ⟨v, hv, hr⟩ := h3 j c hc
      exact ⟨v, hv, hr.mono m⟩
  · intro k r used u size hb'
    rcases inv k _ hb' with ⟨rfl, he⟩ | ⟨hne, hb'⟩
    · rw [← he] at hent
      obtain ⟨hN, ho, h1, ⟨arr, elem, hw, h2⟩, _⟩ := hent
      exact ⟨hN, by rw [hb, ho], h1, arr, elem, hw, h2⟩
    · obtain ⟨hN, ho, h1, arr, elem, hw, h2⟩ := R.tail k r used u size hb'
      exact ⟨hN, by rw [hoth k _ hne hb']; exact ho, h1, arr, elem, by rw [hkeep k _ r hne hb' rfl]; exact hw, h2⟩
  · intro b' r hb'
    rcases inv b' _ hb' with ⟨rfl, he⟩ | ⟨hne, hb'⟩
    · rw [← he] at hent
      obtain ⟨hN, O, hw, hr⟩ := hent
      exact ⟨hN, o1, O, hb, hw, by rw [← he]; exact hr⟩
    · obtain ⟨hN, o', O', ho, hw, hr⟩ := R.obj b' r hb'
      exact ⟨hN, o', O', by rw [hoth b' _ hne hb']; exact ho, by rw [hkeep b' _ r hne hb' rfl]; exact hw, hr.mono m⟩
  · intro b1 b2 e1' e2' r h1 h2 k1 k2
    rcases inv b1 _ h1 with ⟨x1, y1⟩ | ⟨x1, y1⟩ <;> rcases inv b2 _ h2 with ⟨x2, y2⟩ | ⟨x2, y2⟩
    · rw [x1, x2]
    · rw [y1] at k1; exact absurd k2 (hinj r k1 b2 _ x2 y2)
    · rw [y2] at k2; exact absurd k1 (hinj r k2 b1 _ x1 y1)
    · exact R.inj b1 b2 _ _ r y1 y2 k1 k2
  · exact hst
  · intro b' r base size j hb' hs
    rcases inv b' _ hb' with ⟨rfl, he⟩ | ⟨hne, hb'⟩
    · rw [← he] at hent
      obtain ⟨_, _, _, _, _, _, _, _, _, hn⟩ := hent
      exact hn j hs
    · rcases hstN r j hs with hs | hs
      · exact R.stOwn b' r base size j hb' hs
      · exact hs b' _ hne hb' rfl
  · intro k r used u size j hb' hs
    rcases inv k _ hb' with ⟨rfl, he⟩ | ⟨hne, hb'⟩
    · rw [← he] at hent
      obtain ⟨_, _, _, _, hn⟩ := hent
      exact hn j hs
    · rcases hstN r j hs with hs | hs
      · exact R.stTail k r used u size j hb' hs
      · exact absurd rfl (hs k _ hne hb')
  · exact Nat.le_trans R.start hsize
  · intro k u hb'
    rcases inv k _ hb' with ⟨rfl, he⟩ | ⟨hne, hb'⟩
    · rw [← he] at hent; rw [hb, show o1 = .tail u from hent]
    · rw [hoth k _ hne hb']; exact R.void k u hb'

/-- Cells of a place, put over. -/
def splice {α : Type} (cs : List α) (off : Nat) (news : List α) : List α := cs.take off ++ news ++ cs.drop (off + news.length)

theorem length_splice {α : Type} (cs : List α) (off : Nat) (news : List α) (h : off + news.length ≤ cs.length) : (splice cs off news).length = cs.length := by
  simp [splice]; omega
theorem get_splice {α : Type} (cs : List α) (off : Nat) (news : List α) (h : off + news.length ≤ cs.length) (j : Nat) :
    (splice cs off news)[j]? = if j < off then cs[j]? else if j < off + news.length then news[j - off]? else cs[j]? := by
  unfold splice
  rw [List.append_assoc, List.getElem?_append]
  have hl : (cs.take off).length = off := by simp; omega
  rw [hl]
  split
  · rw [List.getElem?_take_of_lt (by assumption)]
  · rw [List.getElem?_append]
    split
    · rw [if_pos (by omega)]
    · rw [if_neg (by omega), List.getElem?_drop]
      congr 1; omega

theorem Frm.quiet {n : Nat} {φ : Phi} {St : Stab} {w w' : World} (m : Mono φ St w φ St w') (size : w.heap.size ≤ w'.heap.size)
    (keep : ∀ r, r < w.heap.size → (∀ b e, φ b = some e → e.blk ≠ some r) → w'.heap[r]? = w.heap[r]?) (os : w'.os = w.os) (output : w'.output = w.output) (tape : w'.tape = w.tape) :
    Frm n φ St w φ St w' where
  toMono := m
  size := size
  stNew := fun _ _ hs => .inl hs
  blkNew := fun b e r hb he => .inl ⟨b, e, hb, he⟩
  keepBlk := keep
  idNew := fun _ _ hn => hn
  os := os
  output := output
  tape := tape

/-- Cells stored into a row, no cell of which is frozen. -/
theorem run_storeCells_fz (P : Program) (g o : Nat) (t : TypeId) (fz : Nat × Nat) : ∀ (vs : List Value) (i : Nat) (cur : Array Value) (w : World), w.heap[g]? = some (.cells cur t fz) → o + i + vs.length ≤ cur.size →
    (∀ v ∈ vs, v.oneCell' = true) → Unfz fz cur.size →
    (storeCells ⟨g, o, none⟩ vs i).run P w = .ok () (w.setRow g (cur.toList.take (o + i) ++ vs ++ cur.toList.drop (o + i + vs.length)).toArray)
  | [], i, cur, w, hg, _, _, _ => by
    simp only [storeCells, List.append_nil, List.length_nil, Nat.add_zero, List.take_append_drop, Array.toArray_toList]
    rw [setRow_self w g cur t fz hg]
    rfl
  | v :: rest, i, cur, w, hg, hl, h1, hz => by
    have hi : o + i < cur.size := by simp at hl; omega
    have hadd : (⟨g, o, none⟩ : Addr).add i = ⟨g, o + i, none⟩ := by unfold Addr.add; split <;> simp_all
    have hcell : w.cell? ⟨g, o + i, none⟩ = some cur[o + i] := by simp [World.cell?, hg, hi]
    have hfro : w.frozen? ⟨g, o + i, none⟩ = false := by
      simp only [World.frozen?, hg]
      rcases hz with hz | hz <;> simp <;> omega
    have hst : (store ((⟨g, o, none⟩ : Addr).add i) v).run P w = .ok () (w.setRow g (cur.setIfInBounds (o + i) v)) := by
      rw [hadd, run_store P w _ v _ (h1 v (by simp)), hcell]
      simp [hfro, setCell_eq_setRow w g (o + i) cur t fz v hg]
    have ih := run_storeCells_fz P g o t fz rest (i + 1) (cur.setIfInBounds (o + i) v) (w.setRow g (cur.setIfInBounds (o + i) v)) (setRow_heap w g cur _ t _ hg) (by simp at hl ⊢; omega) (fun x hx => h1 x (by simp [hx])) (by simpa using hz)
    simp only [storeCells, Sem.run_bind, hst, Result.andThen_ok, ih, setRow_setRow]
    congr 3
    have e := list_seg_step cur.toList (o + i) v rest (by simp at hl ⊢; omega)
    simpa [Array.toList_setIfInBounds, Nat.add_assoc] using e

/-- A store into an own block. -/
theorem Rel.store {N : Nat} {φ : Phi} {St : Stab} {h : Heap} {w : World} (P : Program) (R : Rel N φ St h w) {b r base size : Nat} (hφ : φ b = some (.own r base size)) {cs : List CV} (hh : h[b]? = some (.cells cs))
    (off : Nat) (news : List CV) (vs : List Value) (hv : VRL φ St w news vs) (hone : ∀ c ∈ news, c.one = true) (hl : off + news.length ≤ cs.length) :
    ∃ w', (storeCells ⟨r, base + off, none⟩ vs).run P w = .ok () w' ∧ Rel N φ St (h.set b (.cells (splice cs off news))) w' ∧ Frm h.length φ St w φ St w' := by
  obtain ⟨hN, cs', arr, elem, ho, hw, ⟨h1, hz⟩, h2, h3⟩ := R.own b r base size hφ
  rw [hh] at ho; simp at ho; subst ho
  have hlen := hv.length
  have hrun := run_storeCells_fz P r (base + off) elem.1 elem.2 vs 0 arr w hw (by omega) (hv.one hone) (by rw [h1]; exact hz)
  simp only [Nat.add_zero] at hrun
  let arr' : Array Value := (splice arr.toList (base + off) vs).toArray
  have harr' : (arr.toList.take (base + off) ++ vs ++ arr.toList.drop (base + off + vs.length)).toArray = arr' := rfl
  rw [harr'] at hrun
  refine ⟨_, hrun, ?_⟩
  have hbr : r < w.heap.size := (Array.getElem?_eq_some_iff.1 hw).1
  have hput : φ.put b (.own r base size) = φ := by
    funext b'; by_cases hb : b' = b
    · subst hb; rw [put_same, hφ]
    · rw [put_other _ _ _ _ hb]
  have hother : ∀ k, k ≠ r → (w.setRow r arr').heap[k]? = w.heap[k]? := fun k hk => setRow_other w r k _ hk
  have m : Mono φ St w φ St (w.setRow r arr') := ⟨fun _ => .refl _, fun _ _ h => h, fun r' j hs => by
    have hne : r' ≠ r := fun e => R.stOwn b r base size j hφ (e ▸ hs)
    exact cell_setRow_other w r _ ⟨r', j, none⟩ hne⟩
  have hbl := R.dom b _ hφ
  have hsl : arr'.size = size := by
    show (splice arr.toList (base + off) vs).toArray.size = size
    rw [List.size_toArray, length_splice _ _ _ (by simp; omega)]; simpa using h1
  refine ⟨?_, Frm.quiet m (by simp) (fun k hk hn => hother k fun e => hn b _ hφ (by rw [e]; rfl)) rfl rfl rfl⟩
  have := R.change b (.own r base size) (.cells (splice cs off news)) St (h.set b (.cells (splice cs off news))) (w.setRow r arr') (hput.symm ▸ m) (by simp)
    (by rw [List.getElem?_set_self hbl]) (by simp) (fun b' e hne hb' => by rw [List.getElem?_set_ne (Ne.symm hne)])
    (fun b' e r' hne hb' he => hother r' (fun e' => hne (R.inj b' b e _ r hb' hφ (e' ▸ he) rfl)))
    (fun r' j hs => by have := R.stLt r' j hs; simpa using this) (fun r' j hs => .inl hs)
    (fun r' he b' e hne hb' he' => by simp [Ent.blk] at he; subst he; exact hne (R.inj b' b e _ r hb' hφ he' rfl))
    (by
      rw [hput]
      refine ⟨hN, _, arr', elem, rfl, setRow_heap w r arr arr' elem.1 elem.2 hw, ⟨hsl, hz⟩, by rw [length_splice _ _ _ hl]; exact h2, fun j c hc => ?_, fun j => R.stOwn b r base size j hφ⟩
      rw [get_splice _ _ _ hl] at hc
      have hga : ∀ k : Nat, arr'[k]? = (splice arr.toList (base + off) vs)[k]? := fun k => by show (splice arr.toList (base + off) vs).toArray[k]? = _; simp
      rw [hga, get_splice _ _ _ (by simp; omega)]
      by_cases c1 : j < off
      · rw [if_pos c1] at hc
        rw [if_pos (by omega)]
        obtain ⟨v, hv', hr⟩ := h3 j c hc
        exact ⟨v, by simpa using hv', hr.mono m⟩
      · rw [if_neg c1] at hc
        rw [if_neg (by omega)]
        by_cases c2 : j < off + news.length
        · rw [if_pos c2] at hc
          rw [if_pos (by omega), show base + j - (base + off) = j - off by omega]
          obtain ⟨v, hv', hr⟩ := hv.get (j - off) c hc
          exact ⟨v, hv', hr.mono m⟩
        · rw [if_neg c2] at hc
          rw [if_neg (by omega)]
          obtain ⟨v, hv', hr⟩ := h3 j c hc
          exact ⟨v, by simpa using hv', hr.mono m⟩)
  rwa [hput] at this

/-- Cells of an own block. -/
theorem Rel.cells {N : Nat} {φ : Phi} {St : Stab} {h : Heap} {w : World} (R : Rel N φ St h w) {b r base size : Nat} (hφ : φ b = some (.own r base size)) {cs : List CV} (hh : h[b]? = some (.cells cs))
    (off n : Nat) (hl : off + n ≤ cs.length) : ∃ vs, VRL φ St w ((cs.drop off).take n) vs ∧ vs.length = n ∧ ∀ (j : Nat) (v : Value), vs[j]? = some v → w.cell? ⟨r, base + off + j, none⟩ = some v := by
  obtain ⟨hN, cs', arr, elem, ho, hw, ⟨h1, hz⟩, h2, h3⟩ := R.own b r base size hφ
  rw [hh] at ho; simp at ho; subst ho
  have hl1 : ((arr.toList.drop (base + off)).take n).length = n := by simp; omega
  have hl2 : ((cs.drop off).take n).length = n := by simp; omega
  refine ⟨(arr.toList.drop (base + off)).take n, VRL.of_get (by omega) ?_, hl1, ?_⟩
  · intro j c v hc hv
    have hj : j < n := by have := (List.getElem?_eq_some_iff.1 hc).1; omega
    rw [List.getElem?_take_of_lt hj, List.getElem?_drop] at hc hv
    obtain ⟨v', hv', hr⟩ := h3 (off + j) c hc
    have : v = v' := by
      rw [Array.getElem?_toList, show base + off + j = base + (off + j) by omega, hv'] at hv
      simpa using hv.symm
    exact this ▸ hr
  · intro j v hv
    have hj : j < n := by have := (List.getElem?_eq_some_iff.1 hv).1; omega
    rw [List.getElem?_take_of_lt hj, List.getElem?_drop, Array.getElem?_toList] at hv
    rw [cell_of_row w r (base + off + j) arr elem.1 elem.2 hw]; exact hv

theorem add_at (b o j : Nat) : (⟨b, o, none⟩ : Addr).add j = ⟨b, o + j, none⟩ := by unfold Addr.add; split <;> simp_all
theorem add_at' (a : Addr) (h : a.spot = none) (j : Nat) : a.add j = ⟨a.block, a.off + j, none⟩ := by
  cases a; simp at h; subst h; exact add_at _ _ _

theorem run_loadCells_list (P : Program) (w : World) (a : Addr) (vs : List Value) (h : ∀ (j : Nat) (v : Value), vs[j]? = some v → w.cell? (a.add j) = some v) :
    (loadCells a vs.length).run P w = .ok vs.toArray w := by
  have := run_loadCells (P := P) (w := w) a vs.length (fun j => vs.getD j default) (fun j hj => by
    rw [h j vs[j] (by simp [hj])]; simp [List.getD, hj])
  rw [this]
  congr 2
  apply List.ext_getElem?
  intro i
  simp only [List.getElem?_map]
  by_cases hi : i < vs.length
  · simp [hi, List.getD]
  · simp [hi]

end Go.Eng
